/-
  Walks and mathematics of LawReadCommand.
-/
import Derived.Test.YtckkfjmjcknjdaaGreatDoorRCText13
import Derived.Test.YtckkfjmjcknjdaaGreatDoorRCEvK
import Derived.Test.YtckkfjmjcknjdaaGreatDoorRCWalk9n
import Derived.LaidMore
namespace Go.Proofs.YtckkfjmjcknjdaaGreatDoor.P3
end Go.Proofs.YtckkfjmjcknjdaaGreatDoor.P3
namespace Go.Proofs.YtckkfjmjcknjdaaGreatDoor
open Go.RowKit P1 P3 P9 P11 P12 P18 K
set_option linter.unusedVariables false
set_option linter.unusedSimpArgs false

structure KC (w : World) (b base top : Nat) (cs : Array Value) (vl vp : Value) (n m : Nat) (zl zp : List Int) : Prop where
  blk : XS b cs 31 w
  own : EvOwn w base vl vp n m zl zp
  le : b < top
  lr : ∀ g, vl.ownBlock = some g → g < top
  pr : ∀ g, vp.ownBlock = some g → g < top

structure KCM (w : World) (b base : Nat) (cs : Array Value) (vl vp : Value) (n m k : Nat) : Prop where
  blk : XS b cs 31 w
  own : EvMarks w base vl vp n m k

section
variable {w w' : World} {b base top : Nat} {cs : Array Value} {vl vp : Value} {n m k : Nat} {zl zp : List Int}

theorem KC.new (ho : EvOwn w base vl vp n m zl zp) : KC (w.alloc (.cells cs 31)) w.heap.size base (w.heap.size + 1) cs vl vp n m zl zp :=
  ⟨heap_alloc_new _ _, ho.on ((Below.refl _ _).alloc (Nat.le_refl _) _), by omega, fun g hg => by have := (ho.l.lt g hg).2; omega, fun g hg => by have := (ho.p.lt g hg).2; omega⟩

theorem KC.on (h : KC w b base top cs vl vp n m zl zp) (hb : Below w.heap.size w w') : KC w' b base top cs vl vp n m zl zp :=
  ⟨h.blk.on hb, h.own.on hb, h.le, h.lr, h.pr⟩

theorem KC.low {B : Nat} (h : KC w b base top cs vl vp n m zl zp) (hb : Below B w w') (hB : top ≤ B) : KC w' b base top cs vl vp n m zl zp :=
  ⟨(hb.block b (Nat.lt_of_lt_of_le h.le hB)).trans h.blk, ⟨own_low h.own.l hb (fun g hg => Nat.lt_of_lt_of_le (h.lr g hg) hB), own_low h.own.p hb (fun g hg => Nat.lt_of_lt_of_le (h.pr g hg) hB), h.own.ne⟩, h.le, h.lr, h.pr⟩

theorem KC.marked (h : KC w b base top cs vl vp n m zl zp) (ho : EvMarks w' base vl vp n m k) (hk : ∀ b, b < w.heap.size → vl.ownBlock ≠ some b → vp.ownBlock ≠ some b → w'.heap[b]? = w.heap[b]?) : KCM w' b base cs vl vp n m k :=
  ⟨(hk b h.blk.lt (own_apart h.own.l h.blk (by decide)) (own_apart h.own.p h.blk (by decide))).trans h.blk, ho⟩

theorem KCM.on (h : KCM w b base cs vl vp n m k) (hb : Below w.heap.size w w') : KCM w' b base cs vl vp n m k :=
  ⟨h.blk.on hb, h.own.on hb⟩
end

set_option maxRecDepth 100000 in
set_option maxHeartbeats 2000000 in
theorem markCommand_keep (op tk sq id kd sn us mb dp : Int) (tx : List UInt8) (vl vp : Value) (n m base k : Nat) (ds up : Int) (zl zp : List Int) (hn20 : n ≤ 1048576) (hm20 : m ≤ 1048576) (hk : k ≤ 1000000) (w : World) (hbase : base ≤ w.heap.size) (ho : EvOwn w base vl vp n m zl zp) :
    Calls Tryz.prog 15 #[cmval op tk sq id kd sn us mb dp vl vp tx ds up, .int .i64 (k : Int)] w fun e w' => e = .returned (.int .i64 ((k + n + m : Nat) : Int)) ∧ EvMarks w' base vl vp n m k ∧ Below base w w' ∧ ∀ b, b < w.heap.size → vl.ownBlock ≠ some b → vp.ownBlock ≠ some b → w'.heap[b]? = w.heap[b]? := by
  have hbA := (Below.refl w.heap.size w).alloc (Nat.le_refl _) (.cells #[.int .i64 op, .int .i64 tk, .int .i64 sq, .int .i64 id, .int .i64 kd, .int .i64 sn, .int .i64 us, .int .i64 mb, vl, .string ⟨tx.toArray⟩, vp, .int .i64 dp, .int .i64 ds, .int .i64 up] 31)
  have HX := hide (XS.new w #[.int .i64 op, .int .i64 tk, .int .i64 sq, .int .i64 id, .int .i64 kd, .int .i64 sn, .int .i64 us, .int .i64 mb, vl, .string ⟨tx.toArray⟩, vp, .int .i64 dp, .int .i64 ds, .int .i64 up] 31)
  have HM := hide (markEvent_keep id kd sn us mb dp tx vl vp n m base k zl zp hn20 hm20 hk _ (Nat.le_trans hbase hbA.size) (ho.on hbA))
  have HB := hide hbA
  have HBA := hide hbase
  clear hbA ho hbase
  have x0 := XS.cell HX.out 0 rfl
  have x1 := XS.cell HX.out 1 rfl
  have x2 := XS.cell HX.out 2 rfl
  have x3 := XS.cell HX.out 3 rfl
  have x4 := XS.cell HX.out 4 rfl
  have x5 := XS.cell HX.out 5 rfl
  have x6 := XS.cell HX.out 6 rfl
  have x7 := XS.cell HX.out 7 rfl
  have x8 := XS.cell HX.out 8 rfl
  have x9 := XS.cell HX.out 9 rfl
  have x10 := XS.cell HX.out 10 rfl
  have x11 := XS.cell HX.out 11 rfl
  have x12 := XS.cell HX.out 12 rfl
  have x13 := XS.cell HX.out 13 rfl
  go_enter Tryz.func15, Tryz.ntmps15
  go_wp2_with fail
  clear x0 x1 x2 x3 x4 x5 x6 x7 x8 x9 x10 x11 x12 x13
  refine HM.out.mono ?_
  rintro e w2 ⟨rfl, hm, hb, hx⟩
  have H1 := hide hm
  have H2 := hide (Below.trans (HB.out.mono HBA.out) hb)
  have H3 := hide (show ∀ b, b < w.heap.size → vl.ownBlock ≠ some b → vp.ownBlock ≠ some b → w2.heap[b]? = w.heap[b]? from fun b hlt h1 h2 => (hx b (Nat.lt_of_lt_of_le hlt HB.out.size) h1 h2).trans (HB.out.block b hlt))
  clear hm hb hx
  go_wp2_with fail
  go_ret
  exact ⟨rfl, H1.out, H2.out, H3.out⟩

set_option maxRecDepth 100000 in
set_option maxHeartbeats 2000000 in
theorem heldCommand_any (op tk sq id kd sn us mb dp : Int) (tx : List UInt8) (vl vp : Value) (n m base k : Nat) (ds up : Int) (hn20 : n ≤ 1048576) (hm20 : m ≤ 1048576) (hk : k ≤ 1000000) (w : World) (ho : EvMarks w base vl vp n m k) :
    Calls Tryz.prog 16 #[cmval op tk sq id kd sn us mb dp vl vp tx ds up, .int .i64 (k : Int)] w fun e w' => e = .returned (.int .i64 ((k + n + m : Nat) : Int)) ∧ Below w.heap.size w w' := by
  have hbA := (Below.refl w.heap.size w).alloc (Nat.le_refl _) (.cells #[.int .i64 op, .int .i64 tk, .int .i64 sq, .int .i64 id, .int .i64 kd, .int .i64 sn, .int .i64 us, .int .i64 mb, vl, .string ⟨tx.toArray⟩, vp, .int .i64 dp, .int .i64 ds, .int .i64 up] 31)
  have HX := hide (XS.new w #[.int .i64 op, .int .i64 tk, .int .i64 sq, .int .i64 id, .int .i64 kd, .int .i64 sn, .int .i64 us, .int .i64 mb, vl, .string ⟨tx.toArray⟩, vp, .int .i64 dp, .int .i64 ds, .int .i64 up] 31)
  have HM := hide (heldEvent_any id kd sn us mb dp tx vl vp n m base k hn20 hm20 hk _ (ho.on hbA))
  have HB := hide hbA
  clear hbA ho
  have x0 := XS.cell HX.out 0 rfl
  have x1 := XS.cell HX.out 1 rfl
  have x2 := XS.cell HX.out 2 rfl
  have x3 := XS.cell HX.out 3 rfl
  have x4 := XS.cell HX.out 4 rfl
  have x5 := XS.cell HX.out 5 rfl
  have x6 := XS.cell HX.out 6 rfl
  have x7 := XS.cell HX.out 7 rfl
  have x8 := XS.cell HX.out 8 rfl
  have x9 := XS.cell HX.out 9 rfl
  have x10 := XS.cell HX.out 10 rfl
  have x11 := XS.cell HX.out 11 rfl
  have x12 := XS.cell HX.out 12 rfl
  have x13 := XS.cell HX.out 13 rfl
  go_enter Tryz.func16, Tryz.ntmps16
  go_wp2_with fail
  clear x0 x1 x2 x3 x4 x5 x6 x7 x8 x9 x10 x11 x12 x13
  refine HM.out.mono ?_
  rintro e w2 ⟨rfl, hb⟩
  have H2 := hide (HB.out.trans (hb.mono HB.out.size))
  clear hb
  go_wp2_with fail
  go_ret
  exact ⟨rfl, H2.out⟩

theorem rcR_small (l : List UInt8) : (rcR l).1.ev.levels.length ≤ 5 ∧ (rcR l).1.ev.prev.length ≤ 3 ∧ (∀ z ∈ (rcR l).1.ev.levels, (Lit.int .i64 z).wf = true) ∧ (∀ z ∈ (rcR l).1.ev.prev, (Lit.int .i64 z).wf = true) := by
  unfold rcR
  by_cases h : (cmdI l).2 = some [] ∧ cmdOk (cmdI l).1 = true
  · rw [if_pos h]
    simp only
    have hc := h.2
    have hr := cmd_rest hc
    by_cases c2 : (cmdI l).1.op = 2
    · have hin := (cmd_in hc).2.2.2.1 c2
      have hs := hr.1 c2
      unfold sendOk at hs
      simp only [Bool.and_eq_true, decide_eq_true_eq] at hs
      have hp := List.eq_nil_of_length_eq_zero hs.2.2.1
      refine ⟨hin.many, by rw [hp]; simp, fun z hz => by have := hin.levels z hz; exact wf_small (by omega) (by omega), fun z hz => by rw [hp] at hz; cases hz⟩
    by_cases c3 : (cmdI l).1.op = 3
    · have hin := evOk_in ((cmd_in hc).2.2.2.2.1 c3)
      exact ⟨hin.many, hin.prevs, fun z hz => by have := hin.levels z hz; exact wf_small (by omega) (by omega), fun z hz => by have := hin.prev z hz; exact wf_small (by omega) (by omega)⟩
    · have hb : (cmdI l).1.ev = noEv := by
        by_cases c4 : (cmdI l).1.op = 4
        · have := hr.2.2.1 c4
          unfold ackdOk at this
          simp only [Bool.and_eq_true] at this
          exact blankE_iff.1 this.2.2
        · exact blankE_iff.1 (hr.2.2.2 c2 c3 c4).1
      rw [hb]
      simp [noEv]
  · rw [if_neg h]
    simp [zeroCmd, noEv]

set_option maxRecDepth 100000 in
set_option maxHeartbeats 8000000 in
theorem FnExactReadCommand_walk (a0 : ByteArray) (w0 : a0.size ≤ maxLen) (w : World) (hL : laidMetH Tryz.prog Rows.fnExactReadCommandRow.laid w) :
    Calls Tryz.prog 5 #[.string a0] w fun e w' => e = .returned (.bool true) ∧ Below w.heap.size w w' := by
  clear hL
  unfold maxLen at w0
  by_cases hbig : 1048576 < a0.size
  · go_enter Tryz.func5, Tryz.ntmps5
    go_wp2_with fail
    go_ret
    exact ⟨rfl, Below.refl _ _⟩
  · have hs : a0.size ≤ 1048576 := by omega
    clear w0
    obtain ⟨hl5, hl3, hwl, hwp⟩ := rcR_small (bl a0)
    have HSP := hide (fun w => specReadCommand_any a0 hs w)
    have HIM := hide (fun w => implReadCommand_any a0 hs w)
    unfold RcrPost at HSP HIM
    obtain ⟨c, ok, hjr⟩ : ∃ c ok, rcR (bl a0) = (c, ok) := ⟨_, _, rfl⟩
    obtain ⟨op, tk, sq, ⟨id, kd, sn, us, mb, zl, tx, zp, dp⟩, ds, up⟩ := c
    rw [hjr] at hl5 hl3 HSP HIM hwl hwp
    simp only at hl5 hl3 HSP HIM hwl hwp
    clear hjr
    obtain ⟨N, hN⟩ : ∃ N, zl.length = N := ⟨_, rfl⟩
    obtain ⟨M, hM⟩ : ∃ M, zp.length = M := ⟨_, rfl⟩
    rw [hN] at hl5 HSP HIM
    rw [hM] at hl3 HSP HIM
    have HWL := hide hwl
    have HWP := hide hwp
    clear hN hM hwl hwp
    go_enter Tryz.func5, Tryz.ntmps5
    go_wp2_with fail
    refine (HSP.out _).mono ?_
    rintro e w1 ⟨vl0, vp0, rfl, ho0, hb0⟩
    obtain ⟨oa0, cl0, hvl0⟩ := row_form ho0.l
    obtain ⟨ob0, cp0, hvp0⟩ := row_form ho0.p
    subst hvl0
    subst hvp0
    have hk0 := KC.new (cs := #[.int .i64 op, .int .i64 tk, .int .i64 sq, .int .i64 id, .int .i64 kd, .int .i64 sn, .int .i64 us, .int .i64 mb, .slice oa0 N cl0, .string ⟨tx.toArray⟩, .slice ob0 M cp0, .int .i64 dp, .int .i64 ds, .int .i64 up]) ho0
    have hbn0 := (Below.refl w1.heap.size w1).alloc (Nat.le_refl _) (.cells #[.int .i64 op, .int .i64 tk, .int .i64 sq, .int .i64 id, .int .i64 kd, .int .i64 sn, .int .i64 us, .int .i64 mb, .slice oa0 N cl0, .string ⟨tx.toArray⟩, .slice ob0 M cp0, .int .i64 dp, .int .i64 ds, .int .i64 up] 31)
    have hbb0 := hb0.trans (hbn0.mono hb0.size)
    have HK0 := hide hk0
    have B2 := hide hbb0
    have sz2 : (w1.alloc (.cells #[.int .i64 op, .int .i64 tk, .int .i64 sq, .int .i64 id, .int .i64 kd, .int .i64 sn, .int .i64 us, .int .i64 mb, .slice oa0 N cl0, .string ⟨tx.toArray⟩, .slice ob0 M cp0, .int .i64 dp, .int .i64 ds, .int .i64 up] 31)).heap.size = w1.heap.size + 1 := by simp
    clear ho0 hb0 hk0 hbn0 hbb0
    go_wp2_with fail
    generalize w1.alloc (.cells #[.int .i64 op, .int .i64 tk, .int .i64 sq, .int .i64 id, .int .i64 kd, .int .i64 sn, .int .i64 us, .int .i64 mb, .slice oa0 N cl0, .string ⟨tx.toArray⟩, .slice ob0 M cp0, .int .i64 dp, .int .i64 ds, .int .i64 up] 31) = w2 at HK0 B2 sz2 ⊢
    refine (HIM.out _).mono ?_
    rintro e w3 ⟨vl1, vp1, rfl, ho1, hb1⟩
    obtain ⟨oa1, cl1, hvl1⟩ := row_form ho1.l
    obtain ⟨ob1, cp1, hvp1⟩ := row_form ho1.p
    subst hvl1
    subst hvp1
    have hk1 := KC.new (cs := #[.int .i64 op, .int .i64 tk, .int .i64 sq, .int .i64 id, .int .i64 kd, .int .i64 sn, .int .i64 us, .int .i64 mb, .slice oa1 N cl1, .string ⟨tx.toArray⟩, .slice ob1 M cp1, .int .i64 dp, .int .i64 ds, .int .i64 up]) ho1
    have hbn1 := (Below.refl w3.heap.size w3).alloc (Nat.le_refl _) (.cells #[.int .i64 op, .int .i64 tk, .int .i64 sq, .int .i64 id, .int .i64 kd, .int .i64 sn, .int .i64 us, .int .i64 mb, .slice oa1 N cl1, .string ⟨tx.toArray⟩, .slice ob1 M cp1, .int .i64 dp, .int .i64 ds, .int .i64 up] 31)
    have hbb1 := hb1.trans (hbn1.mono hb1.size)
    have HK04 := hide (HK0.out.on hbb1)
    have B4 := hide (B2.out.trans (hbb1.mono B2.out.size))
    have HK1 := hide hk1
    have hs3 := hb1.size
    have hs4 := hbb1.size
    clear ho1 hb1 hk1 hbn1 hbb1 HK0
    have x0 := XS.cell HK1.out.blk 0 rfl
    have x1 := XS.cell HK1.out.blk 1 rfl
    have x2 := XS.cell HK1.out.blk 2 rfl
    have x3 := XS.cell HK1.out.blk 3 rfl
    have x4 := XS.cell HK1.out.blk 4 rfl
    have x5 := XS.cell HK1.out.blk 5 rfl
    have x6 := XS.cell HK1.out.blk 6 rfl
    have x7 := XS.cell HK1.out.blk 7 rfl
    have x8 := XS.cell HK1.out.blk 8 rfl
    have x9 := XS.cell HK1.out.blk 9 rfl
    have x10 := XS.cell HK1.out.blk 10 rfl
    have x11 := XS.cell HK1.out.blk 11 rfl
    have x12 := XS.cell HK1.out.blk 12 rfl
    have x13 := XS.cell HK1.out.blk 13 rfl
    have y0 := XS.cell HK04.out.blk 0 rfl
    have y1 := XS.cell HK04.out.blk 1 rfl
    have y2 := XS.cell HK04.out.blk 2 rfl
    have y3 := XS.cell HK04.out.blk 3 rfl
    have y4 := XS.cell HK04.out.blk 4 rfl
    have y5 := XS.cell HK04.out.blk 5 rfl
    have y6 := XS.cell HK04.out.blk 6 rfl
    have y7 := XS.cell HK04.out.blk 7 rfl
    have y8 := XS.cell HK04.out.blk 8 rfl
    have y9 := XS.cell HK04.out.blk 9 rfl
    have y10 := XS.cell HK04.out.blk 10 rfl
    have y11 := XS.cell HK04.out.blk 11 rfl
    have y12 := XS.cell HK04.out.blk 12 rfl
    have y13 := XS.cell HK04.out.blk 13 rfl
    go_wp2_with fail
    generalize w3.alloc (.cells #[.int .i64 op, .int .i64 tk, .int .i64 sq, .int .i64 id, .int .i64 kd, .int .i64 sn, .int .i64 us, .int .i64 mb, .slice oa1 N cl1, .string ⟨tx.toArray⟩, .slice ob1 M cp1, .int .i64 dp, .int .i64 ds, .int .i64 up] 31) = w4 at HK1 HK04 B4 hs4 x0 x1 x2 x3 x4 x5 x6 x7 x8 x9 x10 x11 x12 x13 y0 y1 y2 y3 y4 y5 y6 y7 y8 y9 y10 y11 y12 y13 ⊢
    obtain ⟨_, _, heX, hatA⟩ := intsAt_of_own HK1.out.own.l HWL.out
    cases heX
    obtain ⟨_, _, heX, hbtA⟩ := intsAt_of_own HK1.out.own.p HWP.out
    cases heX
    obtain ⟨_, _, heX, hatB⟩ := intsAt_of_own HK04.out.own.l HWL.out
    cases heX
    obtain ⟨_, _, heX, hbtB⟩ := intsAt_of_own HK04.out.own.p HWP.out
    cases heX
    refine (eqCommand_same op tk sq id kd sn us mb dp _ N _ tx _ M _ ds up zl zp _ _ _ _ (by omega) (by omega) _ hatA hatB hbtA hbtB).mono ?_
    rintro e w5 ⟨rfl, hbq⟩
    have HK15 := hide (HK1.out.on hbq)
    have HK05 := hide (HK04.out.on hbq)
    have B5 := hide (B4.out.trans (hbq.mono B4.out.size))
    clear hbq hatA hatB hbtA hbtB HK1 HK04 B4 x0 x1 x2 x3 x4 x5 x6 x7 x8 x9 x10 x11 x12 x13 y0 y1 y2 y3 y4 y5 y6 y7 y8 y9 y10 y11 y12 y13
    have x0 := XS.cell HK15.out.blk 0 rfl
    have x1 := XS.cell HK15.out.blk 1 rfl
    have x2 := XS.cell HK15.out.blk 2 rfl
    have x3 := XS.cell HK15.out.blk 3 rfl
    have x4 := XS.cell HK15.out.blk 4 rfl
    have x5 := XS.cell HK15.out.blk 5 rfl
    have x6 := XS.cell HK15.out.blk 6 rfl
    have x7 := XS.cell HK15.out.blk 7 rfl
    have x8 := XS.cell HK15.out.blk 8 rfl
    have x9 := XS.cell HK15.out.blk 9 rfl
    have x10 := XS.cell HK15.out.blk 10 rfl
    have x11 := XS.cell HK15.out.blk 11 rfl
    have x12 := XS.cell HK15.out.blk 12 rfl
    have x13 := XS.cell HK15.out.blk 13 rfl
    have hsz5 := B5.out.size
    have hlt5 := HK05.out.blk.lt
    have hlt15 := HK15.out.blk.lt
    go_wp2_with fail
    clear x0 x1 x2 x3 x4 x5 x6 x7 x8 x9 x10 x11 x12 x13
    refine (markCommand_keep op tk sq id kd sn us mb dp tx _ _ N M w2.heap.size 1 ds up zl zp (by omega) (by omega) (by omega) w5 (by omega) HK15.out.own).mono ?_
    rintro e w6 ⟨rfl, hm6, hb6, hx6⟩
    have HK16 := hide (HK15.out.marked hm6 hx6)
    have HK06 := hide (HK05.out.low hb6 (by omega))
    have B6 := hide (B5.out.trans (hb6.mono (by have := B2.out.size; omega)))
    clear hm6 hb6 hx6 HK15 HK05 B5 hsz5 hlt5 hlt15
    have x0 := XS.cell HK16.out.blk 0 rfl
    have x1 := XS.cell HK16.out.blk 1 rfl
    have x2 := XS.cell HK16.out.blk 2 rfl
    have x3 := XS.cell HK16.out.blk 3 rfl
    have x4 := XS.cell HK16.out.blk 4 rfl
    have x5 := XS.cell HK16.out.blk 5 rfl
    have x6 := XS.cell HK16.out.blk 6 rfl
    have x7 := XS.cell HK16.out.blk 7 rfl
    have x8 := XS.cell HK16.out.blk 8 rfl
    have x9 := XS.cell HK16.out.blk 9 rfl
    have x10 := XS.cell HK16.out.blk 10 rfl
    have x11 := XS.cell HK16.out.blk 11 rfl
    have x12 := XS.cell HK16.out.blk 12 rfl
    have x13 := XS.cell HK16.out.blk 13 rfl
    go_wp2_with fail
    clear x0 x1 x2 x3 x4 x5 x6 x7 x8 x9 x10 x11 x12 x13
    refine (heldCommand_any op tk sq id kd sn us mb dp tx _ _ N M w2.heap.size 1 ds up (by omega) (by omega) (by omega) _ HK16.out.own).mono ?_
    rintro e w7 ⟨rfl, hbq⟩
    have HK17 := hide (HK16.out.on hbq)
    have HK07 := hide (HK06.out.on hbq)
    have B7 := hide (B6.out.trans (hbq.mono B6.out.size))
    clear hbq HK16 HK06 B6
    go_wp2_with fail
    refine (HIM.out _).mono ?_
    rintro e w8 ⟨vl8, vp8, rfl, ho8, hb8⟩
    obtain ⟨oa8, cl8, hvl8⟩ := row_form ho8.l
    obtain ⟨ob8, cp8, hvp8⟩ := row_form ho8.p
    subst hvl8
    subst hvp8
    have hk8 := KC.new (cs := #[.int .i64 op, .int .i64 tk, .int .i64 sq, .int .i64 id, .int .i64 kd, .int .i64 sn, .int .i64 us, .int .i64 mb, .slice oa8 N cl8, .string ⟨tx.toArray⟩, .slice ob8 M cp8, .int .i64 dp, .int .i64 ds, .int .i64 up]) ho8
    have hbn8 := (Below.refl w8.heap.size w8).alloc (Nat.le_refl _) (.cells #[.int .i64 op, .int .i64 tk, .int .i64 sq, .int .i64 id, .int .i64 kd, .int .i64 sn, .int .i64 us, .int .i64 mb, .slice oa8 N cl8, .string ⟨tx.toArray⟩, .slice ob8 M cp8, .int .i64 dp, .int .i64 ds, .int .i64 up] 31)
    have hbb8 := hb8.trans (hbn8.mono hb8.size)
    have HK19 := hide (HK17.out.on hbb8)
    have HK09 := hide (HK07.out.on hbb8)
    have B9 := hide (B7.out.trans (hbb8.mono B7.out.size))
    have HK8 := hide hk8
    clear ho8 hb8 hk8 hbn8 hbb8 HK17 HK07 B7
    have x0 := XS.cell HK8.out.blk 0 rfl
    have x1 := XS.cell HK8.out.blk 1 rfl
    have x2 := XS.cell HK8.out.blk 2 rfl
    have x3 := XS.cell HK8.out.blk 3 rfl
    have x4 := XS.cell HK8.out.blk 4 rfl
    have x5 := XS.cell HK8.out.blk 5 rfl
    have x6 := XS.cell HK8.out.blk 6 rfl
    have x7 := XS.cell HK8.out.blk 7 rfl
    have x8 := XS.cell HK8.out.blk 8 rfl
    have x9 := XS.cell HK8.out.blk 9 rfl
    have x10 := XS.cell HK8.out.blk 10 rfl
    have x11 := XS.cell HK8.out.blk 11 rfl
    have x12 := XS.cell HK8.out.blk 12 rfl
    have x13 := XS.cell HK8.out.blk 13 rfl
    have y0 := XS.cell HK09.out.blk 0 rfl
    have y1 := XS.cell HK09.out.blk 1 rfl
    have y2 := XS.cell HK09.out.blk 2 rfl
    have y3 := XS.cell HK09.out.blk 3 rfl
    have y4 := XS.cell HK09.out.blk 4 rfl
    have y5 := XS.cell HK09.out.blk 5 rfl
    have y6 := XS.cell HK09.out.blk 6 rfl
    have y7 := XS.cell HK09.out.blk 7 rfl
    have y8 := XS.cell HK09.out.blk 8 rfl
    have y9 := XS.cell HK09.out.blk 9 rfl
    have y10 := XS.cell HK09.out.blk 10 rfl
    have y11 := XS.cell HK09.out.blk 11 rfl
    have y12 := XS.cell HK09.out.blk 12 rfl
    have y13 := XS.cell HK09.out.blk 13 rfl
    go_wp2_with fail
    generalize w8.alloc (.cells #[.int .i64 op, .int .i64 tk, .int .i64 sq, .int .i64 id, .int .i64 kd, .int .i64 sn, .int .i64 us, .int .i64 mb, .slice oa8 N cl8, .string ⟨tx.toArray⟩, .slice ob8 M cp8, .int .i64 dp, .int .i64 ds, .int .i64 up] 31) = w9 at HK8 HK19 HK09 B9 x0 x1 x2 x3 x4 x5 x6 x7 x8 x9 x10 x11 x12 x13 y0 y1 y2 y3 y4 y5 y6 y7 y8 y9 y10 y11 y12 y13 ⊢
    obtain ⟨_, _, heX, hatA⟩ := intsAt_of_own HK8.out.own.l HWL.out
    cases heX
    obtain ⟨_, _, heX, hbtA⟩ := intsAt_of_own HK8.out.own.p HWP.out
    cases heX
    obtain ⟨_, _, heX, hatB⟩ := intsAt_of_own HK09.out.own.l HWL.out
    cases heX
    obtain ⟨_, _, heX, hbtB⟩ := intsAt_of_own HK09.out.own.p HWP.out
    cases heX
    refine (eqCommand_same op tk sq id kd sn us mb dp _ N _ tx _ M _ ds up zl zp _ _ _ _ (by omega) (by omega) _ hatA hatB hbtA hbtB).mono ?_
    rintro e w10 ⟨rfl, hbq⟩
    have HK110 := hide (HK19.out.on hbq)
    have B10 := hide (B9.out.trans (hbq.mono B9.out.size))
    clear hbq hatA hatB hbtA hbtB HK19 HK8 HK09 B9 x0 x1 x2 x3 x4 x5 x6 x7 x8 x9 x10 x11 x12 x13 y0 y1 y2 y3 y4 y5 y6 y7 y8 y9 y10 y11 y12 y13
    have x0 := XS.cell HK110.out.blk 0 rfl
    have x1 := XS.cell HK110.out.blk 1 rfl
    have x2 := XS.cell HK110.out.blk 2 rfl
    have x3 := XS.cell HK110.out.blk 3 rfl
    have x4 := XS.cell HK110.out.blk 4 rfl
    have x5 := XS.cell HK110.out.blk 5 rfl
    have x6 := XS.cell HK110.out.blk 6 rfl
    have x7 := XS.cell HK110.out.blk 7 rfl
    have x8 := XS.cell HK110.out.blk 8 rfl
    have x9 := XS.cell HK110.out.blk 9 rfl
    have x10 := XS.cell HK110.out.blk 10 rfl
    have x11 := XS.cell HK110.out.blk 11 rfl
    have x12 := XS.cell HK110.out.blk 12 rfl
    have x13 := XS.cell HK110.out.blk 13 rfl
    go_wp2_with fail
    clear x0 x1 x2 x3 x4 x5 x6 x7 x8 x9 x10 x11 x12 x13
    refine (heldCommand_any op tk sq id kd sn us mb dp tx _ _ N M w2.heap.size 1 ds up (by omega) (by omega) (by omega) _ HK110.out.own).mono ?_
    rintro e w11 ⟨rfl, hbq⟩
    have B11 := hide (B10.out.trans (hbq.mono B10.out.size))
    clear hbq  B10
    go_wp2_with fail
    go_ret
    exact ⟨rfl, B11.out⟩

end Go.Proofs.YtckkfjmjcknjdaaGreatDoor
