/-
  A log in a variable, its entries in a row of the call's own: what keeps it.
  A journal in a variable, its entries in a row of the call's own: what keeps it.
  The type that errors.As asks for, as the rows list it.
  The law FnExactReadJournal: its walk (made by wip/tools/gen7l.py).
-/
import Derived.Test.YthbgklmnmoclhaaDoorPack18
import Derived.Test.YthbgklmnmoclhaaDoorWalk7g
import Derived.Test.YthbgklmnmoclhaaDoorPack37
import Derived.Test.YthbgklmnmoclhaaDoorRows
import Derived.LaidSub
import Derived.LaidMore
import Derived.LaidLaws
import Derived.LaidHandle
import Derived.Stop.Joined
import Derived.Test.YthbgklmnmoclhaaDoorWalk7o
import Derived.Test.YthbgklmnmoclhaaDoorJour3
namespace Go.Proofs.YthbgklmnmoclhaaDoor
open Go.RowKit P1 P9 K
set_option linter.unusedVariables false
set_option linter.unusedSimpArgs false

/-- A variable at block b that holds a log whose entries lie in a row from block 'base' on. -/
structure KL (w : World) (b base : Nat) (s u : Int) (v : Value) (n : Nat) (es : List EntV) : Prop where
  blk : w.heap[b]? = some (.cells #[.int .i64 s, .int .i64 u, v] 34 (0, 0))
  own : w.ownsRow base 77 3 v n (es.flatMap ecells)

section
variable {w w' : World} {b base : Nat} {s u : Int} {v : Value} {n : Nat} {es : List EntV}

theorem KL.new (ho : w.ownsRow base 77 3 v n (es.flatMap ecells)) : KL (w.alloc (.cells #[.int .i64 s, .int .i64 u, v] 34)) w.heap.size base s u v n es :=
  ⟨heap_alloc_new _ _, ho.alloc _⟩

theorem KL.on (h : KL w b base s u v n es) (hb : Below w.heap.size w w') : KL w' b base s u v n es :=
  ⟨(hb.block b (blk_lt h.blk)).trans h.blk, own_below h.own hb⟩

theorem KL.lt (h : KL w b base s u v n es) : b < w.heap.size := blk_lt h.blk

theorem KL.lv (h : KL w b base s u v n es) : LV w b s u v := ⟨blk_cell h.blk 0 rfl, blk_cell h.blk 1 rfl, blk_cell h.blk 2 rfl⟩

/-- Another row written leaves it. -/
theorem KL.kept {base2 : Nat} {v2 : Value} {n2 : Nat} {xs2 : List Value} (h : KL w b base s u v n es) (ho : w.ownsRow base2 77 3 v2 n2 xs2) (hg : w.grownBy w' v2.ownBlock) (hne : ∀ g, v.ownBlock = some g → v2.ownBlock ≠ some g) : KL w' b base s u v n es := by
  refine ⟨(hg.block b (blk_lt h.blk) (fun e1 => ?_)).trans h.blk, h.own.kept hg ?_⟩
  · rcases ho.2 with ⟨rfl, -⟩ | ⟨g, cap, cur, rfl, -, hgb, -⟩
    · cases e1
    · cases e1
      have k := h.blk
      rw [hgb] at k
      cases k
  · cases hv : v.ownBlock with
    | none => exact Or.inl rfl
    | some g => exact Or.inr (fun e => hne g hv e.symm)

/-- Its own row written leaves the variable. -/
theorem KL.marked (h : KL w b base s u v n es) {ms : List EntV} (ho : w'.ownsRow base 77 3 v n (ms.flatMap ecells)) (hg : w.grownBy w' v.ownBlock) : KL w' b base s u v n ms := by
  refine ⟨(hg.block b (blk_lt h.blk) (fun e1 => ?_)).trans h.blk, ho⟩
  rcases h.own.2 with ⟨rfl, -⟩ | ⟨g, cap, cur, rfl, -, hgb, -⟩
  · cases e1
  · cases e1
    have k := h.blk
    rw [hgb] at k
    cases k

theorem KL.row (h : KL w b base s u v n es) : ∀ g, v.ownBlock = some g → base ≤ g ∧ g < w.heap.size := h.own.lt

/-- The laws' own log, in the block where it was laid. -/
structure KA (w : World) (b : Nat) (s u : Int) (v : Value) : Prop where
  blk : w.heap[b]? = some (.cells #[.int .i64 s, .int .i64 u, v] 26 (0, 0))
theorem KA.new (w : World) (s u : Int) (v : Value) : KA (w.alloc (.cells #[.int .i64 s, .int .i64 u, v] 26)) w.heap.size s u v := ⟨heap_alloc_new _ _⟩
theorem KA.on (h : KA w b s u v) (hb : Below w.heap.size w w') : KA w' b s u v := ⟨(hb.block b (blk_lt h.blk)).trans h.blk⟩
theorem KA.lv (h : KA w b s u v) : LV w b s u v := ⟨blk_cell h.blk 0 rfl, blk_cell h.blk 1 rfl, blk_cell h.blk 2 rfl⟩
theorem KA.lt (h : KA w b s u v) : b < w.heap.size := blk_lt h.blk
theorem KA.kept {base2 : Nat} {v2 : Value} {n2 : Nat} {xs2 : List Value} (h : KA w b s u v) (ho : w.ownsRow base2 77 3 v2 n2 xs2) (hg : w.grownBy w' v2.ownBlock) : KA w' b s u v := by
  refine ⟨(hg.block b (blk_lt h.blk) (fun e1 => ?_)).trans h.blk⟩
  rcases ho.2 with ⟨rfl, -⟩ | ⟨g, cap, cur, rfl, -, hgb, -⟩
  · cases e1
  · cases e1
    have k := h.blk
    rw [hgb] at k
    cases k

end

theorem own_marks_at {w : World} {base : Nat} {v : Value} {n k : Nat} (h : w.ownsRow base 77 3 v n ((marksE k n).flatMap ecells)) : ∃ oa cap, v = .slice oa n cap ∧ EntsAt w oa n cap (marksE k n) := entsAt_own h

/-- Rows of the call that write only into new memory and into rows from 'base' on. -/
theorem below_row {B base : Nat} {W w w' : World} {v : Value} {n : Nat} {xs : List Value} (h : Below B W w) (hB : B ≤ w.heap.size) (hb : B ≤ base) (ho : w.ownsRow base 77 3 v n xs) (hg : w.grownBy w' v.ownBlock) : Below B W w' :=
  h.grown hg hB (fun q hq => Nat.le_trans hb (ho.lt q hq).1)

end Go.Proofs.YthbgklmnmoclhaaDoor

namespace Go.Proofs.YthbgklmnmoclhaaDoor
open Go.RowKit P1 P9 K
set_option linter.unusedVariables false
set_option linter.unusedSimpArgs false

/-- A variable at block b that holds a journal whose entries lie in a row from block 'base' on, ahead of block 'top'. -/
structure KJ (w : World) (b base top : Nat) (n t v0 s u : Int) (v : Value) (m : Nat) (es : List EntV) : Prop where
  blk : JB w b n t v0 s u v
  own : w.ownsRow base 77 3 v m (es.flatMap ecells)
  ahead : ∀ g, v.ownBlock = some g → base ≤ g ∧ g < top

section
variable {w w' : World} {b base top : Nat} {n t v0 s u : Int} {v : Value} {m : Nat} {es : List EntV}

theorem KJ.new (ho : w.ownsRow base 77 3 v m (es.flatMap ecells)) : KJ (w.alloc (.cells (jcells n t v0 s u v) 36)) w.heap.size base w.heap.size n t v0 s u v m es :=
  ⟨heap_alloc_new _ _, ho.alloc _, ho.lt⟩

theorem KJ.on (h : KJ w b base top n t v0 s u v m es) (hb : Below w.heap.size w w') : KJ w' b base top n t v0 s u v m es :=
  ⟨h.blk.on hb h.blk.lt, own_below h.own hb, h.ahead⟩

theorem KJ.lt (h : KJ w b base top n t v0 s u v m es) : b < w.heap.size := h.blk.lt

theorem jb_row {base2 : Nat} {v2 : Value} {n2 : Nat} {xs2 : List Value} (hj : JB w b n t v0 s u v) (ho : w.ownsRow base2 77 3 v2 n2 xs2) : v2.ownBlock ≠ some b := by
  intro e1
  rcases ho.2 with ⟨rfl, -⟩ | ⟨g, cap, cur, rfl, -, hgb, -⟩
  · cases e1
  · cases e1
    unfold JB at hj
    rw [hgb] at hj
    cases hj

/-- Another row written leaves it. -/
theorem KJ.kept {base2 : Nat} {v2 : Value} {n2 : Nat} {xs2 : List Value} (h : KJ w b base top n t v0 s u v m es) (ho : w.ownsRow base2 77 3 v2 n2 xs2) (hg : w.grownBy w' v2.ownBlock) (hne : ∀ g, v.ownBlock = some g → v2.ownBlock ≠ some g) : KJ w' b base top n t v0 s u v m es := by
  refine ⟨h.blk.kept hg (jb_row h.blk ho), h.own.kept hg ?_, h.ahead⟩
  cases hv : v.ownBlock with
  | none => exact Or.inl rfl
  | some g => exact Or.inr (fun e => hne g hv e.symm)

/-- Its own row written leaves the variable. -/
theorem KJ.marked (h : KJ w b base top n t v0 s u v m es) {ms : List EntV} (ho : w'.ownsRow base 77 3 v m (ms.flatMap ecells)) (hg : w.grownBy w' v.ownBlock) : KJ w' b base top n t v0 s u v m ms :=
  ⟨h.blk.kept hg (jb_row h.blk h.own), ho, h.ahead⟩

/-- Two rows of which one was made behind the other are not the same. -/
theorem rows_part {base1 top1 base2 top2 b2 : Nat} {n2 t2 v2 s2 u2 : Int} {x2 : Value} {m2 : Nat} {es2 : List EntV} {w2 : World} (h : KJ w b base1 top1 n t v0 s u v m es) (h2 : KJ w2 b2 base2 top2 n2 t2 v2 s2 u2 x2 m2 es2) (hle : top1 ≤ base2) : ∀ g, v.ownBlock = some g → x2.ownBlock ≠ some g := by
  intro g hg e
  have k1 := h.ahead g hg
  have k2 := h2.ahead g e
  omega
end

end Go.Proofs.YthbgklmnmoclhaaDoor

namespace Go.Proofs.YthbgklmnmoclhaaDoor
open Go.RowKit K
set_option linter.unusedVariables false

theorem el_var : Tryd.prog.globalNamed "errors.errorType" = some 0 := by kernel_rfl
theorem el_rt : (Tryd.prog.cutTypes.find? (·.1 == "internal/reflectlite.rtype")).map (·.2) = some 156 := by kernel_rfl
theorem el_row : ((List.range 214).filter fun t => Tryd.prog.rowNamed t [101, 114, 114, 111, 114]) = [64] := by kernel_rfl
theorem el_size : Tryd.prog.types.size = 214 := by kernel_rfl

theorem err_of_laid {row : List (String × DataW Unit)} {W : World} (e : row.filter (fun x => x.2.handleName?.isSome) = [("errors.errorType", DataW.iface "internal/reflectlite.rtype" (.agg [.ptr (.lit (.string [101, 114, 114, 111, 114]))]))]) (h : laidMetH Tryd.prog row W) : ErrVar W := by
  unfold laidMetH at h
  rw [e] at h
  obtain ⟨name, u, ty, e1, e2, e3, e4, e5⟩ := h.2 _ (List.mem_singleton.2 rfl)
  have en : name = [101, 114, 114, 111, 114] := (Option.some.inj e1).symm
  subst en
  obtain rfl := Option.some.inj (el_rt.symm.trans e2)
  have hm : ty ∈ (List.range 214).filter fun t => Tryd.prog.rowNamed t [101, 114, 114, 111, 114] := List.mem_filter.2 ⟨List.mem_range.2 (by rw [← el_size]; exact e3), e4⟩
  rw [el_row] at hm
  obtain rfl := List.mem_singleton.1 hm
  have hh : typeHandle Tryd.prog 64 = .pointer (some ⟨5, 64, none⟩) := by kernel_rfl
  rw [hh] at e5
  simpa [ErrVar] using World.var?_cell el_var e5 0

end Go.Proofs.YthbgklmnmoclhaaDoor

namespace Go.Proofs.YthbgklmnmoclhaaDoor
open Go.RowKit P1 P3 P9 K
set_option linter.unusedVariables false
set_option linter.unusedSimpArgs false

theorem jr_small (n : Int) (l : List UInt8) : (jrR n l).1.es.length ≤ 60 := by
  unfold jrR
  cases h : rdJn n l with
  | none => exact Nat.zero_le _
  | some p =>
    obtain ⟨j, e⟩ := p
    exact (lgOk_rm (JnV.parts (rdJn_ok h).1).2.2).2.2.2.2.1

set_option maxHeartbeats 8000000 in
theorem FnExactReadJournal_walk (a0 : Int) (a1 : ByteArray) (w0 : (Lit.int .i64 a0).wf = true) (w1' : a1.size ≤ maxLen) (w : World) (hL : laidMetH Tryd.prog Rows.fnExactReadJournalRow.laid w) :
    Calls Tryd.prog 5 #[.int .i64 a0, .string a1] w fun e w' => e = .returned (.bool true) ∧ Below w.heap.size w w' := by
  unfold maxLen at w1'
  have HT := hide (sums_of_laid (by kernel_rfl) hL)
  have HER := hide (err_of_laid (by kernel_rfl) hL)
  clear hL w0
  by_cases hbig : 1048576 < a1.size
  · go_enter Tryd.func5, Tryd.ntmps5
    go_wp2_with fail
    go_ret
    exact ⟨rfl, Below.refl _ _⟩
  · have hs : a1.size ≤ 1048576 := by omega
    clear w1'
    have hlen := jr_small a0 (bl a1)
    have HSP := hide (fun w => specReadJournal_any a0 a1 hs w)
    have HIM := hide (fun w ht he => implReadJournal_any a0 a1 hs w ht he)
    unfold JrPost at HSP HIM
    obtain ⟨j, E, ok, hjr⟩ : ∃ j E ok, jrR a0 (bl a1) = (j, E, ok) := ⟨_, _, _, rfl⟩
    rw [hjr] at hlen HSP HIM
    simp only at hlen HSP HIM
    clear hjr
    obtain ⟨N, hN⟩ : ∃ N, j.es.length = N := ⟨_, rfl⟩
    rw [hN] at hlen HSP HIM
    have HNN := hide hN
    clear hN
    generalize j.number = jn at HSP HIM
    generalize j.term = jt at HSP HIM
    generalize j.vote = jv at HSP HIM
    generalize j.s = js at HSP HIM
    generalize j.u = ju at HSP HIM
    generalize j.es = es at HSP HIM HNN
    go_enter Tryd.func5, Tryd.ntmps5
    go_wp2_with fail
    refine (HSP.out _).mono ?_
    rintro e w1 ⟨v0, rfl, ho1, hb1⟩
    obtain ⟨oa0, cap0, hv0⟩ := own_form3 ho1
    subst hv0
    have hk1 := KJ.new (n := jn) (t := jt) (v0 := jv) (s := js) (u := ju) ho1
    have hb2 := hb1.alloc hb1.size (.cells (jcells jn jt jv js ju (.slice oa0 N cap0)) 36)
    have HK1 := hide hk1
    have B2 := hide hb2
    have sz2 : (w1.alloc (.cells (jcells jn jt jv js ju (.slice oa0 N cap0)) 36)).heap.size = w1.heap.size + 1 := by simp
    clear ho1 hb1 hk1 hb2
    go_wp2_with fail
    generalize w1.alloc (Obj.cells #[Value.int IntKind.i64 jn, Value.int IntKind.i64 jt, Value.int IntKind.i64 jv, Value.int IntKind.i64 js, Value.int IntKind.i64 ju, Value.slice oa0 N cap0] 36) = w2 at HK1 B2 sz2 ⊢
    refine (HIM.out _ (tab_below HT.out B2.out) (HER.out.on B2.out)).mono ?_
    rintro e w3 ⟨v1, rfl, ho3, hb3⟩
    obtain ⟨oa1, cap1, hv1⟩ := own_form3 ho3
    subst hv1
    have hk3 := KJ.new (n := jn) (t := jt) (v0 := jv) (s := js) (u := ju) ho3
    have hb34 := (Below.refl w3.heap.size w3).alloc (Nat.le_refl _) (.cells (jcells jn jt jv js ju (.slice oa1 N cap1)) 36)
    have hk1' := (HK1.out.on hb3).on hb34
    have B4 := hide (B2.out.trans ((hb3.trans (hb34.mono hb3.size)).mono B2.out.size))
    have HK3 := hide hk3
    have HK14 := hide hk1'
    have hs3 := hb3.size
    clear ho3 hb3 hb34 hk3 hk1' HK1
    obtain ⟨x0, x1, x2, x3, x4, x5⟩ := HK3.out.blk.jv
    obtain ⟨y0, y1, y2, y3, y4, y5⟩ := HK14.out.blk.jv
    go_wp2_with fail
    generalize w3.alloc (Obj.cells #[Value.int IntKind.i64 jn, Value.int IntKind.i64 jt, Value.int IntKind.i64 jv, Value.int IntKind.i64 js, Value.int IntKind.i64 ju, Value.slice oa1 N cap1] 36) = w4 at HK3 HK14 B4 x0 x1 x2 x3 x4 x5 y0 y1 y2 y3 y4 y5 ⊢
    obtain ⟨_, _, he3, hat3⟩ := entsAt_own HK3.out.own
    cases he3
    obtain ⟨_, _, he1, hat1⟩ := entsAt_own HK14.out.own
    cases he1
    refine (eqJournal_same jn jt jv js ju _ N _ _ _ es (by omega) _ hat3 hat1).mono ?_
    rintro e w5 ⟨rfl, hb5⟩
    have HK35 := hide (HK3.out.on hb5)
    have HK15 := hide (HK14.out.on hb5)
    have B5 := hide (B4.out.trans (hb5.mono B4.out.size))
    clear hb5 hat3 hat1 HK3 HK14 B4 x0 x1 x2 x3 x4 x5 y0 y1 y2 y3 y4 y5
    obtain ⟨x0, x1, x2, x3, x4, x5⟩ := HK35.out.blk.jv
    go_wp2_with fail
    refine (markJournal_any jn jt jv js ju _ N _ 1 (by omega) (by omega) w5 es HK35.out.own).mono ?_
    rintro e w6 ⟨rfl, ho6, hg6⟩
    have hpart := rows_part HK15.out HK35.out (by omega)
    have HK36 := hide (HK35.out.marked ho6 hg6)
    have HK16 := hide (HK15.out.kept HK35.out.own hg6 hpart)
    have B6 := hide (below_row B5.out B5.out.size (Nat.le_trans B2.out.size (Nat.le_refl _)) HK35.out.own hg6)
    clear ho6 hg6 HK35 HK15 B5 x0 x1 x2 x3 x4 x5 hpart
    obtain ⟨x0, x1, x2, x3, x4, x5⟩ := HK36.out.blk.jv
    go_wp2_with fail
    obtain ⟨_, _, he6, hat6⟩ := entsAt_own HK36.out.own
    cases he6
    refine (heldJournal_any jn jt jv js ju _ N _ 1 (by omega) (by omega) _ hat6).mono ?_
    rintro e w7 ⟨rfl, hb7⟩
    have HK37 := hide (HK36.out.on hb7)
    have HK17 := hide (HK16.out.on hb7)
    have B7 := hide (B6.out.trans (hb7.mono B6.out.size))
    clear hb7 hat6 HK36 HK16 B6 x0 x1 x2 x3 x4 x5
    go_wp2_with fail
    refine (HIM.out _ (tab_below HT.out B7.out) (HER.out.on B7.out)).mono ?_
    rintro e w8 ⟨v8, rfl, ho8, hb8⟩
    obtain ⟨oa8, cap8, hv8⟩ := own_form3 ho8
    subst hv8
    have hk8 := KJ.new (n := jn) (t := jt) (v0 := jv) (s := js) (u := ju) ho8
    have hb89 := (Below.refl w8.heap.size w8).alloc (Nat.le_refl _) (.cells (jcells jn jt jv js ju (.slice oa8 N cap8)) 36)
    have HK39 := hide ((HK37.out.on hb8).on hb89)
    have HK19 := hide ((HK17.out.on hb8).on hb89)
    have B9 := hide (B7.out.trans ((hb8.trans (hb89.mono hb8.size)).mono B7.out.size))
    have HK8 := hide hk8
    clear ho8 hb8 hb89 hk8 HK37 HK17 B7
    obtain ⟨x0, x1, x2, x3, x4, x5⟩ := HK8.out.blk.jv
    obtain ⟨y0, y1, y2, y3, y4, y5⟩ := HK19.out.blk.jv
    go_wp2_with fail
    generalize w8.alloc (Obj.cells #[Value.int IntKind.i64 jn, Value.int IntKind.i64 jt, Value.int IntKind.i64 jv, Value.int IntKind.i64 js, Value.int IntKind.i64 ju, Value.slice oa8 N cap8] 36) = w9 at HK8 HK39 HK19 B9 x0 x1 x2 x3 x4 x5 y0 y1 y2 y3 y4 y5 ⊢
    obtain ⟨_, _, he8, hat8⟩ := entsAt_own HK8.out.own
    cases he8
    obtain ⟨_, _, he1, hat1⟩ := entsAt_own HK19.out.own
    cases he1
    refine (eqJournal_same jn jt jv js ju _ N _ _ _ es (by omega) _ hat8 hat1).mono ?_
    rintro e w10 ⟨rfl, hb10⟩
    have HK310 := hide (HK39.out.on hb10)
    have B10 := hide (B9.out.trans (hb10.mono B9.out.size))
    clear hb10 hat8 hat1 HK8 HK39 HK19 B9 x0 x1 x2 x3 x4 x5 y0 y1 y2 y3 y4 y5
    obtain ⟨x0, x1, x2, x3, x4, x5⟩ := HK310.out.blk.jv
    go_wp2_with fail
    obtain ⟨_, _, he10, hat10⟩ := entsAt_own HK310.out.own
    cases he10
    refine (heldJournal_any jn jt jv js ju _ N _ 1 (by omega) (by omega) _ hat10).mono ?_
    rintro e w11 ⟨rfl, hb11⟩
    have B11 := hide (B10.out.trans (hb11.mono B10.out.size))
    clear hb11 hat10 HK310 B10 x0 x1 x2 x3 x4 x5
    go_wp2_with fail
    go_ret
    exact ⟨rfl, B11.out⟩

end Go.Proofs.YthbgklmnmoclhaaDoor
