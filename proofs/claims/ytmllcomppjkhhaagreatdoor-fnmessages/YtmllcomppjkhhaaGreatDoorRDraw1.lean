/-
  Walks and mathematics of Draw1, Draw2, Draw3, Draw4.
-/
import Derived.Test.YtmllcomppjkhhaaGreatDoorRBase
import Derived.Deep.RegionHeld3
import Derived.Deep.QuietTactic
import Derived.BigQuiet
import Derived.Laws.BitsLemmas
import Derived.WalkSmall
namespace Go.Proofs.YtmllcomppjkhhaaGreatDoor
open Go.RowKit P1 K
set_option linter.unusedVariables false

theorem and255 (n : Int) : bits .and .i64 n 255 = n % 256 := by
  have h255 : (BitVec.ofInt 64 255).toNat = 2 ^ 8 - 1 := by decide
  have key : (BitVec.ofInt 64 n &&& BitVec.ofInt 64 255).toNat = (n % ((2 ^ 64 : Nat) : Int)).toNat % 2 ^ 8 := by
    rw [BitVec.toNat_and, BitVec.toNat_ofInt, h255, Nat.and_two_pow_sub_one_eq_mod]
  show IntKind.i64.wrap ((BitVec.ofInt 64 n &&& BitVec.ofInt 64 255).toNat : Nat) = n % 256
  rw [key, IntKind.wrap_i64]
  omega

theorem and30 (n : Int) : bits .and .i64 n 1073741823 = n % 1073741824 := by
  have h255 : (BitVec.ofInt 64 1073741823).toNat = 2 ^ 30 - 1 := by decide
  have key : (BitVec.ofInt 64 n &&& BitVec.ofInt 64 1073741823).toNat = (n % ((2 ^ 64 : Nat) : Int)).toNat % 2 ^ 30 := by
    rw [BitVec.toNat_and, BitVec.toNat_ofInt, h255, Nat.and_two_pow_sub_one_eq_mod]
  show IntKind.i64.wrap ((BitVec.ofInt 64 n &&& BitVec.ofInt 64 1073741823).toNat : Nat) = n % 1073741824
  rw [key, IntKind.wrap_i64]
  omega

def IsRow (k : IntKind) (w : World) (a : Option Addr) (len cap : Nat) (zs : List Int) : Prop :=
  (a = none ∧ len = 0 ∧ cap = 0 ∧ zs = []) ∨
  ∃ x, a = some x ∧ len ≤ cap ∧ cap ≤ maxLen ∧ zs.length = cap ∧ (∀ i, i < zs.length → w.cell? (x.add i) = some (.int k (zs.getD i 0))) ∧ ∀ n ∈ zs, (Lit.int k n).wf = true

def CodeAt (B : Nat) (w : World) (a : Option Addr) (len : Nat) : Prop :=
  ∀ j : Nat, j < len → ∃ (x : Addr) (b : UInt8), a = some x ∧ x.block < B ∧ w.cell? (x.add j) = some (.int .u8 (b.toNat : Int))

theorem add_block (x : Addr) (j : Nat) : (x.add j).block = x.block := by unfold Addr.add; split <;> rfl

theorem codeAt_of_row {w : World} {a : Option Addr} {len cap : Nat} {zs : List Int} (h : IsRow .u8 w a len cap zs) : CodeAt w.heap.size w a len := by
  intro j hj
  rcases h with ⟨_, rfl, _⟩ | ⟨x, rfl, hl, hm, hz, hc, hw⟩
  · omega
  · have hj' : j < zs.length := by omega
    have h1 := hc j hj'
    have hmem : zs.getD j 0 ∈ zs := by
      rw [List.getD_eq_getElem?_getD, List.getElem?_eq_getElem hj', Option.getD_some]; exact List.getElem_mem _
    have h2 := hw _ hmem
    obtain ⟨u0, u1⟩ : 0 ≤ zs.getD j 0 ∧ zs.getD j 0 ≤ 255 := by simpa [Lit.wf, IntKind.min, IntKind.max, IntKind.signed, IntKind.bits] using h2
    refine ⟨x, UInt8.ofNat (zs.getD j 0).toNat, rfl, ?_, ?_⟩
    · have := World.block_lt_of_cell? w _ h1
      rwa [add_block] at this
    · rw [h1, toNat_ofNat_small _ (by omega), Int.toNat_of_nonneg u0]

theorem CodeAt.below {B : Nat} {w w' : World} {a : Option Addr} {len : Nat} (h : CodeAt B w a len) (hb : Below B w w') : CodeAt B w' a len := by
  intro j hj
  obtain ⟨x, b, h1, h2, h3⟩ := h j hj
  exact ⟨x, b, h1, h2, by rw [hb.cell (by rw [add_block]; exact h2)]; exact h3⟩

def CurAt (B : Nat) (w : World) (p : Nat) (a : Option Addr) (len cap : Nat) : Prop :=
  B ≤ p ∧ len ≤ 1048576 ∧ CodeAt B w a len ∧ ∃ (i : Nat) (h : Int), i ≤ len ∧ w.heap[p]? = some (.cells #[.slice a len cap, .int .i64 (i : Int), .int .i64 h] 83 (0, 0))

theorem CurAt.kept {B p : Nat} {w w' : World} {a : Option Addr} {len cap : Nat} (h : CurAt B w p a len cap) (hb : Below B w w') (hp : w'.heap[p]? = w.heap[p]?) : CurAt B w' p a len cap := by
  obtain ⟨h1, h2, h3, i, x, h4, h5⟩ := h
  exact ⟨h1, h2, h3.below hb, i, x, h4, by rw [hp]; exact h5⟩

theorem CurAt.lt {B p : Nat} {w : World} {a : Option Addr} {len cap : Nat} (h : CurAt B w p a len cap) : p < w.heap.size := by
  obtain ⟨_, _, _, _, _, _, h5⟩ := h
  exact (Array.getElem?_eq_some_iff.1 h5).1

theorem setCell_row {w : World} {p k : Nat} {cs : Array Value} {e : TypeId} (v : Value) (h : w.heap[p]? = some (.cells cs e (0, 0))) : (w.setCell ⟨p, k, none⟩ v).heap[p]? = some (.cells (cs.setIfInBounds k v) e (0, 0)) := by
  simp only [World.setCell, Array.getElem?_modify, if_true, h]
  rfl

theorem grownBy_setCell (w : World) (p k : Nat) (v : Value) : w.grownBy (w.setCell ⟨p, k, none⟩ v) (some p) :=
  ⟨rfl, rfl, rfl, by simp [World.setCell], fun j hj hne => Below.heap_setCell _ _ _ _ (fun e => hne (by rw [e]))⟩

theorem grownBy_trans {a b c : World} {r : Option Nat} (h : a.grownBy b r) (k : b.grownBy c r) : a.grownBy c r :=
  ⟨k.os.trans h.os, k.tape.trans h.tape, k.output.trans h.output, Nat.le_trans h.size k.size, fun j hj hne => (k.block j (Nat.lt_of_lt_of_le hj h.size) hne).trans (h.block j hj hne)⟩

theorem grownBy_eq {a w w' : World} {r : Option Nat} (h : a.grownBy w r) (h1 : w'.os = w.os) (h2 : w'.tape = w.tape) (h3 : w'.output = w.output) (h4 : w'.heap = w.heap) : a.grownBy w' r :=
  ⟨h1.trans h.os, h2.trans h.tape, h3.trans h.output, by rw [h4]; exact h.size, fun k hk hn => by rw [h4]; exact h.block k hk hn⟩

theorem below_grownBy {B p : Nat} {w w' : World} (h : w.grownBy w' (some p)) (hB : B ≤ p) (hs : B ≤ w.heap.size) : Below B w w' :=
  (Below.refl B w).grown h hs (fun k hk => by cases hk; exact hB)

theorem cur_cells {w : World} {p : Nat} {v0 v1 v2 : Value} {e : TypeId} (hb : w.heap[p]? = some (.cells #[v0, v1, v2] e (0, 0))) :
    w.cell? ⟨p, 0, none⟩ = some v0 ∧ w.cell? ⟨p, 1, none⟩ = some v1 ∧ w.cell? ⟨p, 2, none⟩ = some v2 ∧ w.frozen? ⟨p, 1, none⟩ = false ∧ w.frozen? ⟨p, 2, none⟩ = false :=
  ⟨by rw [cell_of_row w p 0 _ _ _ hb]; rfl, by rw [cell_of_row w p 1 _ _ _ hb]; rfl, by rw [cell_of_row w p 2 _ _ _ hb]; rfl, by simp [World.frozen?, hb], by simp [World.frozen?, hb]⟩

set_option maxHeartbeats 1000000 in
theorem l01Byte_any (B p : Nat) (a : Option Addr) (len cap : Nat) (w : World) (hc : CurAt B w p a len cap) :
    Calls Tryz.prog 69 #[.pointer (some ⟨p, 0, none⟩)] w fun e w' => ∃ x : Nat, x < 256 ∧ e = .returned (.int .i64 (x : Int)) ∧ CurAt B w' p a len cap ∧ w.grownBy w' (some p) := by
  have HC := hide hc
  obtain ⟨hB, hlen, hcode, i, h, hi, hb⟩ := hc
  have hsz : p < w.heap.size := HC.out.lt
  obtain ⟨c0, c1, c2, f1, f2⟩ := cur_cells hb
  have HB := hide hb
  clear hb
  have ha := and255
  go_enter Tryz.func69, Tryz.ntmps69
  go_wp2_with fail
  generalize wrap64 (wrap64 (h * 6364136223846793005) + 1442695040888963407) = h2
  have hb2 := setCell_row (k := 2) (.int .i64 h2) HB.out
  have hg2 := grownBy_setCell w p 2 (.int .i64 h2)
  obtain ⟨w2, hw2⟩ : ∃ w2, w.setCell ⟨p, 2, none⟩ (.int .i64 h2) = w2 := ⟨_, rfl⟩
  rw [hw2] at hb2 hg2 ⊢
  have hb2' : w2.heap[p]? = some (.cells #[.slice a len cap, .int .i64 (i : Int), .int .i64 h2] 83 (0, 0)) := hb2
  clear hw2 hb2 c0 c1 c2 f1 f2
  have HG := hide hg2
  have hcode2 : CodeAt B w2 a len := hcode.below (below_grownBy hg2 hB (by omega))
  obtain ⟨c0, c1, c2, f1, f2⟩ := cur_cells hb2'
  have HB2 := hide hb2'
  clear hg2 hcode hb2' HB
  by_cases hlt : i < len
  · obtain ⟨x, b, rfl, hx1, hx2⟩ := hcode2 i hlt
    have hbt := b.toNat_lt
    go_quiet (fail)
    go_wp2_with fail
    go_quiet (fail)
    go_wp2_with fail
    go_quiet (fail)
    go_wp2_with fail
    go_ret
    refine ⟨_, ?_, congrArg (fun x => Ending.returned (Value.int .i64 x)) (Int.toNat_of_nonneg ?_).symm, ⟨hB, hlen, ?_, i + 1, h2, by omega, ?_⟩, ?_⟩
    · have := Int.emod_lt_of_pos (bits BinOp.xor IntKind.i64 (h2 / 8589934592) (h2 / 35184372088832) + (b.toNat : Int)) (show (0 : Int) < 256 by decide)
      have := Int.emod_nonneg (bits BinOp.xor IntKind.i64 (h2 / 8589934592) (h2 / 35184372088832) + (b.toNat : Int)) (show (256 : Int) ≠ 0 by decide)
      omega
    · exact Int.emod_nonneg _ (by decide)
    · exact hcode2.below ((below_eq (Below.refl _ _) rfl rfl rfl rfl : Below B w2 (w2.drewN _)).setCell hB _)
    · exact setCell_row (w := w2.drewN _) (k := 1) (.int .i64 ((i : Int) + 1)) HB2.out
    · refine grownBy_trans ?_ (grownBy_setCell _ p 1 _)
      exact grownBy_eq HG.out rfl rfl rfl rfl
  · go_quiet (fail)
    go_wp2_with fail
    go_quiet (fail)
    go_wp2_with fail
    go_ret
    refine ⟨_, ?_, congrArg (fun x => Ending.returned (Value.int .i64 x)) (Int.toNat_of_nonneg ?_).symm, ⟨hB, hlen, ?_, i, h2, hi, ?_⟩, ?_⟩
    · have := Int.emod_lt_of_pos (bits BinOp.xor IntKind.i64 (h2 / 8589934592) (h2 / 35184372088832)) (show (0 : Int) < 256 by decide)
      have := Int.emod_nonneg (bits BinOp.xor IntKind.i64 (h2 / 8589934592) (h2 / 35184372088832)) (show (256 : Int) ≠ 0 by decide)
      omega
    · exact Int.emod_nonneg _ (by decide)
    · exact hcode2.below (below_eq (Below.refl _ _) rfl rfl rfl rfl)
    · exact HB2.out
    · exact grownBy_eq HG.out rfl rfl rfl rfl

set_option maxHeartbeats 1000000 in
theorem l01Below_any (B p : Nat) (a : Option Addr) (len cap : Nat) (n : Nat) (h0 : 0 < n) (h1 : n ≤ 4294967296) (w : World) (hc : CurAt B w p a len cap) :
    Calls Tryz.prog 37 #[.pointer (some ⟨p, 0, none⟩), .int .i64 (n : Int)] w fun e w' => ∃ x : Nat, x < n ∧ e = .returned (.int .i64 (x : Int)) ∧ CurAt B w' p a len cap ∧ w.grownBy w' (some p) := by
  have HC := hide hc
  clear hc
  have g1 : ¬ ((n : Int) ≤ 0) := by omega
  by_cases hn : n ≤ 256
  · have g2 : decide ((n : Int) ≤ 256) = true := by simp; omega
    go_enter Tryz.func37, Tryz.ntmps37
    go_wp2_with (go_at_call 69; refine (l01Byte_any B p a len cap _ HC.out).mono ?_; rintro e w1 ⟨x, hx, rfl, hc1, hg1⟩; have HC1 := hide hc1; have HG1 := hide hg1; clear hc1 hg1)
    go_ret
    exact ⟨x % n, Nat.mod_lt _ h0, by simp, HC1.out, HG1.out⟩
  · have g2 : decide ((n : Int) ≤ 256) = false := by simp; omega
    go_enter Tryz.func37, Tryz.ntmps37
    go_wp2_with fail
    refine (l01Byte_any B p a len cap _ HC.out).mono ?_
    rintro e w1 ⟨x1, hx1, rfl, hc1, hg1⟩
    have HC1 := hide hc1
    have HG1 := hide hg1
    clear hc1 hg1
    go_wp2_with fail
    refine (l01Byte_any B p a len cap _ HC1.out).mono ?_
    rintro e w2 ⟨x2, hx2, rfl, hc2, hg2⟩
    have HC2 := hide hc2
    have HG2 := hide (grownBy_trans HG1.out hg2)
    clear hc2 hg2
    go_wp2_with fail
    refine (l01Byte_any B p a len cap _ HC2.out).mono ?_
    rintro e w3 ⟨x3, hx3, rfl, hc3, hg3⟩
    have HC3 := hide hc3
    have HG3 := hide (grownBy_trans HG2.out hg3)
    clear hc3 hg3
    go_wp2_with fail
    refine (l01Byte_any B p a len cap _ HC3.out).mono ?_
    rintro e w4 ⟨x4, hx4, rfl, hc4, hg4⟩
    have HC4 := hide hc4
    have HG4 := hide (grownBy_trans HG3.out hg4)
    clear hc4 hg4
    go_wp2_with fail
    go_ret
    exact ⟨(x1 * 16777216 + x2 * 65536 + x3 * 256 + x4) % n, Nat.mod_lt _ h0, by simp, HC4.out, HG4.out⟩

end Go.Proofs.YtmllcomppjkhhaaGreatDoor

namespace Go.Proofs.YtmllcomppjkhhaaGreatDoor
open Go.RowKit P1 K
set_option linter.unusedVariables false

theorem wpList_push_raw {P : Program} {W0 : World} {ops : Array Oper} {rest : List Oper} {o : Oper} {a : Act} {Q : Exit → Act → World → Prop} (hgd : o.guard = none) (s x : Operand) (t : TypeId)
    (ho : o.op = .call { callee := .builtin .append, args := #[s, x], argTypes := #[t, t] })
    {base : Nat} {e : TypeId} {z : Value} {bytes : Nat} (ht : P.underlying t = some (.slice e)) (hi : (P.info? e).map (fun i => (i.zero, i.size, i.bytes)) = some (some z, 1, bytes)) (hzs : z.cells.size = 1)
    {v : Value} {n : Nat} {xs : List Value} (hs : a.eval s = v) (hown : W0.ownsRow base e 1 v n xs)
    {u : Value} (hx : a.eval x = .slice (some ⟨W0.heap.size, 0, none⟩) 1 1) (hu : u.oneCell' = true)
    (hbase : base ≤ W0.heap.size) (h63 : n + 1 ≤ maxLen) (hbytes : (n + 1) * bytes ≤ 140737488355328)
    (h : ∀ v' w', w'.ownsRow base e 1 v' (n + 1) (xs ++ [u]) → W0.grownBy w' v.ownBlock → wpList P ops Q rest (a.put o.dst v') w') : wpList P ops Q (o :: rest) a (W0.alloc (.cells #[u] e)) := by
  obtain ⟨i, hi, hz, h1, h2⟩ := info_parts hi
  refine wpList_append_own _ hgd s x t ho base e i z 1 bytes ht hi hz h1 h2 hzs (by decide) v n xs hs (hown.alloc _) ⟨W0.heap.size, 0, none⟩ 1 1 [u] hx rfl ?_ ?_ h63 hbytes (by simp; omega) ?_
  · intro j y hj
    match j, hj with
    | 0, hj => simp at hj; subst hj; simp [Addr.add]
  · intro y hy; simp at hy; subst hy; exact hu
  · intro v' w' hown' hgrow _
    refine h v' w' hown' ⟨hgrow.os, hgrow.tape, hgrow.output, ?_, ?_⟩
    · have := hgrow.size; simp at this; omega
    · intro k hk hne
      rw [hgrow.block k (by simp; omega) hne]
      exact Below.heap_alloc W0 _ k hk

structure Drawing (B p : Nat) (a : Option Addr) (len cap : Nat) (w : World) (e : TypeId) (v : Value) (n : Nat) (xs : List Value) (wr : World) : Prop where
  own : wr.ownsRow w.heap.size e 1 v n xs
  cur : CurAt B wr p a len cap
  grown : w.grownBy wr (some p)
  lt : p < w.heap.size

theorem Drawing.drawn {B p : Nat} {a : Option Addr} {len cap : Nat} {w : World} {e : TypeId} {v : Value} {n : Nat} {xs : List Value} {w1 w2 : World} (h : Drawing B p a len cap w e v n xs w1)
    (hc : CurAt B w2 p a len cap) (hg : w1.grownBy w2 (some p)) : Drawing B p a len cap w e v n xs w2 :=
  ⟨h.own.kept hg (by
    cases hv : v.ownBlock with
    | none => exact Or.inl rfl
    | some k =>
      right
      intro e1
      cases e1
      have := (h.own.lt p hv).1
      have := h.lt
      omega), hc, grownBy_trans h.grown hg, h.lt⟩

theorem Drawing.pushed {B p : Nat} {a : Option Addr} {len cap : Nat} {w : World} {e : TypeId} {v v' : Value} {n m : Nat} {xs ys : List Value} {w1 w2 : World} (h : Drawing B p a len cap w e v n xs w1)
    (hB : B ≤ w.heap.size) (ho : w2.ownsRow w.heap.size e 1 v' m ys) (hg : w1.grownBy w2 v.ownBlock) : Drawing B p a len cap w e v' m ys w2 := by
  have hlt := h.lt
  have hne : ∀ k, k < w.heap.size → some k ≠ v.ownBlock := fun k hk e1 => by have := (h.own.lt k e1.symm).1; omega
  have hs := h.grown.size
  refine ⟨ho, h.cur.kept ⟨hg.os, hg.tape, hg.output, hg.size, fun k hk => hg.block k (by omega) (hne k (by omega))⟩ (hg.block p (by omega) (hne p hlt)), ?_, hlt⟩
  exact ⟨hg.os.trans h.grown.os, hg.tape.trans h.grown.tape, hg.output.trans h.grown.output, Nat.le_trans hs hg.size, fun k hk hn => (hg.block k (by omega) (hne k hk)).trans (h.grown.block k hk hn)⟩

theorem Drawing.start {B p : Nat} {a : Option Addr} {len cap : Nat} {w : World} {e : TypeId} (hB : B ≤ w.heap.size) (hc : CurAt B w p a len cap) :
    Drawing B p a len cap w e (.slice (some ⟨w.heap.size, 0, none⟩) 0 0) 0 [] (w.alloc (.cells #[] e)) :=
  ⟨World.ownsRow_made (w := w) #[] 0 (Nat.le_refl _) (by decide) rfl, hc.kept ((Below.refl _ _).alloc hB _) (Below.heap_alloc w _ p hc.lt), World.grownBy_alloc w _ _, hc.lt⟩

set_option maxHeartbeats 1000000 in
theorem l01Text_any (B p : Nat) (a : Option Addr) (len cap : Nat) (n : Nat) (hn : n ≤ 5000) (w : World) (hB : B ≤ w.heap.size) (hc : CurAt B w p a len cap) :
    Calls Tryz.prog 64 #[.pointer (some ⟨p, 0, none⟩), .int .i64 (n : Int)] w fun e w' => ∃ l : List UInt8, l.length = n ∧ e = .returned (.string ⟨l.toArray⟩) ∧ CurAt B w' p a len cap ∧ w.grownBy w' (some p) := by
  have HS := hide (Drawing.start (e := 5) hB hc)
  clear hc
  have g1 : decide ((5000 : Int) < (n : Int)) = false := by simp; omega
  go_enter Tryz.func64, Tryz.ntmps64
  go_wp2_with fail
  go_loopw [5, 6] (fun v i wr => ∃ (k : Nat) (l : List UInt8), i = .int .i64 (k : Int) ∧ l.length = k ∧ k ≤ n ∧ Drawing B p a len cap w 5 v k (B8 l) wr) (fun _ i _ => n - (intOf i).toNat)
  case atStart => exact ⟨0, [], rfl, rfl, Nat.zero_le _, HS.out⟩
  case round =>
    obtain ⟨k, l, rfl, hl, hk, hd⟩ := hrel
    have HL := hide hl
    clear hl HS
    have HD := hide hd
    clear hd
    by_cases hlt : k < n
    · go_wp2_with fail
      refine (l01Byte_any B p a len cap _ HD.out.cur).mono ?_
      rintro e w1 ⟨x, hx, rfl, hc1, hg1⟩
      have HD1 := hide (HD.out.drawn hc1 hg1)
      clear hc1 hg1 HD
      have hsz : w.heap.size ≤ w1.heap.size := HD1.out.grown.size
      have ex := hide (toNat_ofNat_small x hx)
      go_wp2_with (at_builtin; refine wpList_push_raw rfl _ _ 22 rfl Tryz.underlying22 infoByte rfl rfl HD1.out.own rfl rfl hsz (by unfold maxLen; omega) (by omega) ?_)
      intro v' w2 hown2 hg2
      have hd2 := HD1.out.pushed hB hown2 hg2
      rw [B8_snoc l (UInt8.ofNat x) _ (by rw [ex.out])] at hd2
      have HD2 := hide hd2
      clear hown2 hg2 hd2 HD1
      go_wp2_with fail
      go_roundw
      case rel => exact ⟨k + 1, l ++ [UInt8.ofNat x], by go_num, by simp [HL.out], by omega, HD2.out⟩
      case measure => simp [intOf]; omega
    · have hkn : k = n := by omega
      have hconv := run_string_own (P := Tryz.prog) (src := 22) (dst := 9) Tryz.underlying22 Tryz.underlying5 Tryz.underlying9 HD.out.own
      go_wp2_with fail
      go_ret
      exact ⟨l, by rw [HL.out]; omega, rfl, HD.out.cur, HD.out.grown⟩

end Go.Proofs.YtmllcomppjkhhaaGreatDoor

namespace Go.Proofs.YtmllcomppjkhhaaGreatDoor
open Go.RowKit P1 K
set_option linter.unusedVariables false

theorem infoInt : (Tryz.prog.info? 3).map (fun i => (i.zero, i.size, i.bytes)) = some (some (.int .i64 0), 1, 8) := by kernel_rfl

theorem own_mono {w : World} {b b' : Nat} {e : TypeId} {size : Nat} {v : Value} {n : Nat} {xs : List Value} (h : w.ownsRow b e size v n xs) (hb : b' ≤ b) : w.ownsRow b' e size v n xs :=
  ⟨h.1, h.2.imp id fun ⟨g, cap, cur, h1, h2, h3⟩ => ⟨g, cap, cur, h1, Nat.le_trans hb h2, h3⟩⟩

set_option maxHeartbeats 1000000 in
theorem l01New_any (B : Nat) (a : Option Addr) (len cap : Nat) (w : World) (hlen : len ≤ 1048576) (hB : B ≤ w.heap.size) (hcode : CodeAt B w a len) :
    Calls Tryz.prog 14 #[.slice a len cap] w fun e w' => e = .returned (.pointer (some ⟨w.heap.size, 0, none⟩)) ∧ CurAt B w' w.heap.size a len cap ∧ Below w.heap.size w w' := by
  have HC := hide hcode
  clear hcode
  have ha := and30
  go_enter Tryz.func14, Tryz.ntmps14
  go_wp2_with fail
  go_loop [3, 4] (fun h i => ∃ (k : Nat) (x : Int), i = .int .i64 (k : Int) ∧ h = .int .i64 x ∧ k ≤ len) (fun _ i => len - (intOf i).toNat)
  case atStart => exact ⟨0, _, rfl, rfl, Nat.zero_le _⟩
  case round =>
    obtain ⟨k, x, rfl, rfl, hk⟩ := hrel
    by_cases hlt : k < len
    · by_cases h4 : k < 4000
      · have g1 : decide ((k : Int) < (len : Int)) = true := by simp; omega
        have g2 : decide ((k : Int) < 4000) = true := by simp; omega
        obtain ⟨y, b, rfl, hx1, hx2⟩ := HC.out k hlt
        have hbt := b.toNat_lt
        go_wp2_with fail
        go_round
        case rel => exact ⟨k + 1, _, by go_num, rfl, by omega⟩
        case measure => simp [intOf]; omega
      · have g1 : decide ((k : Int) < (len : Int)) = true := by simp; omega
        have g2 : decide ((k : Int) < 4000) = false := by simp; omega
        go_wp2_with fail
        go_ret
        exact ⟨rfl, ⟨hB, hlen, HC.out.below ((Below.refl _ _).alloc hB _), 0, x, Nat.zero_le _, heap_alloc_new w _⟩, (Below.refl _ _).alloc (Nat.le_refl _) _⟩
    · have g1 : decide ((k : Int) < (len : Int)) = false := by simp; omega
      go_wp2_with fail
      go_ret
      exact ⟨rfl, ⟨hB, hlen, HC.out.below ((Below.refl _ _).alloc hB _), 0, x, Nat.zero_le _, heap_alloc_new w _⟩, (Below.refl _ _).alloc (Nat.le_refl _) _⟩

theorem big_no (a : Option Addr) (len cap : Nat) (h : len ≤ 1048576) (w : World) :
    Calls Tryz.prog 4 #[.slice a len cap] w fun e w' => e = .returned (.bool false) ∧ w = w' := by
  have g : decide ((1048576 : Int) < (len : Int)) = false := by simp; omega
  go_enter Tryz.func4, Tryz.ntmps4
  go_wp2_with fail
  go_ret
  exact ⟨rfl, rfl⟩

theorem big_yes (a : Option Addr) (len cap : Nat) (h : 1048576 < len) (w : World) :
    Calls Tryz.prog 4 #[.slice a len cap] w fun e w' => e = .returned (.bool true) ∧ w = w' := by
  have g : decide ((1048576 : Int) < (len : Int)) = true := by simp; omega
  go_enter Tryz.func4, Tryz.ntmps4
  go_wp2_with fail
  go_ret
  exact ⟨rfl, rfl⟩

end Go.Proofs.YtmllcomppjkhhaaGreatDoor

namespace Go.Proofs.YtmllcomppjkhhaaGreatDoor
open Go.RowKit P1 K
set_option linter.unusedVariables false

theorem l01Once_any (B p : Nat) (a : Option Addr) (len cap : Nat) (n : Nat) (h0 : 0 < n) (h1 : n ≤ 4294967296) (w : World) (hc : CurAt B w p a len cap) :
    Calls Tryz.prog 66 #[.pointer (some ⟨p, 0, none⟩), .int .i64 (n : Int)] w fun e w' => ∃ b : Bool, e = .returned (.bool b) ∧ CurAt B w' p a len cap ∧ w.grownBy w' (some p) := by
  go_enter Tryz.func66, Tryz.ntmps66
  go_wp2_with fail
  refine (l01Below_any B p a len cap n h0 h1 _ hc).mono ?_
  rintro e w1 ⟨x, hx, rfl, hc1, hg1⟩
  go_wp2_with fail
  go_ret
  exact ⟨_, rfl, hc1, hg1⟩

theorem own_cell {w : World} {base : Nat} {e : TypeId} {g n cap : Nat} {xs : List Value} (h : w.ownsRow base e 1 (.slice (some ⟨g, 0, none⟩) n cap) n xs) (j : Nat) (u : Value) (hu : xs[j]? = some u) : w.cell? ⟨g, j, none⟩ = some u := by
  have := h.cells (g := g) rfl j u hu
  have ha : (⟨g, 0, none⟩ : Addr).add j = ⟨g, j, none⟩ := by unfold Addr.add; split <;> simp_all
  rwa [ha] at this

def I64z (l : List Int) : List Value := l.map (fun n : Int => Value.int .i64 n)

theorem l01PickInt_any (B p : Nat) (a : Option Addr) (len cap : Nat) (base : Nat) (v : Value) (xs : List Int) (h0 : 0 < xs.length) (h1 : xs.length ≤ 1000000) (w : World) (hp : p < base)
    (hown : w.ownsRow base 3 1 v xs.length (I64z xs)) (hc : CurAt B w p a len cap) :
    Calls Tryz.prog 38 #[.pointer (some ⟨p, 0, none⟩), v] w fun e w' => ∃ x ∈ xs, e = .returned (.int .i64 x) ∧ CurAt B w' p a len cap ∧ w.grownBy w' (some p) := by
  have HO := hide hown
  obtain ⟨hl, hnil | ⟨g, capP, cur, rfl, hgB, hgh, hcapP, hmaxP, hcurS, htake⟩⟩ := hown
  · omega
  clear hl hgh hcurS htake hmaxP
  go_enter Tryz.func38, Tryz.ntmps38
  go_wp2_with fail
  refine (l01Below_any B p a len cap xs.length h0 (by omega) _ hc).mono ?_
  rintro e w1 ⟨i, hi, rfl, hc1, hg1⟩
  have hown1 := HO.out.kept hg1 (by right; simp [Value.ownBlock]; omega)
  have hce := own_cell hown1 i (.int .i64 xs[i]) (by simp [I64z, hi])
  have i0 : (0 : Int) ≤ (i : Int) := by omega
  have i1 : (i : Int) < (xs.length : Int) := by omega
  have HC1 := hide hc1
  have HG1 := hide hg1
  clear hc1 hg1 hown1 hc HO
  go_wp2_with fail
  go_ret
  exact ⟨xs[i], List.getElem_mem _, rfl, HC1.out, HG1.out⟩

theorem set_B8 (l : List UInt8) (k : Nat) (b : UInt8) : (B8 l).set k (.int .u8 (b.toNat : Int)) = B8 (l.set k b) := by simp [B8, List.map_set]

set_option maxHeartbeats 1000000 in
theorem l01Long_any (n : Nat) (hn : n ≤ 1000000) (b : UInt8) (w : World) :
    Calls Tryz.prog 40 #[.int .i64 (n : Int), .int .u8 (b.toNat : Int)] w fun e w' => ∃ l : List UInt8, l.length = n ∧ e = .returned (.string ⟨l.toArray⟩) ∧ Below w.heap.size w w' := by
  obtain ⟨i0, hi, hz0, hz1, hz2⟩ := info_parts infoByte
  have hbt := b.toNat_lt
  go_enter Tryz.func40, Tryz.ntmps40
  go_wp2_with (at_make; refine wpList_make_full _ rfl _ _ 22 rfl w.heap.size 5 i0 (.int .u8 0) 1 Tryz.underlying22 hi hz0 hz1 _ _ _ _ n rfl rfl (by omega) (by omega) (by rw [hz2]; omega) (by unfold maxLen; omega) (Nat.le_refl _) ?_)
  intro w1 hown0 hgrow0
  have hbel0 : Below w.heap.size w w1 := (Below.refl _ _).grown hgrow0 (Nat.le_refl _) (by intro k hk; cases hk)
  have hz : (madeCells #[Value.int .u8 0] n).toList = B8 (List.replicate n 0) := by rw [toList_madeCells_one]; simp [B8]
  rw [hz] at hown0
  have HO := hide hown0
  have HB := hide hbel0
  clear hgrow0 hown0 hbel0 hz
  go_wp2_with fail
  go_loopw [6] (fun i wr => ∃ (k : Nat) (l : List UInt8), i = .int .i64 (k : Int) ∧ k ≤ n ∧ l.length = n ∧ wr.ownsRow w.heap.size 5 1 (.slice (some ⟨w.heap.size, 0, none⟩) n n) n (B8 l) ∧ Below w.heap.size w wr) (fun i _ => n - (intOf i).toNat)
  case atStart => exact ⟨0, _, rfl, Nat.zero_le _, by simp, HO.out, HB.out⟩
  case round =>
    obtain ⟨k, l, rfl, hk, hl, hown, hbel⟩ := hrel
    have HL := hide hl
    clear hl HO HB
    have hsz := hbel.size
    by_cases hlt : k < n
    · have hfz := hown.frozenAt k
      have hce : wr.cell? ⟨w.heap.size, k, none⟩ = some (.int .u8 ((l[k]'(by rw [HL.out]; exact hlt)).toNat : Int)) := own_cell hown k _ (by simp [B8, HL.out, hlt])
      have hst := (hown.stored k (.int .u8 (b.toNat : Int))).1
      rw [set_B8] at hst
      have HST := hide hst
      have HBL := hide (hbel.setCell (p := ⟨w.heap.size, k, none⟩) (Nat.le_refl _) (.int .u8 (b.toNat : Int)))
      clear hst hown hbel
      go_wp2_with fail
      go_roundw
      case rel => exact ⟨k + 1, l.set k b, by go_num, by omega, by simp [HL.out], HST.out, HBL.out⟩
      case measure => simp [intOf]; omega
    · have hconv := run_string_own (P := Tryz.prog) (src := 22) (dst := 9) Tryz.underlying22 Tryz.underlying5 Tryz.underlying9 hown
      clear hown
      go_wp2_with fail
      go_ret
      exact ⟨l, HL.out, rfl, hbel⟩

end Go.Proofs.YtmllcomppjkhhaaGreatDoor
