/-
  Walks and mathematics of Walk6b.
-/
import Derived.Test.YtoalbeiinlcgpaaKWalk6a
import Derived.Test.YtoalbeiinlcgpaaKWalkClone
import Derived.ArgAppend
namespace Go.Proofs.Ytoalbeiinlcgpaa
open Go.RowKit P1 P9 K
set_option linter.unusedVariables false
set_option linter.unusedSimpArgs false

def partA (oa : Option Addr) (l m : Nat) : Option Addr := if m = l then oa else oa.map (·.add (l * 3))

theorem RowsAt.piece {w : World} {oa : Option Addr} {n cap : Nat} {es : List EntV} (h : EntsAt w oa n cap es) (l r m : Nat) (hl : l ≤ r) (hr : r ≤ n) (hm : r ≤ m) (hc : m ≤ cap) : EntsAt w (partA oa l m) (r - l) (m - l) ((es.take r).drop l) := by
  refine ⟨by rw [List.length_drop, List.length_take, h.len]; omega, by omega, Nat.le_trans (by omega) h.most, fun k f hf => ?_⟩
  rw [List.getElem?_drop] at hf
  have hk : l + k < r := by have := (List.getElem?_eq_some_iff.1 hf).1; rw [List.length_take] at this; omega
  rw [List.getElem?_take_of_lt hk] at hf
  obtain ⟨b, o, rfl, hcell⟩ := h.at_ (l + k) f hf
  refine ⟨b, o + l * 3, by unfold partA; rw [if_neg (by omega), Option.map_some, Addr.add_mid], fun j u hu => ?_⟩
  have := hcell j u hu
  rw [← this]
  congr 2
  rw [Nat.add_mul]
  omega

theorem elemE : Try.prog.underlying 31 = some (.slice (Try.prog.elem 31)) := by kernel_rfl

theorem sizeE (w : World) : (sizeOf (Try.prog.elem 31)).run Try.prog w = .ok 3 w := by kernel_rfl

theorem run_piece (oa : Option Addr) (n cap : Nat) (x y z : Int) (l r m : Nat) (hx : x = l) (hy : y = r) (hz : z = m) (h1 : l ≤ r) (h2 : r ≤ m) (h3 : m ≤ cap) (w : World) :
    (Instr.slice 31 (.slice oa n cap) (some (.int .i64 x)) (some (.int .i64 y)) (some (.int .i64 z))).run Try.prog w = .ok (.slice (partA oa l m) (r - l) (m - l)) w := by
  subst hx hy hz
  rw [run_slice_lhm w 31 oa n cap elemE .i64 .i64 .i64 l r m (by omega) (by omega) (by omega) (by omega), sizeE]
  rfl

theorem run_piece_h (oa : Option Addr) (n cap : Nat) (y : Int) (r : Nat) (hy : y = r) (h2 : r ≤ cap) (w : World) :
    (Instr.slice 31 (.slice oa n cap) none (some (.int .i64 y)) none).run Try.prog w = .ok (.slice (partA oa 0 cap) (r - 0) (cap - 0)) w := by
  subst hy
  rw [run_slice_h w 31 oa n cap elemE .i64 r (by omega) (by omega), sizeE]
  rfl

theorem run_piece_l (oa : Option Addr) (n cap : Nat) (x : Int) (l : Nat) (hx : x = l) (h2 : l ≤ n) (w : World) :
    (Instr.slice 31 (.slice oa n cap) (some (.int .i64 x)) none none).run Try.prog w = .ok (.slice (partA oa l cap) (n - l) (cap - l)) w := by
  subst hx
  rw [run_slice_l w 31 oa n cap elemE .i64 l (by omega) (by omega), sizeE]
  rfl

set_option maxHeartbeats 1000000 in
theorem between_any (s u : Int) (oa : Option Addr) (n cap : Nat) (hnc : n ≤ cap) (x y : Int) (l r : Nat) (hx : x = s + l) (hy : y = s + r) (h0 : 0 ≤ s) (h1 : s ≤ 1000000) (hl : l ≤ r) (hr : r ≤ n) (hn : n ≤ 60) (w : World) :
    Calls Try.prog 71 #[lgv s u (.slice oa n cap), .int .i64 x, .int .i64 y] w fun e w' => e = .returned (.slice (partA oa l r) (r - l) (r - l)) ∧ Below w.heap.size w w' := by
  have HB0 := hide ((Below.refl w.heap.size w).alloc (Nat.le_refl _) (.cells #[.int .i64 s, .int .i64 u, .slice oa n cap] 33))
  have hsl := run_piece oa n cap (x - s) (y - s) (y - s) l r r (by omega) (by omega) (by omega) hl (Nat.le_refl _) (by omega)
  have b1 : 0 ≤ x - s := by omega
  have b2 : x - s ≤ 60 := by omega
  have b3 : 0 ≤ y - s := by omega
  have b4 : y - s ≤ 60 := by omega
  clear hx hy
  go_enter Try.func71, Try.ntmps71
  go_wp2_with fail
  go_ret
  exact ⟨rfl, HB0.out⟩

def LogRes (w : World) (s u : Int) (es : List EntV) (e : Ending) (w' : World) : Prop :=
  ∃ v, e = .returned (lgv s u v) ∧ w'.ownsRow w.heap.size 75 3 v es.length (es.flatMap ecells) ∧ Below w.heap.size w w'

theorem set_grown (w : World) (p k : Nat) (v : Value) : w.grownBy (w.setCell ⟨p, k, none⟩ v) (some p) :=
  ⟨rfl, rfl, rfl, by simp [World.setCell], fun j hj hne => Below.heap_setCell _ _ _ _ (fun e => hne (by rw [e]))⟩

theorem own_setOther {w : World} {base : Nat} {e : TypeId} {size : Nat} {v : Value} {n : Nat} {xs : List Value} (h : w.ownsRow base e size v n xs) {p k : Nat} {u : Value} (hne : ∀ g, v.ownBlock = some g → g ≠ p) : (w.setCell ⟨p, k, none⟩ u).ownsRow base e size v n xs := by
  refine h.kept (set_grown w p k u) ?_
  cases hv : v.ownBlock with
  | none => exact Or.inl rfl
  | some g => exact Or.inr (fun e => hne g hv (Option.some.inj e))

theorem take_flat6 (es : List EntV) {j : Nat} {f : EntV} (h : es[j]? = some f) : (es.take j).flatMap ecells ++ ecells f = (es.take (j + 1)).flatMap ecells := by
  rw [List.take_add_one, h]
  simp

set_option maxHeartbeats 2000000 in
theorem copied6_any (s u : Int) (oa : Option Addr) (n cap : Nat) (es : List EntV) (hn : n ≤ 1048576) (w : World) (hat : EntsAt w oa n cap es) (hw : ∀ f ∈ es, f.data.size ≤ 1048576) :
    Calls Try.prog 63 #[lgv s u (.slice oa n cap)] w fun e w' => LogRes w s u es e w' := by
  have hb0 := ((Below.refl w.heap.size w).alloc (Nat.le_refl _) (.cells #[.int .i64 s, .int .i64 u, .slice oa n cap] 33)).alloc (by simp) (.cells #[.int .i64 0, .int .i64 0, .slice none 0 0] 33)
  have HL := hide hat.len
  have HAT := hide hat
  have HW := hide hw
  have HB0 := hide hb0
  clear hat hw hb0
  go_enter Try.func63, Try.ntmps63
  go_wp2_with fail
  obtain ⟨W1, hW1⟩ : ∃ W1, W1 = ((w.alloc (.cells #[.int .i64 s, .int .i64 u, .slice oa n cap] 33)).alloc (.cells #[.int .i64 0, .int .i64 0, .slice none 0 0] 33)) := ⟨_, rfl⟩
  have z1 : W1.heap.size = w.heap.size + 2 := by rw [hW1]; simp
  have HB1 := HB0
  rw [← hW1] at HB1 ⊢
  have HW1 := hide hW1
  have Z1 := hide z1
  clear hW1 z1
  go_loopw [9, 3] (fun i v wr => ∃ (j : Nat) (ov : Option Addr) (cv : Nat), i = .int .i64 (j : Int) ∧ v = .slice ov j cv ∧ j ≤ n ∧ wr.ownsRow (w.heap.size + 2) 75 3 (.slice ov j cv) j ((es.take j).flatMap ecells) ∧ Below (w.heap.size + 2) W1 wr) (fun i _ _ => n - (intOf i).toNat)
  case atStart => exact ⟨0, none, 0, rfl, rfl, Nat.zero_le _, World.ownsRow_nil _ _ _ _, Below.refl _ _⟩
  case round =>
    obtain ⟨j, ov, cv, rfl, rfl, hj, hown, hbel⟩ := hrel
    have hsz : w.heap.size + 2 ≤ wr.heap.size := by have := hbel.size; have := Z1.out; omega
    by_cases hlt : j < n
    · have j0 : (j : Int) < (n : Int) := by omega
      have hbw : Below w.heap.size w wr := HB1.out.trans (hbel.mono (by omega))
      obtain ⟨f, b, q, hf, hidx, hb, d0, d1, d2⟩ := (HAT.out.below hbw).get3 Try.underlying31 infoIE j hlt
      have hcl := hide (stringsClone_any f.data (by have := HW.out f (List.mem_of_getElem? hf); omega))
      have HO := hide hown
      have HBL := hide hbel
      have HF := hide hf
      clear hown hbel hf hbw
      go_wp2_with fail
      refine (hcl.out _).mono ?_
      rintro e w2 ⟨rfl, hb2⟩
      have y0 : w2.cell? ⟨wr.heap.size, 0, none⟩ = some (.int .i64 f.term) := (hb2.cell (by simp)).trans (by simp)
      have y1 : w2.cell? ⟨wr.heap.size, 1, none⟩ = some (.int .i64 f.kind) := (hb2.cell (by simp)).trans (by simp)
      have y2 : w2.cell? ⟨wr.heap.size, 2, none⟩ = some (.string f.data) := (hb2.cell (by simp)).trans (by simp)
      have q2 : w2.frozen? ⟨wr.heap.size, 2, none⟩ = false := (hb2.frozen (by simp)).trans (by simp)
      have ho2 := own_below (HO.out.alloc (.cells #[.int .i64 f.term, .int .i64 f.kind, .string f.data] 75)) hb2
      have s2 : wr.heap.size < w2.heap.size := by have := hb2.size; simp at this; omega
      have hb3 := ((HBL.out.alloc hsz (.cells #[.int .i64 f.term, .int .i64 f.kind, .string f.data] 75)).trans (hb2.mono (by simp; omega))).setCell (p := ⟨wr.heap.size, 2, none⟩) (by simpa using hsz) (.string f.data)
      have ho3 := own_setOther (p := wr.heap.size) (k := 2) (u := .string f.data) ho2 (fun g hg e1 => by have := (HO.out.lt g hg).2; omega)
      have z3 : (w2.setCell ⟨wr.heap.size, 2, none⟩ (.string f.data)).heap.size = w2.heap.size := by simp [World.setCell]
      have HO3 := hide ho3
      have HB3 := hide hb3
      have Z3 := hide z3
      clear ho2 hb2 hb3 ho3 z3
      go_wp2_with (at_builtin; refine wpList_pushK (cs := #[.int .i64 f.term, .int .i64 f.kind, .string f.data]) rfl _ _ 31 rfl (by decide) Try.underlying31 infoIEz rfl rfl HO3.out (by rw [Z3.out]; rfl) rfl (ecells_one f) HB3.out (by rw [Z3.out]; omega) (by unfold maxLen; omega) (by omega) ?_)
      intro v' w4 ho40 hb4 hs4
      have ho4 : w4.ownsRow (w.heap.size + 2) 75 3 v' (j + 1) ((es.take j).flatMap ecells ++ ecells f) := ho40
      rw [take_flat6 es HF.out] at ho4
      clear ho40
      obtain ⟨o4, c4, rfl⟩ : ∃ o4 c4, v' = .slice o4 (j + 1) c4 := by
        rcases ho4.2 with ⟨rfl, h0⟩ | ⟨g, cap, cur, rfl, _⟩
        · omega
        · exact ⟨_, _, rfl⟩
      have HO4 := hide ho4
      have HB4 := hide hb4
      clear ho4 hb4 hs4
      go_wp2_with fail
      go_roundw
      case rel => exact ⟨j + 1, o4, c4, by go_num, rfl, by omega, HO4.out, HB4.out⟩
      case measure => simp [intOf]; omega
    · have hjn : j = n := by omega
      subst hjn
      have k0 : wr.cell? ⟨w.heap.size, 0, none⟩ = some (.int .i64 s) := (hbel.cell (by simp)).trans (by rw [HW1.out]; simp)
      have k1 : wr.cell? ⟨w.heap.size, 1, none⟩ = some (.int .i64 u) := (hbel.cell (by simp)).trans (by rw [HW1.out]; simp)
      have k2 : wr.cell? ⟨w.heap.size, 2, none⟩ = some (.slice oa j cap) := (hbel.cell (by simp)).trans (by rw [HW1.out]; simp)
      have q2 : wr.frozen? ⟨w.heap.size, 2, none⟩ = false := (hbel.frozen (by simp)).trans (by rw [HW1.out]; simp)
      have r0 : wr.cell? ⟨w.heap.size + 1, 0, none⟩ = some (.int .i64 0) := (hbel.cell (by simp)).trans (by rw [HW1.out]; simp)
      have r1 : wr.cell? ⟨w.heap.size + 1, 1, none⟩ = some (.int .i64 0) := (hbel.cell (by simp)).trans (by rw [HW1.out]; simp)
      have r2 : wr.cell? ⟨w.heap.size + 1, 2, none⟩ = some (.slice none 0 0) := (hbel.cell (by simp)).trans (by rw [HW1.out]; simp)
      have t0 : wr.frozen? ⟨w.heap.size + 1, 0, none⟩ = false := (hbel.frozen (by simp)).trans (by rw [HW1.out]; simp)
      have t1 : wr.frozen? ⟨w.heap.size + 1, 1, none⟩ = false := (hbel.frozen (by simp)).trans (by rw [HW1.out]; simp)
      have t2 : wr.frozen? ⟨w.heap.size + 1, 2, none⟩ = false := (hbel.frozen (by simp)).trans (by rw [HW1.out]; simp)
      have hown' := hown
      rw [List.take_of_length_le (by rw [HL.out]; exact Nat.le_refl _)] at hown'
      have HO := hide hown'
      have HBF := hide (HB1.out.trans (hbel.mono (by omega)))
      clear hown hown' hbel
      go_wp2_with fail
      refine bodyPost_ret (v := lgv s u (.slice ov j cv)) (by simp [results, Try.results63, go_sem, k0, k1, k2, q2, r0, r1, r2, t0, t1, t2]) rfl ⟨_, rfl, ?_, ?_⟩
      · rw [HL.out]
        refine own_base (base := w.heap.size + 2) ?_ (by omega)
        repeat (refine own_setCell ?_ (by simp <;> omega) _)
        exact HO.out
      · repeat (refine Below.setCell ?_ (by simp <;> omega) _)
        exact HBF.out

end Go.Proofs.Ytoalbeiinlcgpaa
