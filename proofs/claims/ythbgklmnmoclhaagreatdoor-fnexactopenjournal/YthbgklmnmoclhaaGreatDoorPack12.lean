/-
  A log in a variable: its three cells; what keeps them.
  Walks of chapter 6: a piece of a log's entries; a copy of a log.
  Walks of chapter 6: the last index; LogTerm of an index that a right log has.
  Regions that draw their order, held: what is held may grow on the way.
  'append' of a piece of a slice of entries to an empty slice of the call's own, and of one entry to a full slice that came in: at a step of a region that draws its order, and in a row of operations.
-/
import Derived.Test.YthbgklmnmoclhaaGreatDoorPack11
import Derived.Deep.RegionHeld3
import Derived.Test.YthbgklmnmoclhaaGreatDoorPack8
import Derived.ArgAppend
import Derived.Deep.DrawnRows
namespace Go.Proofs.YthbgklmnmoclhaaGreatDoor
open Go.RowKit P1 P9 K
set_option linter.unusedVariables false
set_option linter.unusedSimpArgs false

/-- A variable that holds a log. -/
structure LV (w : World) (b : Nat) (s u : Int) (v : Value) : Prop where
  c0 : w.cell? ⟨b, 0, none⟩ = some (.int .i64 s)
  c1 : w.cell? ⟨b, 1, none⟩ = some (.int .i64 u)
  c2 : w.cell? ⟨b, 2, none⟩ = some v

theorem LV.lt {w : World} {b : Nat} {s u : Int} {v : Value} (h : LV w b s u v) : b < w.heap.size := cell_lt h.c0

theorem LV.on {w w' : World} {b : Nat} {s u : Int} {v : Value} (h : LV w b s u v) (hb : Below w.heap.size w w') : LV w' b s u v :=
  ⟨(hb.cell h.lt).trans h.c0, (hb.cell h.lt).trans h.c1, (hb.cell h.lt).trans h.c2⟩

theorem LV.drew {w : World} {b : Nat} {s u : Int} {v : Value} (h : LV w b s u v) : LV w.drew b s u v := h.on (Below.refl _ _).drew

theorem LV.new (w : World) (s u : Int) (v : Value) (t : TypeId) : LV (w.alloc (.cells #[.int .i64 s, .int .i64 u, v] t)) w.heap.size s u v := ⟨by simp, by simp, by simp⟩

theorem cell_block {w w' : World} {p : Addr} (h : w'.heap[p.block]? = w.heap[p.block]?) : w'.cell? p = w.cell? p := by
  unfold World.cell?
  rw [h]

theorem LV.kept {w w' : World} {b : Nat} {s u : Int} {v : Value} {row : Option Nat} (h : LV w b s u v) (hg : w.grownBy w' row) (hne : row ≠ some b) : LV w' b s u v := by
  have hb := hg.block b h.lt (fun e => hne e.symm)
  exact ⟨(cell_block hb).trans h.c0, (cell_block hb).trans h.c1, (cell_block hb).trans h.c2⟩

theorem own_form3 {w : World} {base : Nat} {e : TypeId} {size : Nat} {v : Value} {n : Nat} {xs : List Value} (h : w.ownsRow base e size v n xs) : ∃ oa cap, v = .slice oa n cap := by
  rcases h.2 with ⟨rfl, rfl⟩ | ⟨g, cap, cur, rfl, _⟩
  · exact ⟨_, _, rfl⟩
  · exact ⟨_, _, rfl⟩

theorem entsAt_own {w : World} {base : Nat} {e : TypeId} {v : Value} {n : Nat} {es : List EntV} (h : w.ownsRow base e 3 v n (es.flatMap ecells)) : ∃ oa cap, v = .slice oa n cap ∧ EntsAt w oa n cap es := rowsAt_of_own ecells_length (by omega) h

theorem szif {es : List EntV} {x : Int} (c : ¬ szEs es x < 0) : (if szEs es x < 0 then -1 else szEs es x) = szEs es x := by rw [if_neg c]

end Go.Proofs.YthbgklmnmoclhaaGreatDoor

namespace Go.Proofs.YthbgklmnmoclhaaGreatDoor
open Go.RowKit P1 P9 K
set_option linter.unusedVariables false
set_option linter.unusedSimpArgs false

/-- Where a piece of a slice of entries begins. -/
def partA (oa : Option Addr) (l m : Nat) : Option Addr := if m = l then oa else oa.map (·.add (l * 3))

theorem RowsAt.piece {w : World} {oa : Option Addr} {n cap : Nat} {es : List EntV} (h : EntsAt w oa n cap es) (l r m : Nat) (hl : l ≤ r) (hr : r ≤ n) (hm : r ≤ m) (hc : m ≤ cap) : EntsAt w (partA oa l m) (r - l) (m - l) ((es.take r).drop l) := by
  refine ⟨by rw [List.length_drop, List.length_take, h.len]; omega, by omega, Nat.le_trans (by omega) h.most, fun k f hf => ?_⟩
  rw [List.getElem?_drop] at hf
  have hk : l + k < r := by have := (List.getElem?_eq_some_iff.1 hf).1; rw [List.length_take] at this; omega
  rw [List.getElem?_take_of_lt hk] at hf
  obtain ⟨b, o, rfl, hcell⟩ := h.at_ (l + k) f hf
  refine ⟨b, o + l * 3, by unfold partA; rw [if_neg (by omega), Option.map_some, Addr.add_mid], fun j u hu => ?_⟩
  have := hcell j u hu
  rw [← this]
  congr 2
  rw [Nat.add_mul]
  omega

theorem elemE : Tryz.prog.underlying 26 = some (.slice (Tryz.prog.elem 26)) := by kernel_rfl
theorem sizeE (w : World) : (sizeOf (Tryz.prog.elem 26)).run Tryz.prog w = .ok 3 w := by kernel_rfl

theorem run_piece (oa : Option Addr) (n cap : Nat) (x y z : Int) (l r m : Nat) (hx : x = l) (hy : y = r) (hz : z = m) (h1 : l ≤ r) (h2 : r ≤ m) (h3 : m ≤ cap) (w : World) :
    (Instr.slice 26 (.slice oa n cap) (some (.int .i64 x)) (some (.int .i64 y)) (some (.int .i64 z))).run Tryz.prog w = .ok (.slice (partA oa l m) (r - l) (m - l)) w := by
  subst hx hy hz
  rw [run_slice_lhm w 26 oa n cap elemE .i64 .i64 .i64 l r m (by omega) (by omega) (by omega) (by omega), sizeE]
  rfl

theorem run_piece_h (oa : Option Addr) (n cap : Nat) (y : Int) (r : Nat) (hy : y = r) (h2 : r ≤ cap) (w : World) :
    (Instr.slice 26 (.slice oa n cap) none (some (.int .i64 y)) none).run Tryz.prog w = .ok (.slice (partA oa 0 cap) (r - 0) (cap - 0)) w := by
  subst hy
  rw [run_slice_h w 26 oa n cap elemE .i64 r (by omega) (by omega), sizeE]
  rfl

theorem run_piece_l (oa : Option Addr) (n cap : Nat) (x : Int) (l : Nat) (hx : x = l) (h2 : l ≤ n) (w : World) :
    (Instr.slice 26 (.slice oa n cap) (some (.int .i64 x)) none none).run Tryz.prog w = .ok (.slice (partA oa l cap) (n - l) (cap - l)) w := by
  subst hx
  rw [run_slice_l w 26 oa n cap elemE .i64 l (by omega) (by omega), sizeE]
  rfl

set_option maxHeartbeats 1000000 in
theorem between_any (s u : Int) (oa : Option Addr) (n cap : Nat) (hnc : n ≤ cap) (x y : Int) (l r : Nat) (hx : x = s + l) (hy : y = s + r) (h0 : 0 ≤ s) (h1 : s ≤ 1000000) (hl : l ≤ r) (hr : r ≤ n) (hn : n ≤ 60) (w : World) :
    Calls Tryz.prog 117 #[lgv s u (.slice oa n cap), .int .i64 x, .int .i64 y] w fun e w' => e = .returned (.slice (partA oa l r) (r - l) (r - l)) ∧ Below w.heap.size w w' := by
  have HB0 := hide ((Below.refl w.heap.size w).alloc (Nat.le_refl _) (.cells #[.int .i64 s, .int .i64 u, .slice oa n cap] 28))
  have hsl := run_piece oa n cap (x - s) (y - s) (y - s) l r r (by omega) (by omega) (by omega) hl (Nat.le_refl _) (by omega)
  have b1 : 0 ≤ x - s := by omega
  have b2 : x - s ≤ 60 := by omega
  have b3 : 0 ≤ y - s := by omega
  have b4 : y - s ≤ 60 := by omega
  clear hx hy
  go_enter Tryz.func117, Tryz.ntmps117
  go_wp2_with fail
  go_ret
  exact ⟨rfl, HB0.out⟩

/-- A log that is handed back: its entries lie in memory of the call's own. -/
def LogRes (w : World) (s u : Int) (es : List EntV) (e : Ending) (w' : World) : Prop :=
  ∃ v, e = .returned (lgv s u v) ∧ w'.ownsRow w.heap.size 111 3 v es.length (es.flatMap ecells) ∧ Below w.heap.size w w'

theorem set_grown (w : World) (p k : Nat) (v : Value) : w.grownBy (w.setCell ⟨p, k, none⟩ v) (some p) :=
  ⟨rfl, rfl, rfl, by simp [World.setCell], fun j hj hne => Below.heap_setCell _ _ _ _ (fun e => hne (by rw [e]))⟩

theorem own_setOther {w : World} {base : Nat} {e : TypeId} {size : Nat} {v : Value} {n : Nat} {xs : List Value} (h : w.ownsRow base e size v n xs) {p k : Nat} {u : Value} (hne : ∀ g, v.ownBlock = some g → g ≠ p) : (w.setCell ⟨p, k, none⟩ u).ownsRow base e size v n xs := by
  refine h.kept (set_grown w p k u) ?_
  cases hv : v.ownBlock with
  | none => exact Or.inl rfl
  | some g => exact Or.inr (fun e => hne g hv (Option.some.inj e))

theorem take_flat6 (es : List EntV) {j : Nat} {f : EntV} (h : es[j]? = some f) : (es.take j).flatMap ecells ++ ecells f = (es.take (j + 1)).flatMap ecells := by
  rw [List.take_add_one, h]
  simp

set_option maxHeartbeats 2000000 in
theorem copied6_any (s u : Int) (oa : Option Addr) (n cap : Nat) (es : List EntV) (hn : n ≤ 1048576) (w : World) (hat : EntsAt w oa n cap es) (hw : ∀ f ∈ es, f.data.size ≤ 1048576) :
    Calls Tryz.prog 118 #[lgv s u (.slice oa n cap)] w fun e w' => LogRes w s u es e w' := by
  have hb0 := ((Below.refl w.heap.size w).alloc (Nat.le_refl _) (.cells #[.int .i64 s, .int .i64 u, .slice oa n cap] 28)).alloc (by simp) (.cells #[.int .i64 0, .int .i64 0, .slice none 0 0] 28)
  have HL := hide hat.len
  have HAT := hide hat
  have HW := hide hw
  have HB0 := hide hb0
  clear hat hw hb0
  go_enter Tryz.func118, Tryz.ntmps118
  go_wp2_with fail
  obtain ⟨W1, hW1⟩ : ∃ W1, W1 = ((w.alloc (.cells #[.int .i64 s, .int .i64 u, .slice oa n cap] 28)).alloc (.cells #[.int .i64 0, .int .i64 0, .slice none 0 0] 28)) := ⟨_, rfl⟩
  have z1 : W1.heap.size = w.heap.size + 2 := by rw [hW1]; simp
  have HB1 := HB0
  rw [← hW1] at HB1 ⊢
  have HW1 := hide hW1
  have Z1 := hide z1
  clear hW1 z1
  go_loopw [9, 3] (fun i v wr => ∃ (j : Nat) (ov : Option Addr) (cv : Nat), i = .int .i64 (j : Int) ∧ v = .slice ov j cv ∧ j ≤ n ∧ wr.ownsRow (w.heap.size + 2) 111 3 (.slice ov j cv) j ((es.take j).flatMap ecells) ∧ Below (w.heap.size + 2) W1 wr) (fun i _ _ => n - (intOf i).toNat)
  case atStart => exact ⟨0, none, 0, rfl, rfl, Nat.zero_le _, World.ownsRow_nil _ _ _ _, Below.refl _ _⟩
  case round =>
    obtain ⟨j, ov, cv, rfl, rfl, hj, hown, hbel⟩ := hrel
    have hsz : w.heap.size + 2 ≤ wr.heap.size := by have := hbel.size; have := Z1.out; omega
    by_cases hlt : j < n
    · have j0 : (j : Int) < (n : Int) := by omega
      have hbw : Below w.heap.size w wr := HB1.out.trans (hbel.mono (by omega))
      obtain ⟨f, b, q, hf, hidx, hb, d0, d1, d2⟩ := (HAT.out.below hbw).get3 Tryz.underlying26 infoIE j hlt
      have hcl := hide (stringsClone_any f.data (by have := HW.out f (List.mem_of_getElem? hf); omega))
      have HO := hide hown
      have HBL := hide hbel
      have HF := hide hf
      clear hown hbel hf hbw
      go_wp2_with fail
      refine (hcl.out _).mono ?_
      rintro e w2 ⟨rfl, hb2⟩
      have y0 : w2.cell? ⟨wr.heap.size, 0, none⟩ = some (.int .i64 f.term) := (hb2.cell (by simp)).trans (by simp)
      have y1 : w2.cell? ⟨wr.heap.size, 1, none⟩ = some (.int .i64 f.kind) := (hb2.cell (by simp)).trans (by simp)
      have y2 : w2.cell? ⟨wr.heap.size, 2, none⟩ = some (.string f.data) := (hb2.cell (by simp)).trans (by simp)
      have q2 : w2.frozen? ⟨wr.heap.size, 2, none⟩ = false := (hb2.frozen (by simp)).trans (by simp)
      have ho2 := own_below (HO.out.alloc (.cells #[.int .i64 f.term, .int .i64 f.kind, .string f.data] 111)) hb2
      have s2 : wr.heap.size < w2.heap.size := by have := hb2.size; simp at this; omega
      have hb3 := ((HBL.out.alloc hsz (.cells #[.int .i64 f.term, .int .i64 f.kind, .string f.data] 111)).trans (hb2.mono (by simp; omega))).setCell (p := ⟨wr.heap.size, 2, none⟩) (by simpa using hsz) (.string f.data)
      have ho3 := own_setOther (p := wr.heap.size) (k := 2) (u := .string f.data) ho2 (fun g hg e1 => by have := (HO.out.lt g hg).2; omega)
      have z3 : (w2.setCell ⟨wr.heap.size, 2, none⟩ (.string f.data)).heap.size = w2.heap.size := by simp [World.setCell]
      have HO3 := hide ho3
      have HB3 := hide hb3
      have Z3 := hide z3
      clear ho2 hb2 hb3 ho3 z3
      go_wp2_with (at_builtin; refine wpList_pushK (cs := #[.int .i64 f.term, .int .i64 f.kind, .string f.data]) rfl _ _ 26 rfl (by decide) Tryz.underlying26 infoIEz rfl rfl HO3.out (by rw [Z3.out]; rfl) rfl (ecells_one f) HB3.out (by rw [Z3.out]; omega) (by unfold maxLen; omega) (by omega) ?_)
      intro v' w4 ho40 hb4 hs4
      have ho4 : w4.ownsRow (w.heap.size + 2) 111 3 v' (j + 1) ((es.take j).flatMap ecells ++ ecells f) := ho40
      rw [take_flat6 es HF.out] at ho4
      clear ho40
      obtain ⟨o4, c4, rfl⟩ : ∃ o4 c4, v' = .slice o4 (j + 1) c4 := by
        rcases ho4.2 with ⟨rfl, h0⟩ | ⟨g, cap, cur, rfl, _⟩
        · omega
        · exact ⟨_, _, rfl⟩
      have HO4 := hide ho4
      have HB4 := hide hb4
      clear ho4 hb4 hs4
      go_wp2_with fail
      go_roundw
      case rel => exact ⟨j + 1, o4, c4, by go_num, rfl, by omega, HO4.out, HB4.out⟩
      case measure => simp [intOf]; omega
    · have hjn : j = n := by omega
      subst hjn
      have k0 : wr.cell? ⟨w.heap.size, 0, none⟩ = some (.int .i64 s) := (hbel.cell (by simp)).trans (by rw [HW1.out]; simp)
      have k1 : wr.cell? ⟨w.heap.size, 1, none⟩ = some (.int .i64 u) := (hbel.cell (by simp)).trans (by rw [HW1.out]; simp)
      have k2 : wr.cell? ⟨w.heap.size, 2, none⟩ = some (.slice oa j cap) := (hbel.cell (by simp)).trans (by rw [HW1.out]; simp)
      have q2 : wr.frozen? ⟨w.heap.size, 2, none⟩ = false := (hbel.frozen (by simp)).trans (by rw [HW1.out]; simp)
      have r0 : wr.cell? ⟨w.heap.size + 1, 0, none⟩ = some (.int .i64 0) := (hbel.cell (by simp)).trans (by rw [HW1.out]; simp)
      have r1 : wr.cell? ⟨w.heap.size + 1, 1, none⟩ = some (.int .i64 0) := (hbel.cell (by simp)).trans (by rw [HW1.out]; simp)
      have r2 : wr.cell? ⟨w.heap.size + 1, 2, none⟩ = some (.slice none 0 0) := (hbel.cell (by simp)).trans (by rw [HW1.out]; simp)
      have t0 : wr.frozen? ⟨w.heap.size + 1, 0, none⟩ = false := (hbel.frozen (by simp)).trans (by rw [HW1.out]; simp)
      have t1 : wr.frozen? ⟨w.heap.size + 1, 1, none⟩ = false := (hbel.frozen (by simp)).trans (by rw [HW1.out]; simp)
      have t2 : wr.frozen? ⟨w.heap.size + 1, 2, none⟩ = false := (hbel.frozen (by simp)).trans (by rw [HW1.out]; simp)
      have hown' := hown
      rw [List.take_of_length_le (by rw [HL.out]; exact Nat.le_refl _)] at hown'
      have HO := hide hown'
      have HBF := hide (HB1.out.trans (hbel.mono (by omega)))
      clear hown hown' hbel
      go_wp2_with fail
      refine bodyPost_ret (v := lgv s u (.slice ov j cv)) (by simp [results, Tryz.results118, go_sem, k0, k1, k2, q2, r0, r1, r2, t0, t1, t2]) rfl ⟨_, rfl, ?_, ?_⟩
      · rw [HL.out]
        refine own_base (base := w.heap.size + 2) ?_ (by omega)
        repeat (refine own_setCell ?_ (by simp <;> omega) _)
        exact HO.out
      · repeat (refine Below.setCell ?_ (by simp <;> omega) _)
        exact HBF.out

end Go.Proofs.YthbgklmnmoclhaaGreatDoor

namespace Go.Proofs.YthbgklmnmoclhaaGreatDoor
open Go.RowKit P1 P9 K
set_option linter.unusedVariables false
set_option linter.unusedSimpArgs false

theorem l06Last_any (s u : Int) (oa : Option Addr) (n cap : Nat) (h0 : 0 ≤ s) (h1 : s ≤ 1000000) (hn : n ≤ 60) (w : World) :
    Calls Tryz.prog 88 #[lgv s u (.slice oa n cap)] w fun e w' => e = .returned (.int .i64 (s + n)) ∧ Below w.heap.size w w' := by
  have HB0 := hide ((Below.refl w.heap.size w).alloc (Nat.le_refl _) (.cells #[.int .i64 s, .int .i64 u, .slice oa n cap] 28))
  go_enter Tryz.func88, Tryz.ntmps88
  go_wp2_with fail
  go_ret
  exact ⟨rfl, HB0.out⟩

theorem lastT_take {es : List EntV} {k : Nat} {f : EntV} (u : Int) (h : es[k]? = some f) : lastT u (es.take (k + 1)) = f.term := by
  have hk := (List.getElem?_eq_some_iff.1 h).1
  refine lastT_at (es.take (k + 1)) u k f (by rw [List.length_take]; omega) ?_
  rw [List.getElem?_take_of_lt (by omega)]
  exact h

/-- An index of the kind uint. -/
theorem RowsAt.idxU {w : World} {oa : Option Addr} {n cap : Nat} {es : List EntV} (h : EntsAt w oa n cap es) (i : Nat) (hin : i < n) {v : Value} (hx : ∀ wx, (Instr.indexAt 26 (.slice oa n cap) (.int .i64 (i : Int))).run Tryz.prog wx = .ok v wx) (wx : World) : (Instr.indexAt 26 (.slice oa n cap) (.int .u64 (i : Int))).run Tryz.prog wx = .ok v wx := by
  obtain ⟨x, hx1⟩ : ∃ x, es[i]? = some x := ⟨_, List.getElem?_eq_getElem (by rw [h.len]; exact hin)⟩
  obtain ⟨b, o, rfl, _⟩ := h.at_ i x hx1
  have h1 := hx wx
  have hc : 0 ≤ (i : Int) ∧ (i : Int) < (n : Int) := by omega
  rw [Go.run_indexAt_slice _ _ _ _ _ _ _ elemE, if_pos hc] at h1 ⊢
  exact h1

end Go.Proofs.YthbgklmnmoclhaaGreatDoor

namespace Go.Proofs.YthbgklmnmoclhaaGreatDoor.K
open Go

/-- To hold more is enough. -/
theorem held_more {P : Program} {md : Region.Mode} {ops : Array Oper} {Q : Exit → Act → World → Prop} {S S' : World → Prop} (h : ∀ w, S' w → S w) :
    ∀ (fuel : Nat) (listed : Array Bool) (a : Act) (w : World), wpAnyH P md ops Q S' fuel listed a w → wpAnyH P md ops Q S fuel listed a w
  | 0, _, _, _, k => k
  | fuel + 1, _, _, _, k => ⟨k.1, fun i hi => wpOp_mono (fun a' w' h' => ⟨h w' h'.1, held_more h fuel _ a' w' h'.2⟩) (k.2 i hi)⟩

end Go.Proofs.YthbgklmnmoclhaaGreatDoor.K

namespace Go.Proofs.YthbgklmnmoclhaaGreatDoor
open Go.RowKit P1 P9 K
set_option linter.unusedVariables false
set_option linter.unusedSimpArgs false

theorem ecells_flat_one (xs : List EntV) : ∀ u ∈ xs.flatMap ecells, u.oneCell' = true := by
  intro u hu
  obtain ⟨e, -, he⟩ := List.mem_flatMap.1 hu
  exact ecells_one e u he

/-- The cells of a slice of entries, counted from its beginning. -/
theorem RowsAt.news {w : World} {b o n cap : Nat} {xs : List EntV} (h : EntsAt w (some ⟨b, o, none⟩) n cap xs) : ∀ j u, (xs.flatMap ecells)[j]? = some u → w.cell? ((⟨b, o, none⟩ : Addr).add j) = some u := by
  intro j u hu
  have hj : j < n * 3 := by
    have := (List.getElem?_eq_some_iff.1 hu).1
    rw [flat_length ecells 3 ecells_length, h.len] at this
    exact this
  have h1 : j / 3 < xs.length := by rw [h.len]; omega
  obtain ⟨f, hf⟩ : ∃ f, xs[j / 3]? = some f := ⟨_, List.getElem?_eq_getElem h1⟩
  have hfe : xs[j / 3] = f := (List.getElem?_eq_some_iff.1 hf).2
  have h3 := flat_get ecells 3 ecells_length xs (j / 3) (j % 3) h1 (by omega)
  have e1 : j / 3 * 3 + j % 3 = j := by omega
  rw [e1, hfe, hu] at h3
  obtain ⟨b', o', he, hc⟩ := h.at_ (j / 3) f hf
  cases he
  have h4 := hc (j % 3) u h3.symm
  rw [Addr.add_mid]
  rw [← h4]
  congr 2
  omega

theorem run_append_none {P : Program} {w : World} (t ty e : TypeId) (i : TypeInfo) (ht : P.underlying t = some (.slice e)) (hi : P.info? e = some i) (g : Nat) (ox : Option Addr) (c : Nat) :
    (Builtin.append_ #[t, t] ty #[.slice (some ⟨g, 0, none⟩) 0 0, .slice ox 0 c]).run P w = .ok (.slice (some ⟨g, 0, none⟩) 0 0) w := by
  have hfc : (Builtin.firstCells i.size 0 (.slice ox 0 c)).run P w = .ok #[] w := by
    cases ox with
    | none => simp [Builtin.firstCells]
    | some a => simpa using run_firstCells_some (P := P) w i.size 0 a 0 c [] (by simp) (by simp)
  simp [Builtin.append_, run_underlying ht, sizeOf, typeInfo, hi, Builtin.lenOf, hfc, storeCells]

/-- A piece appended to an empty slice of the call's own. -/
theorem run_append_piece {w : World} (ty : TypeId) (g : Nat) (hg : w.heap[g]? = some (.cells #[] 111 (0, 0))) (px : Option Addr) (m c : Nat) (xs : List EntV) (hat : EntsAt w px m c xs) (hm : m ≤ 1048576) (base : Nat) (hb : base ≤ g) :
    ∃ v' w', (Builtin.append_ #[26, 26] ty #[.slice (some ⟨g, 0, none⟩) 0 0, .slice px m c]).run Tryz.prog w = .ok v' w' ∧ w'.ownsRow base 111 3 v' m (xs.flatMap ecells) ∧ w.grownBy w' (some g) := by
  obtain ⟨i0, hi, hz0, hz1, hz2⟩ := info_parts infoIEz
  have hlt : g < w.heap.size := (Array.getElem?_eq_some_iff.1 hg).1
  have hown : w.ownsRow base 111 3 (.slice (some ⟨g, 0, none⟩) 0 0) 0 [] := ⟨rfl, Or.inr ⟨g, 0, #[], rfl, hb, hg, Nat.le_refl _, by unfold maxLen; omega, rfl, rfl⟩⟩
  match m, hat with
  | 0, hat =>
    have : xs = [] := List.eq_nil_of_length_eq_zero hat.len
    subst this
    exact ⟨_, _, run_append_none _ ty _ i0 Tryz.underlying26 hi g px c, hown, World.grownBy.refl _ _⟩
  | m + 1, hat =>
    obtain ⟨x, hx⟩ : ∃ x, xs[0]? = some x := ⟨_, List.getElem?_eq_getElem (by rw [hat.len]; omega)⟩
    obtain ⟨b, o, rfl, _⟩ := hat.at_ 0 x hx
    obtain ⟨v', w', h1, h2, h3, -⟩ := run_append_own (P := Tryz.prog) w base 26 ty 111 i0 _ 3 32 Tryz.underlying26 hi hz0 hz1 hz2 rfl (by decide) _ 0 [] hown ⟨b, o, none⟩ (m + 1) c (xs.flatMap ecells) (by rw [flat_length ecells 3 ecells_length, hat.len]) hat.news (ecells_flat_one xs) (by unfold maxLen; omega) (by omega) (by omega)
    refine ⟨v', w', h1, ?_, h3⟩
    rw [Nat.zero_add, List.nil_append] at h2
    exact h2

theorem wp_append_piece {w : World} {o : Oper} {a : Act} {K : Act → World → Prop} {Q : Exit → Act → World → Prop} (s x : Operand)
    (ho : o.op = .call { callee := .builtin .append, args := #[s, x], argTypes := #[26, 26] }) (g : Nat) (hg : w.heap[g]? = some (.cells #[] 111 (0, 0))) (hs : a.eval s = .slice (some ⟨g, 0, none⟩) 0 0)
    (px : Option Addr) (m c : Nat) (xs : List EntV) (hx : a.eval x = .slice px m c) (hat : EntsAt w px m c xs) (hm : m ≤ 1048576) (base : Nat) (hb : base ≤ g)
    (h : ∀ v' w', w'.ownsRow base 111 3 v' m (xs.flatMap ecells) → w.grownBy w' (some g) → K (a.put o.dst v') w') : o.wp Tryz.prog a w K Q := by
  obtain ⟨v', w', hr, h2, h3⟩ := run_append_piece o.type g hg px m c xs hat hm base hb
  unfold Oper.wp execOp
  simp only [ho, resolve, invoke, builtin, Sem.run_bind, Sem.run_pure, Result.andThen_ok, List.map_toArray, List.map_cons, List.map_nil, hs, hx, hr]
  exact h v' w' h2 h3

theorem wpList_append_piece {w : World} {ops : Array Oper} {rest : List Oper} {o : Oper} {a : Act} {Q : Exit → Act → World → Prop} (hgd : o.guard = none) (s x : Operand)
    (ho : o.op = .call { callee := .builtin .append, args := #[s, x], argTypes := #[26, 26] }) (g : Nat) (hg : w.heap[g]? = some (.cells #[] 111 (0, 0))) (hs : a.eval s = .slice (some ⟨g, 0, none⟩) 0 0)
    (px : Option Addr) (m c : Nat) (xs : List EntV) (hx : a.eval x = .slice px m c) (hat : EntsAt w px m c xs) (hm : m ≤ 1048576) (base : Nat) (hb : base ≤ g)
    (h : ∀ v' w', w'.ownsRow base 111 3 v' m (xs.flatMap ecells) → w.grownBy w' (some g) → wpList Tryz.prog ops Q rest (a.put o.dst v') w') : wpList Tryz.prog ops Q (o :: rest) a w :=
  wpList_plain hgd fun _ hK => wp_append_piece s x ho g hg hs px m c xs hx hat hm base hb fun v' w' h2 h3 => hK _ _ (h v' w' h2 h3)

/-- One entry, in a block of its own, appended to a full slice that came in. -/
theorem run_append_full {w : World} (ty : TypeId) (px : Option Addr) (m : Nat) (xs : List EntV) (hat : EntsAt w px m m xs) (hm : m ≤ 1048576) (b c : Nat) (e : EntV) (hbk : w.heap[b]? = some (.cells #[.int .i64 e.term, .int .i64 e.kind, .string e.data] 111 (0, 0))) :
    ∃ v' w', (Builtin.append_ #[26, 26] ty #[.slice px m m, .slice (some ⟨b, 0, none⟩) 1 c]).run Tryz.prog w = .ok v' w' ∧ w'.ownsRow w.heap.size 111 3 v' (m + 1) ((xs ++ [e]).flatMap ecells) ∧ w.grownBy w' none := by
  obtain ⟨i0, hi, hz0, hz1, hz2⟩ := info_parts infoIEz
  have hnews : ∀ j u, (ecells e)[j]? = some u → w.cell? ((⟨b, 0, none⟩ : Addr).add j) = some u := World.news_of_block hbk
  have hflat : (xs ++ [e]).flatMap ecells = xs.flatMap ecells ++ ecells e := by simp
  rw [hflat]
  have hlo : (xs.flatMap ecells).length = m * 3 := by rw [flat_length ecells 3 ecells_length, hat.len]
  cases px with
  | none =>
    have hm0 : m = 0 := by
      cases m with
      | zero => rfl
      | succ m =>
        obtain ⟨x, hx⟩ : ∃ x, xs[0]? = some x := ⟨_, List.getElem?_eq_getElem (by rw [hat.len]; omega)⟩
        obtain ⟨_, _, h, _⟩ := hat.at_ 0 x hx
        cases h
    subst hm0
    have : xs = [] := List.eq_nil_of_length_eq_zero hat.len
    subst this
    obtain ⟨v', w', h1, h2, h3, -⟩ := run_append_own (P := Tryz.prog) w w.heap.size 26 ty 111 i0 _ 3 32 Tryz.underlying26 hi hz0 hz1 hz2 rfl (by decide) (.slice none 0 0) 0 [] (World.ownsRow_nil w _ _ _) ⟨b, 0, none⟩ 1 c (ecells e) rfl hnews (ecells_one e) (by unfold maxLen; omega) (by omega) (Nat.le_refl _)
    exact ⟨v', w', h1, h2, h3⟩
  | some ad =>
    exact run_append_arg_grows (P := Tryz.prog) w 26 ty 111 i0 _ 3 32 Tryz.underlying26 hi hz0 hz1 hz2 rfl (by decide) ad m m (xs.flatMap ecells) hlo (by
      intro j u hu
      have hj := (List.getElem?_eq_some_iff.1 hu).1
      obtain ⟨x, hx⟩ : ∃ x, xs[0]? = some x := ⟨_, List.getElem?_eq_getElem (by rw [hat.len]; omega)⟩
      obtain ⟨b', o', h, _⟩ := hat.at_ 0 x hx
      cases h
      exact hat.news j u hu) ⟨b, 0, none⟩ 1 c (ecells e) rfl hnews (by omega) (by unfold maxLen; omega) (by omega)

theorem wp_append_full {w : World} {o : Oper} {a : Act} {K : Act → World → Prop} {Q : Exit → Act → World → Prop} (s x : Operand)
    (ho : o.op = .call { callee := .builtin .append, args := #[s, x], argTypes := #[26, 26] }) (px : Option Addr) (m : Nat) (xs : List EntV) (hs : a.eval s = .slice px m m) (hat : EntsAt w px m m xs) (hm : m ≤ 1048576) (b c : Nat) (e : EntV) (hx : a.eval x = .slice (some ⟨b, 0, none⟩) 1 c) (hbk : w.heap[b]? = some (.cells #[.int .i64 e.term, .int .i64 e.kind, .string e.data] 111 (0, 0)))
    (h : ∀ v' w', w'.ownsRow w.heap.size 111 3 v' (m + 1) ((xs ++ [e]).flatMap ecells) → w.grownBy w' none → K (a.put o.dst v') w') : o.wp Tryz.prog a w K Q := by
  obtain ⟨v', w', hr, h2, h3⟩ := run_append_full o.type px m xs hat hm b c e hbk
  unfold Oper.wp execOp
  simp only [ho, resolve, invoke, builtin, Sem.run_bind, Sem.run_pure, Result.andThen_ok, List.map_toArray, List.map_cons, List.map_nil, hs, hx, hr]
  exact h v' w' h2 h3

/-- One entry, in a block of its own, appended to a row that the call owns. -/
theorem wp_append_entry {w : World} {o : Oper} {a : Act} {K : Act → World → Prop} {Q : Exit → Act → World → Prop} (s x : Operand)
    (ho : o.op = .call { callee := .builtin .append, args := #[s, x], argTypes := #[26, 26] }) (base : Nat) (v : Value) (m : Nat) (xs : List EntV) (hs : a.eval s = v) (hown : w.ownsRow base 111 3 v m (xs.flatMap ecells)) (hm : m ≤ 1048576) (hbase : base ≤ w.heap.size) (b c : Nat) (e : EntV) (hx : a.eval x = .slice (some ⟨b, 0, none⟩) 1 c) (hbk : w.heap[b]? = some (.cells #[.int .i64 e.term, .int .i64 e.kind, .string e.data] 111 (0, 0)))
    (h : ∀ v' w', w'.ownsRow base 111 3 v' (m + 1) ((xs ++ [e]).flatMap ecells) → w.grownBy w' v.ownBlock → K (a.put o.dst v') w') : o.wp Tryz.prog a w K Q := by
  obtain ⟨i0, hi, hz0, hz1, hz2⟩ := info_parts infoIEz
  refine wp_append_own w s x 26 ho base 111 i0 _ 3 32 Tryz.underlying26 hi hz0 hz1 hz2 rfl (by decide) v m _ hs hown ⟨b, 0, none⟩ 1 c (ecells e) hx rfl (World.news_of_block hbk) (ecells_one e) (by unfold maxLen; omega) (by omega) hbase ?_
  intro v' w' h1 h2 _
  refine h v' w' ?_ h2
  have hflat : (xs ++ [e]).flatMap ecells = xs.flatMap ecells ++ ecells e := by simp
  rw [hflat]
  exact h1

end Go.Proofs.YthbgklmnmoclhaaGreatDoor
