/-
  The laws' own helpers over slices of texts: markText, markStringS, heldStringS, eqStringS.
  Files marked, and whether the marks are held.
-/
import Derived.Test.YtpenpbopehbncaaDoorPack9
import Derived.Test.YtpenpbopehbncaaDoorPack1
import Derived.WalkSmall
import Derived.Deep.RegionHeld3
import Derived.Deep.QuietTactic
import Derived.BigQuiet
import Derived.Test.YtpenpbopehbncaaDoorFlat2
import Derived.Test.YtpenpbopehbncaaDoorPack15
namespace Go.Proofs.YtpenpbopehbncaaDoor
open Go.RowKit P1 K
set_option linter.unusedVariables false

theorem infoStr : (Tryd.prog.info? 9).map (fun i => (i.zero, i.size, i.bytes)) = some (some (.string ⟨#[]⟩), 1, 16) := by kernel_rfl

/-- Texts as cells. -/
def strs (xs : List (List UInt8)) : List Value := xs.map (fun l => Value.string ⟨l.toArray⟩)
theorem strs_length (xs : List (List UInt8)) : (strs xs).length = xs.length := by simp [strs]
theorem strs_append (xs ys : List (List UInt8)) : strs (xs ++ ys) = strs xs ++ strs ys := by simp [strs]

def markB (k : Nat) : List UInt8 := 109 :: Lib.decDigits k
def marks (k n : Nat) : List (List UInt8) := (List.range n).map (fun i => markB (k + i))
theorem marks_length (k n : Nat) : (marks k n).length = n := by simp [marks]
theorem marks_at (k n i : Nat) (h : i < n) : (marks k n)[i]? = some (markB (k + i)) := by simp [marks, h]

set_option maxHeartbeats 1000000 in
theorem markText_any (k : Nat) (h1 : k ≤ 1000000000) (w : World) :
    Calls Tryd.prog 68 #[.int .i64 (k : Int)] w fun e w' => e = .returned (.string ⟨(markB k).toArray⟩) ∧ Below w.heap.size w w' := by
  by_cases h0 : k = 0
  · subst h0
    go_enter Tryd.func68, Tryd.ntmps68
    go_wp2_with fail
    go_ret
    exact ⟨by unfold markB; rw [dec_small 0 (by decide)]; rfl, Below.refl _ _⟩
  · have g1 : ¬ ((k : Int) ≤ 0) := by omega
    have hlen := hide (dec_length k (by omega))
    have K0 := hide h0
    clear h0
    go_enter Tryd.func68, Tryd.ntmps68
    go_wp2_with fail
    go_loopw [0, 3] (fun x s wr => ∃ (m : Nat) (t : List UInt8), x = .int .i64 (m : Int) ∧ s = .string ⟨t.toArray⟩ ∧ m ≤ 1000000000 ∧ DecRel k m t ∧ Below w.heap.size w wr) (fun x _ _ => (intOf x).toNat)
    case atStart => exact ⟨k, [], rfl, rfl, h1, DecRel.start k K0.out, Below.refl _ _⟩
    case round =>
      obtain ⟨m, t, rfl, rfl, hm, hd, hbel⟩ := hrel
      have hsz := hbel.size
      have hl : t.length ≤ 20 := Nat.le_trans hd.length hlen.out
      by_cases h : m = 0
      · have q : ¬ ((0 : Int) < (m : Int)) := by omega
        have e := hide (hd.1 h)
        clear hd h
        go_wp2_with fail
        go_ret
        exact ⟨by unfold markB; rw [e.out]; exact congrArg (fun x => Ending.returned (Value.string x)) (cat_one 109 t), hbel⟩
      · have q : ((0 : Int) < (m : Int)) := by omega
        have R := hd.step h
        have HS := hide (show (m / 10 : Nat) < m by omega)
        clear hd h
        have ef : ((figB (m % 10)).toNat : Int) = 48 + (m : Int) % 10 := by rw [figB_lo _ (by omega)]; omega
        have hconv := fun wx => run_string_one (P := Tryd.prog) wx (src := 93) (dst := 9) Tryd.underlying93 Tryd.underlying5 Tryd.underlying9 (figB (m % 10))
        rw [ef] at hconv
        clear ef
        go_wp2_with fail
        go_roundw
        case rel => exact ⟨m / 10, figB (m % 10) :: t, by go_num, congrArg Value.string (cat_one _ _), by omega, R, hbel.alloc hsz _⟩
        case measure => have := HS.out; simp only [intOf]; omega

theorem marks_step (k j n : Nat) (xs : List (List UInt8)) (hl : xs.length = n) (hj : j < n) : (strs (marks k j ++ xs.drop j)).set j (.string ⟨(markB (k + j)).toArray⟩) = strs (marks k (j + 1) ++ xs.drop (j + 1)) := by
  have e1 : xs.drop j = xs[j] :: xs.drop (j + 1) := List.drop_eq_getElem_cons (by omega)
  have e2 : marks k (j + 1) = marks k j ++ [markB (k + j)] := by simp [marks, List.range_succ]
  rw [e1, e2, strs_append, strs_append, strs_append, List.set_append_right _ _ (by rw [strs_length, marks_length]; exact Nat.le_refl _), strs_length, marks_length]
  simp only [strs, List.map_cons, List.map_nil, Nat.sub_self, List.set_cons_zero, List.append_assoc, List.cons_append, List.nil_append]

theorem own_str {w : World} {base g n cap : Nat} {zs : List (List UInt8)} (h : w.ownsRow base 9 1 (.slice (some ⟨g, 0, none⟩) n cap) n (strs zs)) (j : Nat) (hj : j < n) :
    ∃ l, zs[j]? = some l ∧ w.cell? ⟨g, j, none⟩ = some (.string ⟨l.toArray⟩) := by
  have hl : zs.length = n := by have := h.1; rw [strs_length] at this; omega
  refine ⟨zs[j]'(by omega), List.getElem?_eq_getElem (by omega), ?_⟩
  rw [h.cellAt j (by omega)]
  simp [strs, show j < zs.length by omega]

end Go.Proofs.YtpenpbopehbncaaDoor

namespace Go.Proofs.YtpenpbopehbncaaDoor
open Go.RowKit P1 P5 K
set_option linter.unusedVariables false
set_option linter.unusedSimpArgs false

def markF (k i : Nat) : FileV := ⟨markB (k + 3 * i), markB (k + 3 * i + 1), ((k + 3 * i + 2 : Nat) : Int)⟩
def marksF (k n : Nat) : List FileV := (List.range n).map (markF k)

theorem marksF_length (k n : Nat) : (marksF k n).length = n := by simp [marksF]
theorem marksF_at (k n i : Nat) (h : i < n) : (marksF k n)[i]? = some (markF k i) := by simp [marksF, h]

/-- The step of one cell in a row that the call owns. -/
theorem own_one {w : World} {base : Nat} {e : TypeId} {g n cap : Nat} {xs : List Value} (h : w.ownsRow base e 3 (.slice (some ⟨g, 0, none⟩) n cap) n xs) (j : Nat) (hj : j < n * 3) :
    ∃ u, w.cell? ⟨g, j, none⟩ = some u := ⟨_, by rw [h.cellAt j hj, List.getElem?_eq_getElem (by rw [h.1]; exact hj)]⟩

set_option maxHeartbeats 1000000 in
theorem markFileS_some (g n cap base k : Nat) (hn : n ≤ 1048576) (hk : k ≤ 1000) (w : World) (xs : List Value) (hown : w.ownsRow base 89 3 (.slice (some ⟨g, 0, none⟩) n cap) n xs) :
    Calls Tryd.prog 67 #[.slice (some ⟨g, 0, none⟩) n cap, .int .i64 (k : Int)] w fun e w' => e = .returned (.int .i64 ((k + 3 * n : Nat) : Int)) ∧ w'.ownsRow base 89 3 (.slice (some ⟨g, 0, none⟩) n cap) n ((marksF k n).flatMap fcells) ∧ w.grownBy w' (some g) := by
  have HO0 := hide hown
  clear hown
  go_enter Tryd.func67, Tryd.ntmps67
  go_wp2_with fail
  go_loopw [1, 5] (fun x i wr => ∃ (j : Nat) (ys : List Value), i = .int .i64 (j : Int) ∧ x = .int .i64 ((k + 3 * j : Nat) : Int) ∧ j ≤ n ∧ Filled (marksF k n) j ys ∧ wr.ownsRow base 89 3 (.slice (some ⟨g, 0, none⟩) n cap) n ys ∧ w.grownBy wr (some g)) (fun _ i _ => n - (intOf i).toNat)
  case atStart => exact ⟨0, xs, rfl, rfl, Nat.zero_le _, filled_zero _ _, HO0.out, grown_below (Below.refl _ _)⟩
  case round =>
    obtain ⟨j, ys, rfl, rfl, hj, hfill, hown, hgr⟩ := hrel
    by_cases hlt : j < n
    · have j0 : (j : Int) < (n : Int) := by omega
      have hidx2 : ∀ wx, (Instr.indexAt 45 (.slice (some ⟨g, 0, none⟩) n cap) (.int .i64 (j : Int))).run Tryd.prog wx = .ok (.pointer (some ⟨g, j * 3, none⟩)) wx := fun wx => by
        have := run_indexAt_slice wx 45 89 3 Tryd.underlying45 infoIF g 0 n cap j hlt
        rwa [Nat.zero_add] at this
      have HFI := hide hfill
      have HO := hide hown
      have HG := hide hgr
      clear hfill hown hgr
      go_wp2_with fail
      refine (markText_any (k + 3 * j) (by omega) _).mono ?_
      rintro e w2 ⟨rfl, hb2⟩
      have ho2 := own_below HO.out hb2
      obtain ⟨y0, z0⟩ := own_one ho2 (j * 3) (by omega)
      have f0 := ho2.frozenAt (j * 3)
      have st2 := ho2.stored (j * 3) (.string ⟨(markB (k + 3 * j)).toArray⟩)
      have HO2 := hide st2.1
      have HG2 := hide (grown_trans HG.out (grown_trans (grown_below hb2) st2.2))
      clear hb2 ho2 st2
      go_wp2_with fail
      refine (markText_any (k + 3 * j + 1) (by omega) _).mono ?_
      rintro e w3 ⟨rfl, hb3⟩
      have ho3 := own_below HO2.out hb3
      obtain ⟨y1, z1⟩ := own_one ho3 (j * 3 + 1) (by omega)
      have f1 := ho3.frozenAt (j * 3 + 1)
      have st3 := ho3.stored (j * 3 + 1) (.string ⟨(markB (k + 3 * j + 1)).toArray⟩)
      have HG3 := hide (grown_trans HG2.out (grown_trans (grown_below hb3) st3.2))
      obtain ⟨y2, z2⟩ := own_one st3.1 (j * 3 + 2) (by omega)
      have f2 := st3.1.frozenAt (j * 3 + 2)
      have st4 := st3.1.stored (j * 3 + 2) (.int .i64 ((k + 3 * j + 2 : Nat) : Int))
      have HO4 := hide st4.1
      have HG4 := hide (grown_trans HG3.out st4.2)
      clear hb3 ho3 st3 st4 z0 f0
      go_wp2_with fail
      go_roundw
      case rel => exact ⟨j + 1, _, by go_num, by go_num, by omega, filled_step HFI.out (marksF_at k n j hlt) (by have := HO.out.1; omega), HO4.out, HG4.out⟩
      case measure => simp [intOf]; omega
    · have ej : j = n := by omega
      subst ej
      have HO := hide hown
      have HE := hide (filled_end hfill (marksF_length k j) hown.1)
      clear hown hfill
      go_wp2_with fail
      go_ret
      exact ⟨by go_num, by rw [← HE.out]; exact HO.out, hgr⟩

theorem markFileS_any (v : Value) (n base k : Nat) (hn : n ≤ 1048576) (hk : k ≤ 1000) (w : World) (xs : List Value) (hown : w.ownsRow base 89 3 v n xs) :
    Calls Tryd.prog 67 #[v, .int .i64 (k : Int)] w fun e w' => e = .returned (.int .i64 ((k + 3 * n : Nat) : Int)) ∧ w'.ownsRow base 89 3 v n ((marksF k n).flatMap fcells) ∧ w.grownBy w' v.ownBlock := by
  rcases hown.2 with ⟨rfl, rfl⟩ | ⟨g, cap, cur, rfl, _⟩
  · clear hown
    go_enter Tryd.func67, Tryd.ntmps67
    go_wp2_with fail
    go_loopw [1, 5] (fun x i wr => x = .int .i64 (k : Int) ∧ i = .int .i64 0 ∧ wr = w) (fun _ _ _ => 0)
    case atStart => exact ⟨rfl, rfl, rfl⟩
    case round =>
      obtain ⟨rfl, rfl, rfl⟩ := hrel
      go_wp2_with fail
      go_ret
      exact ⟨rfl, World.ownsRow_nil _ _ _ _, grown_below (Below.refl _ _)⟩
  · exact markFileS_some g n cap base k hn hk w xs hown

theorem markDisk_any (v : Value) (n base k : Nat) (hn : n ≤ 1048576) (hk : k ≤ 1000) (w : World) (xs : List Value) (hown : w.ownsRow base 89 3 v n xs) :
    Calls Tryd.prog 26 #[.agg #[v], .int .i64 (k : Int)] w fun e w' => e = .returned (.int .i64 ((k + 3 * n : Nat) : Int)) ∧ w'.ownsRow base 89 3 v n ((marksF k n).flatMap fcells) ∧ w.grownBy w' v.ownBlock := by
  have hv : v.oneCell' = true := by
    rcases hown.2 with ⟨rfl, rfl⟩ | ⟨g, cap, cur, rfl, _⟩ <;> simp [Value.oneCell']
  have HO := hide hown
  clear hown
  go_enter Tryd.func26, Tryd.ntmps26
  go_wp2_with (go_at_call 67; refine (markFileS_any v n base k hn hk _ xs (HO.out.alloc _)).mono ?_; rintro e w2 ⟨rfl, ho2, hg2⟩)
  go_ret
  exact ⟨rfl, ho2, grown_trans (World.grownBy_alloc _ _ _) hg2⟩

end Go.Proofs.YtpenpbopehbncaaDoor
