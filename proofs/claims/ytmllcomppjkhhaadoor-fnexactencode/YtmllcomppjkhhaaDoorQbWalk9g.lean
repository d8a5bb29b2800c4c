/-
  Walks and mathematics of Walk9g.
-/
import Derived.Test.YtmllcomppjkhhaaDoorQbPlain1
import Derived.Test.YtmllcomppjkhhaaDoorQbWalk1a
import Derived.Deep.RegionWith
import Derived.Deep.RegionHeld3
import Derived.Deep.QuietTactic
import Derived.BigQuiet
import Derived.WalkSmall
import Derived.Lib.Strings
import Derived.Test.YtmllcomppjkhhaaDoorQbInts
import Derived.Test.YtmllcomppjkhhaaDoorQbBuildW
import Derived.Test.YtmllcomppjkhhaaDoorQbShelf
namespace Go.Proofs.YtmllcomppjkhhaaDoor.P3
end Go.Proofs.YtmllcomppjkhhaaDoor.P3
namespace Go.Proofs.YtmllcomppjkhhaaDoor
open Go.RowKit P1 P3 P9 P11 P12 K
set_option linter.unusedVariables false
set_option linter.unusedSimpArgs false

theorem varZ_len (z : Int) : (varZ z).length ≤ 10 := varB_length _

theorem vars_len : ∀ (zs : List Int), (zs.flatMap varZ).length ≤ 10 * zs.length
  | [] => by simp
  | z :: r => by
    have h1 := varZ_len z
    have h2 := vars_len r
    simp only [List.flatMap_cons, List.length_append, List.length_cons]
    omega

theorem vars_next {zs : List Int} {j : Nat} {z : Int} (h : zs[j]? = some z) : (zs.take (j + 1)).flatMap varZ = (zs.take j).flatMap varZ ++ varZ z := by
  rw [List.take_add_one, h]
  simp

set_option maxHeartbeats 1000000 in
theorem varsText_any (oa : Option Addr) (n cap : Nat) (zs : List Int) (hn : n ≤ 1048576) (hz : ∀ z ∈ zs, 0 ≤ z ∧ z ≤ 1000000000) (w : World) (hat : IntsAt w oa n cap zs) :
    Calls Tryd.prog 73 #[.slice oa n cap] w fun e w' => e = .returned (.string ⟨(zs.flatMap varZ).toArray⟩) ∧ Below w.heap.size w w' := by
  have HN := hide hat.len
  have HAT := hide hat
  have HZ := hide hz
  clear hat hz
  go_enter Tryd.func73, Tryd.ntmps73
  go_wp2_with fail
  go_loopw [10] (fun i wr => ∃ (j : Nat), i = .int .i64 (j : Int) ∧ j ≤ n ∧ Lib.IsBuilder 124 5 w.heap.size w.heap.size (Lib.byteCells ((zs.take j).flatMap varZ)) wr ∧ Below w.heap.size w wr) (fun i _ => n - (intOf i).toNat)
  case atStart => exact ⟨0, rfl, Nat.zero_le _, by rw [List.take_zero]; exact Lib.fresh_isBuilder _ _ w, (Below.refl _ _).alloc (Nat.le_refl _) _⟩
  case round =>
    obtain ⟨j, rfl, hj, hbu, hbel⟩ := hrel
    have HBU := hide hbu
    have HBL := hide hbel
    by_cases hlt : j < n
    · have j0 : (j : Int) < (n : Int) := by omega
      obtain ⟨z, b, q, hz, hidx, hb, c0, hwf⟩ := (HAT.out.below hbel).get Tryd.underlying23 infoI j hlt
      obtain ⟨hz0, hz1⟩ := HZ.out z (List.mem_of_getElem? hz)
      have HNX := hide (vars_next hz)
      have HLN := hide (vars_len (zs.take j))
      obtain ⟨k, rfl⟩ := Int.eq_ofNat_of_zero_le hz0
      have hk : k ≤ 1000000000 := by omega
      clear hz hbu hbel hz0 hz1
      go_wp2_with fail
      refine (implVarText_yes k hk _).mono ?_
      rintro e w1 ⟨rfl, hb1⟩
      have HB1 := hide (HBL.out.trans (hb1.mono HBL.out.size))
      have HU1 := hide (isBuilder_on HBU.out hb1)
      clear hb1 hidx c0
      go_wp2_with fail
      refine (writeString_any w.heap.size w.heap.size _ ⟨(varB k).toArray⟩ w1 HU1.out ?_ HB1.out.size).mono ?_
      · have h1 := HLN.out
        have h2 := varB_length k
        rw [List.length_take] at h1
        show (Lib.byteCells _).length + (varB k).length ≤ _
        unfold Lib.byteCells
        rw [List.length_map]
        omega
      rintro e w2 ⟨rfl, hu2, hb2⟩
      have HU2 := hide (show Lib.IsBuilder 124 5 w.heap.size w.heap.size (Lib.byteCells ((zs.take (j + 1)).flatMap varZ)) w2 by
        rw [HNX.out]
        unfold Lib.byteCells
        rw [List.map_append]
        exact hu2)
      have HB2 := hide (HB1.out.trans hb2)
      clear hu2 hb2
      go_wp2_with fail
      go_roundw
      case rel => exact ⟨j + 1, by go_num, by omega, HU2.out, HB2.out⟩
      case measure => simp [intOf]; omega
    · have hjn : j = n := by omega
      have HUE := hide (show Lib.IsBuilder 124 5 w.heap.size w.heap.size (Lib.byteCells (zs.flatMap varZ)) wr by
        have := HBU.out
        rw [hjn, List.take_of_length_le (by rw [HN.out]; exact Nat.le_refl _)] at this
        exact this)
      clear hbu hbel
      go_wp2_with fail
      refine (Tryd.Builder_String_any w.heap.size w.heap.size _ wr HUE.out HBL.out.size).mono ?_
      rintro e w1 ⟨rfl, hb1⟩
      go_wp2_with fail
      go_ret
      exact ⟨rfl, HBL.out.trans hb1⟩

theorem bytes_next {zs : List Int} {j : Nat} {z : Int} (h : zs[j]? = some z) : (zs.map byB).take (j + 1) = (zs.map byB).take j ++ [byB z] := by
  rw [List.take_add_one, List.getElem?_map, h]
  simp

theorem byB_nat {z : Int} (h : 0 ≤ z ∧ z ≤ 255) : z = ((byB z).toNat : Int) := (bz_byB h).symm

set_option maxHeartbeats 1000000 in
theorem bytesText_any (oa : Option Addr) (n cap : Nat) (zs : List Int) (hn : n ≤ 1048576) (hz : ∀ z ∈ zs, 0 ≤ z ∧ z ≤ 255) (w : World) (hat : IntsAt w oa n cap zs) :
    Calls Tryd.prog 63 #[.slice oa n cap] w fun e w' => e = .returned (.string ⟨(zs.map byB).toArray⟩) ∧ Below w.heap.size w w' := by
  have HN := hide hat.len
  have HAT := hide hat
  have HZ := hide hz
  clear hat hz
  go_enter Tryd.func63, Tryd.ntmps63
  go_wp2_with fail
  go_loopw [3, 8] (fun v i wr => ∃ (j : Nat), i = .int .i64 (j : Int) ∧ j ≤ n ∧ wr.ownsRow w.heap.size 5 1 v j (B8 ((zs.map byB).take j)) ∧ Below w.heap.size w wr) (fun _ i _ => n - (intOf i).toNat)
  case atStart => exact ⟨0, rfl, Nat.zero_le _, World.ownsRow_nil _ _ _ _, Below.refl _ _⟩
  case round =>
    obtain ⟨j, rfl, hj, hown, hbel⟩ := hrel
    have hsz := hbel.size
    by_cases hlt : j < n
    · have j0 : (j : Int) < (n : Int) := by omega
      obtain ⟨z, b, q, hz, hidx, hb, c0, hwf⟩ := (HAT.out.below hbel).get Tryd.underlying23 infoI j hlt
      obtain ⟨hz1, hz4⟩ := HZ.out z (List.mem_of_getElem? hz)
      have HX := hide (bytes_next hz)
      have HBZ := hide (byB_nat ⟨hz1, hz4⟩)
      clear hz
      go_wp2_with (at_builtin; refine wpList_push rfl _ _ 59 rfl Tryd.underlying59 infoByte rfl rfl hown rfl rfl hbel hsz (by unfold maxLen; omega) (by omega) ?_)
      intro v' w1 hown' hbel' _
      have R := hide (show w1.ownsRow w.heap.size 5 1 v' (j + 1) (B8 ((zs.map byB).take (j + 1))) by
        rw [HX.out, ← B8_snoc _ (byB z) z HBZ.out]
        exact hown')
      have R2 := hide hbel'
      clear hown' hbel' hown hbel
      go_wp2
      go_roundw
      case rel => exact ⟨j + 1, by go_num, by omega, R.out, R2.out⟩
      case measure => simp [intOf]; omega
    · have hjn : j = n := by omega
      rw [hjn, List.take_of_length_le (by rw [List.length_map, HN.out]; exact Nat.le_refl _)] at hown
      have hconv := run_string_own (P := Tryd.prog) (src := 59) (dst := 9) Tryd.underlying59 Tryd.underlying5 Tryd.underlying9 hown
      clear hown
      go_wp2
      go_ret
      exact ⟨rfl, hbel⟩

end Go.Proofs.YtmllcomppjkhhaaDoor
