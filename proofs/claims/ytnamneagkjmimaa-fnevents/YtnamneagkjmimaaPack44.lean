/-
  strings.Builder: what is written goes behind what was written (the shelf's contract of WriteString is not laid at this translation).
  Walks of chapter 9: numbers one behind the other, as VarText and as bytes; one byte.
-/
import Derived.Test.YtnamneagkjmimaaShelf
import Derived.Test.YtnamneagkjmimaaPack1
import Derived.Test.YtnamneagkjmimaaPack14
import Derived.Test.YtnamneagkjmimaaEvent1
import Derived.Test.YtnamneagkjmimaaWalk1a
import Derived.Test.YtnamneagkjmimaaWalk1d
import Derived.Test.YtnamneagkjmimaaInts
namespace Go.Proofs.Ytnamneagkjmimaa
open Go.RowKit K
set_option linter.unusedVariables false

theorem bw_lies : liesAt Try.prog Try.prog.depth 75 (2 / Try.prog.cellsOf 75) 0 75 1 = true := by kernel_rfl
theorem bw_info : ∃ j, Try.prog.info? 75 = some j ∧ j.size ≠ 0 := by
  have h : (Try.prog.info? 75).map (·.size) = some 2 := by kernel_rfl
  obtain ⟨j, hj, h2⟩ := Option.map_eq_some_iff.1 h
  exact ⟨j, hj, by rw [h2]; decide⟩
theorem bw_byte : (Try.prog.info? 5).map (fun i => (i.zero, i.size, i.bytes)) = some (some (.int .u8 0), 1, 1) := by kernel_rfl

set_option maxHeartbeats 1000000 in
set_option maxRecDepth 100000 in
theorem copyCheck_used (b : Nat) (w : World) (h : w.cell? ⟨b, 0, none⟩ = some (.pointer (some ⟨b, 0, none⟩))) :
    Calls Try.prog 71 #[.pointer (some ⟨b, 0, none⟩)] w fun e w' => e = .returned (.tuple #[]) ∧ w' = w := by
  obtain ⟨j, hj, -⟩ := bw_info
  have hne := Lib.run_neq_ptr_same w ⟨b, 0, none⟩ Try.underlying73 hj
  go_enter Try.func71, Try.ntmps71
  go_wp2
  go_end0
  exact ⟨rfl, rfl⟩

set_option maxHeartbeats 1000000 in
set_option maxRecDepth 100000 in
theorem copyCheck_fresh (b : Nat) (w : World) (h : w.cell? ⟨b, 0, none⟩ = some (.pointer none)) (hsh : w.shape? b = some (75, 2)) (hf : w.frozen? ⟨b, 0, none⟩ = false) :
    Calls Try.prog 71 #[.pointer (some ⟨b, 0, none⟩)] w fun e w' => e = .returned (.tuple #[]) ∧ w' = w.setCell ⟨b, 0, none⟩ (.pointer (some ⟨b, 0, none⟩)) := by
  obtain ⟨j, hj, hz⟩ := bw_info
  have hA := Lib.run_to_unsafe w ⟨b, 0, none⟩ Try.underlying73 Try.underlying101 hj hz hsh (Nat.zero_lt_succ 1)
  have hE := @run_callFunc_extern Try.prog 76 _ Extern.AbiNoEscape.same Try.func76 (by kernel_rfl) (by kernel_rfl) (by kernel_rfl) (by kernel_rfl)
  have hN := fun x => Lib.run_noEscape (P := Try.prog) w x
  have hC := Lib.run_from_unsafe w ⟨b, 0, none⟩ Try.underlying101 Try.underlying73 hj hsh bw_lies
  go_enter Try.func71, Try.ntmps71
  go_wp2
  go_end0
  exact ⟨rfl, rfl⟩

theorem copyCheck_any (B b : Nat) (bs : List Value) (w : World) (h : Lib.IsBuilder 75 5 B b bs w) :
    Calls Try.prog 71 #[.pointer (some ⟨b, 0, none⟩)] w fun e w' => e = .returned (.tuple #[]) ∧ Lib.BuilderAt 75 5 B b (.pointer (some ⟨b, 0, none⟩)) bs w' ∧ Below B w w' := by
  rcases h with h | h
  · refine (copyCheck_fresh b w h.cell0 h.shape h.frozen0).mono ?_
    rintro e w' ⟨rfl, rfl⟩
    exact ⟨rfl, h.used _, (Below.refl B w).setCell (p := ⟨b, 0, none⟩) h.1 _⟩
  · refine (copyCheck_used b w h.cell0).mono ?_
    rintro e w' ⟨rfl, rfl⟩
    exact ⟨rfl, h, Below.refl B _⟩

set_option maxHeartbeats 2000000 in
set_option maxRecDepth 100000 in
theorem writeString_any (B b : Nat) (bs : List Value) (s : ByteArray) (w : World) (h : Lib.IsBuilder 75 5 B b bs w) (hlen : bs.length + s.size ≤ 140737488355328) (hBw : B ≤ w.heap.size) :
    Calls Try.prog 53 #[.pointer (some ⟨b, 0, none⟩), .string s] w fun e w' => e = .returned (.tuple #[.int .i64 s.size, .nilIface]) ∧ Lib.IsBuilder 75 5 B b (bs ++ Lib.strCells s) w' ∧ Below B w w' := by
  obtain ⟨i0, hi, hz0, hz1, hz2⟩ := info_parts bw_byte
  have HC := hide (copyCheck_any B b bs w h)
  clear h
  go_enter Try.func53, Try.ntmps53
  go_wp2_with fail
  refine HC.out.mono ?_
  rintro e w1 ⟨rfl, h1, hb1⟩
  obtain ⟨hB, v, hbk, hown, hne⟩ := h1
  have c1 : w1.cell? ⟨b, 1, none⟩ = some v := blk_cell hbk 1 rfl
  go_wp2_with (at_builtin; refine Lib.wpList_append_own_string _ rfl _ _ 22 9 rfl B 5 i0 Try.underlying22 Try.underlying9 hi hz0 hz1 hz2 _ _ _ rfl hown s rfl ?c3 ?c4 ?c5 ?_)
  case c3 => unfold maxLen; omega
  case c4 => omega
  case c5 => have := hb1.size; omega
  intro v' w2 hown' hgrow _
  have hlt : b < w1.heap.size := blk_lt hbk
  have hb2 : w2.heap[b]? = some (.cells #[.pointer (some ⟨b, 0, none⟩), v] 75 (0, 0)) := (hgrow.block b hlt (fun e => hne e.symm)).trans hbk
  have d1 : w2.cell? ⟨b, 1, none⟩ = some v := blk_cell hb2 1 rfl
  have f1 : w2.frozen? ⟨b, 1, none⟩ = false := blk_free hb2 1
  have hend : Below B w (w2.setCell ⟨b, 1, none⟩ v') := (hb1.grown hgrow (by have := hb1.size; omega) (fun k hk => (hown.lt k hk).1)).setCell (p := ⟨b, 1, none⟩) hB _
  have hput := Lib.BuilderAt.put (T := 75) (e := 5) hB hb2 (bs' := bs ++ Lib.strCells s) (by simpa [Lib.strCells_length] using hown') (by decide)
  obtain ⟨ao, n', cap, rfl⟩ : ∃ ao n' cap, v' = .slice ao n' cap := by
    rcases hown'.2 with ⟨hv, _⟩ | ⟨g, cap, cur, hv, _⟩
    · exact ⟨_, _, _, hv⟩
    · exact ⟨_, _, _, hv⟩
  clear hown' hgrow hb2 hown hbk c1
  go_wp2_with fail
  go_ret2
  exact ⟨rfl, Or.inr hput, hend⟩

/-- New memory takes nothing from it. -/
theorem isBuilder_on {T e : TypeId} {B b : Nat} {bs : List Value} {w w' : World} (h : Lib.IsBuilder T e B b bs w) (hb : Below w.heap.size w w') : Lib.IsBuilder T e B b bs w' := by
  have key : ∀ p, Lib.BuilderAt T e B b p bs w → Lib.BuilderAt T e B b p bs w' := by
    rintro p ⟨hB, v, hbk, hown, hne⟩
    exact ⟨hB, v, (hb.block b (blk_lt hbk)).trans hbk, own_below hown hb, hne⟩
  exact h.imp (key _) (key _)

end Go.Proofs.Ytnamneagkjmimaa

namespace Go.Proofs.Ytnamneagkjmimaa
open Go.RowKit P1 P3 P9 P11 P12 K
set_option linter.unusedVariables false
set_option linter.unusedSimpArgs false

theorem varZ_len (z : Int) : (varZ z).length ≤ 10 := varB_length _
theorem vars_len : ∀ (zs : List Int), (zs.flatMap varZ).length ≤ 10 * zs.length
  | [] => by simp
  | z :: r => by
    have h1 := varZ_len z
    have h2 := vars_len r
    simp only [List.flatMap_cons, List.length_append, List.length_cons]
    omega

theorem vars_next {zs : List Int} {j : Nat} {z : Int} (h : zs[j]? = some z) : (zs.take (j + 1)).flatMap varZ = (zs.take j).flatMap varZ ++ varZ z := by
  rw [List.take_add_one, h]
  simp

set_option maxHeartbeats 1000000 in
theorem varsText_any (oa : Option Addr) (n cap : Nat) (zs : List Int) (hn : n ≤ 1048576) (hz : ∀ z ∈ zs, 0 ≤ z ∧ z ≤ 1000000000) (w : World) (hat : IntsAt w oa n cap zs) :
    Calls Try.prog 26 #[.slice oa n cap] w fun e w' => e = .returned (.string ⟨(zs.flatMap varZ).toArray⟩) ∧ Below w.heap.size w w' := by
  have HN := hide hat.len
  have HAT := hide hat
  have HZ := hide hz
  clear hat hz
  go_enter Try.func26, Try.ntmps26
  go_wp2_with fail
  go_loopw [10] (fun i wr => ∃ (j : Nat), i = .int .i64 (j : Int) ∧ j ≤ n ∧ Lib.IsBuilder 75 5 w.heap.size w.heap.size (Lib.byteCells ((zs.take j).flatMap varZ)) wr ∧ Below w.heap.size w wr) (fun i _ => n - (intOf i).toNat)
  case atStart => exact ⟨0, rfl, Nat.zero_le _, by rw [List.take_zero]; exact Lib.fresh_isBuilder _ _ w, (Below.refl _ _).alloc (Nat.le_refl _) _⟩
  case round =>
    obtain ⟨j, rfl, hj, hbu, hbel⟩ := hrel
    have HBU := hide hbu
    have HBL := hide hbel
    by_cases hlt : j < n
    · have j0 : (j : Int) < (n : Int) := by omega
      obtain ⟨z, b, q, hz, hidx, hb, c0, hwf⟩ := (HAT.out.below hbel).get Try.underlying24 infoI j hlt
      obtain ⟨hz0, hz1⟩ := HZ.out z (List.mem_of_getElem? hz)
      have HNX := hide (vars_next hz)
      have HLN := hide (vars_len (zs.take j))
      obtain ⟨k, rfl⟩ := Int.eq_ofNat_of_zero_le hz0
      have hk : k ≤ 1000000000 := by omega
      clear hz hbu hbel hz0 hz1
      go_wp2_with fail
      refine (implVarText_yes k hk _).mono ?_
      rintro e w1 ⟨rfl, hb1⟩
      have HB1 := hide (HBL.out.trans (hb1.mono HBL.out.size))
      have HU1 := hide (isBuilder_on HBU.out hb1)
      clear hb1 hidx c0
      go_wp2_with fail
      refine (writeString_any w.heap.size w.heap.size _ ⟨(varB k).toArray⟩ w1 HU1.out ?_ HB1.out.size).mono ?_
      · have h1 := HLN.out
        have h2 := varB_length k
        rw [List.length_take] at h1
        show (Lib.byteCells _).length + (varB k).length ≤ _
        unfold Lib.byteCells
        rw [List.length_map]
        omega
      rintro e w2 ⟨rfl, hu2, hb2⟩
      have HU2 := hide (show Lib.IsBuilder 75 5 w.heap.size w.heap.size (Lib.byteCells ((zs.take (j + 1)).flatMap varZ)) w2 by
        rw [HNX.out]
        unfold Lib.byteCells
        rw [List.map_append]
        exact hu2)
      have HB2 := hide (HB1.out.trans hb2)
      clear hu2 hb2
      go_wp2_with fail
      go_roundw
      case rel => exact ⟨j + 1, by go_num, by omega, HU2.out, HB2.out⟩
      case measure => simp [intOf]; omega
    · have hjn : j = n := by omega
      have HUE := hide (show Lib.IsBuilder 75 5 w.heap.size w.heap.size (Lib.byteCells (zs.flatMap varZ)) wr by
        have := HBU.out
        rw [hjn, List.take_of_length_le (by rw [HN.out]; exact Nat.le_refl _)] at this
        exact this)
      clear hbu hbel
      go_wp2_with fail
      refine (Try.Builder_String_any w.heap.size w.heap.size _ wr HUE.out HBL.out.size).mono ?_
      rintro e w1 ⟨rfl, hb1⟩
      go_wp2_with fail
      go_ret
      exact ⟨rfl, HBL.out.trans hb1⟩

theorem bytes_next {zs : List Int} {j : Nat} {z : Int} (h : zs[j]? = some z) : (zs.map byB).take (j + 1) = (zs.map byB).take j ++ [byB z] := by
  rw [List.take_add_one, List.getElem?_map, h]
  simp

theorem byB_nat {z : Int} (h : 0 ≤ z ∧ z ≤ 255) : z = ((byB z).toNat : Int) := (bz_byB h).symm

set_option maxHeartbeats 1000000 in
theorem bytesText_any (oa : Option Addr) (n cap : Nat) (zs : List Int) (hn : n ≤ 1048576) (hz : ∀ z ∈ zs, 0 ≤ z ∧ z ≤ 255) (w : World) (hat : IntsAt w oa n cap zs) :
    Calls Try.prog 27 #[.slice oa n cap] w fun e w' => e = .returned (.string ⟨(zs.map byB).toArray⟩) ∧ Below w.heap.size w w' := by
  have HN := hide hat.len
  have HAT := hide hat
  have HZ := hide hz
  clear hat hz
  go_enter Try.func27, Try.ntmps27
  go_wp2_with fail
  go_loopw [3, 8] (fun v i wr => ∃ (j : Nat), i = .int .i64 (j : Int) ∧ j ≤ n ∧ wr.ownsRow w.heap.size 5 1 v j (B8 ((zs.map byB).take j)) ∧ Below w.heap.size w wr) (fun _ i _ => n - (intOf i).toNat)
  case atStart => exact ⟨0, rfl, Nat.zero_le _, World.ownsRow_nil _ _ _ _, Below.refl _ _⟩
  case round =>
    obtain ⟨j, rfl, hj, hown, hbel⟩ := hrel
    have hsz := hbel.size
    by_cases hlt : j < n
    · have j0 : (j : Int) < (n : Int) := by omega
      obtain ⟨z, b, q, hz, hidx, hb, c0, hwf⟩ := (HAT.out.below hbel).get Try.underlying24 infoI j hlt
      obtain ⟨hz1, hz4⟩ := HZ.out z (List.mem_of_getElem? hz)
      have HX := hide (bytes_next hz)
      have HBZ := hide (byB_nat ⟨hz1, hz4⟩)
      clear hz
      go_wp2_with (at_builtin; refine wpList_push rfl _ _ 22 rfl Try.underlying22 infoByte rfl rfl hown rfl rfl hbel hsz (by unfold maxLen; omega) (by omega) ?_)
      intro v' w1 hown' hbel' _
      have R := hide (show w1.ownsRow w.heap.size 5 1 v' (j + 1) (B8 ((zs.map byB).take (j + 1))) by
        rw [HX.out, ← B8_snoc _ (byB z) z HBZ.out]
        exact hown')
      have R2 := hide hbel'
      clear hown' hbel' hown hbel
      go_wp2
      go_roundw
      case rel => exact ⟨j + 1, by go_num, by omega, R.out, R2.out⟩
      case measure => simp [intOf]; omega
    · have hjn : j = n := by omega
      rw [hjn, List.take_of_length_le (by rw [List.length_map, HN.out]; exact Nat.le_refl _)] at hown
      have hconv := run_string_own (P := Try.prog) (src := 22) (dst := 9) Try.underlying22 Try.underlying5 Try.underlying9 hown
      clear hown
      go_wp2
      go_ret
      exact ⟨rfl, hbel⟩

set_option maxHeartbeats 1000000 in
theorem l09Byte_any (z : Int) (hz : 0 ≤ z ∧ z ≤ 255) (w : World) :
    Calls Try.prog 66 #[.int .i64 z] w fun e w' => e = .returned (.string ⟨[byB z].toArray⟩) ∧ Below w.heap.size w w' := by
  obtain ⟨h0, h1⟩ := hz
  have hconv := run_string_one (P := Try.prog) w (src := 22) (dst := 9) Try.underlying22 Try.underlying5 Try.underlying9 (byB z)
  rw [← byB_nat ⟨h0, h1⟩] at hconv
  go_enter Try.func66, Try.ntmps66
  go_wp2_with fail
  go_ret
  exact ⟨rfl, (Below.refl _ _).alloc (Nat.le_refl _) _⟩

end Go.Proofs.Ytnamneagkjmimaa
