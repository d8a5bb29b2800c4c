/-
  Walks of chapter 1: PartsOf of the program.
-/
import Derived.Test.YtfplnopcccjclabDoorWalk1l
import Derived.Test.YtfplnopcccjclabDoorWalkClone
import Derived.Lib.LaidTab
namespace Go.Proofs.YtfplnopcccjclabDoor
open Go.RowKit P1 K
set_option linter.unusedVariables false

theorem fieldsGo_short : ∀ (l cur : List UInt8) (n : Nat), cur.length + l.length ≤ n → ∀ x ∈ Lib.fieldsGo cur l, x.length ≤ n
  | [], cur, n, h, x, hx => by
    unfold Lib.fieldsGo at hx
    split at hx
    · simp at hx
    · simp at hx; subst hx; simp at h; exact h
  | b :: l, cur, n, h, x, hx => by
    unfold Lib.fieldsGo at hx
    simp at h
    split at hx
    · split at hx
      · exact fieldsGo_short l [] n (by simp; omega) x hx
      · rcases List.mem_cons.1 hx with rfl | hx
        · omega
        · exact fieldsGo_short l [] n (by simp; omega) x hx
    · exact fieldsGo_short l (cur ++ [b]) n (by simp; omega) x hx

theorem fields_short (l x : List UInt8) (h : x ∈ Lib.fields l) : x.length ≤ l.length := fieldsGo_short l [] l.length (by simp) x h

theorem set_same (xs : List (List UInt8)) (j : Nat) (l : List UInt8) (h : xs[j]? = some l) : (strs xs).set j (.string ⟨l.toArray⟩) = strs xs := by
  have hj : j < xs.length := by
    rcases Nat.lt_or_ge j xs.length with h1 | h1
    · exact h1
    · rw [List.getElem?_eq_none h1] at h; cases h
  rw [List.getElem?_eq_getElem hj] at h
  cases h
  apply List.ext_getElem
  · simp
  · intro i h1 h2
    rw [List.getElem_set]
    split
    · rename_i e; subst e; simp [strs]
    · rfl

set_option maxHeartbeats 2000000 in
theorem implPartsOf_any (s : ByteArray) (hs : s.size ≤ 1048576) (w : World) (htab : Lib.TabIs Tryd.prog w "strings.asciiSpace" .u8 Lib.asciiSpaceTab) :
    Calls Tryd.prog 11 #[.string s] w fun e w' => PartsPost (bl s) w e w' := by
  have HT := hide htab
  clear htab
  by_cases hlong : 600 < s.size
  · have he := own_empty (e := 9) (Below.refl w.heap.size w)
    have hno := hide (show ¬ ((bl s).length ≤ 600 ∧ (bl s).all plainB = true ∧ (Lib.fields (bl s)).length ≤ 10) by rw [bl_length]; omega)
    have g1 : decide ((600 : Int) < (s.size : Int)) = true := by simp; omega
    go_enter Tryd.func11, Tryd.ntmps11
    go_wp2_with fail
    go_ret2
    exact PartsPost.no hno.out he.1 he.2
  · have h600 := hide (show (bl s).length ≤ 600 by rw [bl_length]; omega)
    have g1 : decide ((600 : Int) < (s.size : Int)) = false := by simp; omega
    cases hp : plainL (bl s) with
    | false =>
      have he := own_empty (e := 9) (Below.refl w.heap.size w)
      have hno := hide (show ¬ ((bl s).length ≤ 600 ∧ (bl s).all plainB = true ∧ (Lib.fields (bl s)).length ≤ 10) from fun h => by unfold plainL at hp; rw [h.2.1] at hp; cases hp)
      go_enter Tryd.func11, Tryd.ntmps11
      go_wp2_with (go_at_call 17; refine (plainLine_any s hs _).mono ?_; rintro e w1 ⟨rfl, rfl⟩)
      go_ret2
      exact PartsPost.no hno.out he.1 he.2
    | true =>
      have hpl := hide (show (bl s).all plainB = true from hp)
      have hasc := hide (show ∀ (j : Nat) b, s.data.toList[j]? = some b → b.toNat < 128 from fun j b hj => by
        have := List.all_eq_true.1 hpl.out b (List.mem_of_getElem? hj)
        simp [plainB] at this; omega)
      obtain ⟨F, hF⟩ : ∃ F, Lib.fields s.data.toList = F := ⟨_, rfl⟩
      have HF := hide hF
      clear hF
      by_cases h10 : F.length ≤ 10
      · go_enter Tryd.func11, Tryd.ntmps11
        go_wp2_with (first
          | (go_at_call 17; refine (plainLine_any s hs _).mono ?_; rintro e w1 ⟨rfl, rfl⟩)
          | (go_at_call 18; refine (Tryd.strings_Fields s _ (by omega) hasc.out HT.out).mono ?_; rw [HF.out]; rintro e w1 ⟨rfl, hw1⟩; have HW := hide hw1; clear hw1))
        have hown0 : w1.ownsRow w.heap.size 9 1 (.slice (some ⟨w.heap.size, 0, none⟩) F.length F.length) F.length (strs F) := by
          rw [HW.out]
          exact World.ownsRow_lit (base := w.heap.size) (size := 1) w (F.map fun l => Value.string ⟨l.toArray⟩).toArray F.length (Nat.le_refl _) (by unfold maxLen; omega) (by simp)
        have hbel0 : Below w.heap.size w w1 := by rw [HW.out]; exact (Below.refl _ _).alloc (Nat.le_refl _) _
        clear HW
        go_loopw [23] (fun i wr => ∃ j : Nat, i = .int .i64 (j : Int) ∧ j ≤ F.length ∧ wr.ownsRow w.heap.size 9 1 (.slice (some ⟨w.heap.size, 0, none⟩) F.length F.length) F.length (strs F) ∧ Below w.heap.size w wr) (fun i _ => F.length - (intOf i).toNat)
        case atStart => exact ⟨0, rfl, Nat.zero_le _, hown0, hbel0⟩
        case round =>
          obtain ⟨j, rfl, hj, hown, hbel⟩ := hrel
          clear hown0 hbel0
          have hsz := hbel.size
          by_cases hlt : j < F.length
          · have j0 : (j : Int) < (F.length : Int) := by omega
            obtain ⟨l, hl, hce⟩ := own_str hown j hlt
            have hll : (⟨l.toArray⟩ : ByteArray).size ≤ 281474976710656 := by
              have h1 := fields_short s.data.toList l (by rw [HF.out]; exact List.mem_of_getElem? hl)
              have h2 : s.data.toList.length = s.size := bl_length s
              have h3 : (⟨l.toArray⟩ : ByteArray).size = l.length := by simp [ByteArray.size]
              omega
            have HS := hide (set_same F j l hl)
            clear hl
            go_wp2_with (go_at_call 19; refine (stringsClone_any _ hll _).mono ?_; rintro e w2 ⟨rfl, hb1⟩; have ho1 := own_below hown hb1; have hfz := ho1.frozenAt j; have hce2 := (hb1.cell (p := ⟨w.heap.size, j, none⟩) (by have := (hown.lt w.heap.size rfl).2; exact this)).trans hce)
            have hst := ho1.stored j (.string ⟨l.toArray⟩)
            rw [HS.out] at hst
            have hb3 : Below w.heap.size w w2 := hbel.trans (hb1.mono hsz)
            go_roundw
            case rel => exact ⟨j + 1, by go_num, by omega, hst.1, hb3.setCell (Nat.le_refl _) _⟩
            case measure => simp [intOf]; omega
          · go_wp2_with fail
            go_ret2
            exact PartsPost.yes h600.out hpl.out (by rw [HF.out]; exact h10) (by rw [HF.out]) (by rw [HF.out]; exact hown) hbel
      · have hno := hide (show ¬ ((bl s).length ≤ 600 ∧ (bl s).all plainB = true ∧ (Lib.fields (bl s)).length ≤ 10) by rw [HF.out]; omega)
        go_enter Tryd.func11, Tryd.ntmps11
        go_wp2_with (first
          | (go_at_call 17; refine (plainLine_any s hs _).mono ?_; rintro e w1 ⟨rfl, rfl⟩)
          | (go_at_call 18; refine (Tryd.strings_Fields s _ (by omega) hasc.out HT.out).mono ?_; rw [HF.out]; rintro e w1 ⟨rfl, hw1⟩; have HW := hide hw1; clear hw1))
        have hbel0 : Below w.heap.size w w1 := by rw [HW.out]; exact (Below.refl _ _).alloc (Nat.le_refl _) _
        have he := own_empty (e := 9) hbel0
        go_ret2
        exact PartsPost.no hno.out he.1 he.2

end Go.Proofs.YtfplnopcccjclabDoor
