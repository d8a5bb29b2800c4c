/-
  Walks of chapter 1: PartsOf: the walks themselves.
-/
import Derived.Test.YtfplnopcccjclabDoorWalk1k
namespace Go.Proofs.YtfplnopcccjclabDoor
open Go.RowKit P1 K
set_option linter.unusedVariables false

/-- What a call of PartsOf leaves: a row of its own. -/
def PartsPost (l : List UInt8) (w : World) (e : Ending) (w' : World) : Prop :=
  ∃ g cap, e = .returned (.tuple #[.slice (some ⟨g, 0, none⟩) (partsR l).1.length cap, .bool (partsR l).2]) ∧
    w'.ownsRow w.heap.size 9 1 (.slice (some ⟨g, 0, none⟩) (partsR l).1.length cap) (partsR l).1.length (strs (partsR l).1) ∧ Below w.heap.size w w'

theorem PartsPost.no {l : List UInt8} {w w' : World} {g cap : Nat} (h : ¬ (l.length ≤ 600 ∧ l.all plainB = true ∧ (Lib.fields l).length ≤ 10))
    (hown : w'.ownsRow w.heap.size 9 1 (.slice (some ⟨g, 0, none⟩) 0 cap) 0 []) (hb : Below w.heap.size w w') : PartsPost l w (.returned (.tuple #[.slice (some ⟨g, 0, none⟩) 0 cap, .bool false])) w' := by
  unfold PartsPost; rw [partsR_no h]; exact ⟨g, cap, rfl, hown, hb⟩

theorem PartsPost.yes {l : List UInt8} {w w' : World} {g cap n : Nat} (h1 : l.length ≤ 600) (h2 : l.all plainB = true) (h3 : (Lib.fields l).length ≤ 10) (hn : n = (Lib.fields l).length)
    (hown : w'.ownsRow w.heap.size 9 1 (.slice (some ⟨g, 0, none⟩) n cap) n (strs (Lib.fields l))) (hb : Below w.heap.size w w') : PartsPost l w (.returned (.tuple #[.slice (some ⟨g, 0, none⟩) n cap, .bool true])) w' := by
  subst hn; unfold PartsPost; rw [partsR_yes h1 h2 h3]; exact ⟨g, cap, rfl, hown, hb⟩

theorem own_empty {w0 w : World} {e : TypeId} (hb : Below w0.heap.size w0 w) : (w.alloc (.cells #[] e)).ownsRow w0.heap.size e 1 (.slice (some ⟨w.heap.size, 0, none⟩) 0 0) 0 [] ∧ Below w0.heap.size w0 (w.alloc (.cells #[] e)) :=
  ⟨World.ownsRow_made (w := w) #[] 0 hb.size (by decide) rfl, hb.alloc hb.size _⟩

theorem all_at {l : List UInt8} (h : l.all plainB = true) (i : Nat) (hi : i < l.length) : plainB l[i] = true := List.all_eq_true.1 h _ (List.getElem_mem hi)

theorem plain_at (s : ByteArray) (k : Nat) (h : k < s.size) (hp : (bl s).all plainB = true) : 32 ≤ s[k].toNat ∧ s[k].toNat ≤ 126 := by
  have := all_at hp k (by rw [bl_length]; exact h)
  have e : (bl s)[k]'(by rw [bl_length]; exact h) = s[k] := rfl
  rw [e] at this
  simpa [plainB] using this

theorem not_plain (s : ByteArray) (k : Nat) (h : k < s.size) (hb : s[k].toNat < 32 ∨ 126 < s[k].toNat) : ¬ ((bl s).all plainB = true) := fun hp => by
  have := plain_at s k h hp; omega

/-- Each byte is one of a plain line. -/
def plainL (l : List UInt8) : Bool := l.all plainB

set_option maxHeartbeats 1000000 in
theorem plainLine_any (s : ByteArray) (hs : s.size ≤ 1048576) (w : World) :
    Calls Tryd.prog 17 #[.string s] w fun e w' => e = .returned (.bool (plainL (bl s))) ∧ w = w' := by
  go_enter Tryd.func17, Tryd.ntmps17
  go_wp2_with fail
  go_loop [6] (fun i => ∃ k : Nat, i = .int .i64 (k : Int) ∧ k ≤ s.size ∧ ((bl s).take k).all plainB = true) (fun i => s.size - (intOf i).toNat)
  case atStart => exact ⟨0, rfl, Nat.zero_le _, by simp⟩
  case round =>
    obtain ⟨k, rfl, hk, hp⟩ := hrel
    have HP := hide hp
    clear hp
    by_cases hlt : k < s.size
    · have hb := s[k].toNat_lt
      have hlt' := hide (show k < (bl s).length by rw [bl_length]; exact hlt)
      have eg := hide (show (bl s)[k]'hlt'.out = s[k] from rfl)
      by_cases hfig : 32 ≤ s[k].toNat ∧ s[k].toNat ≤ 126
      · obtain ⟨f1, f2⟩ := hfig
        have h2 := hide (take_all_succ hlt'.out HP.out (by rw [eg.out]; simp [plainB, f1, f2]))
        go_wp2_with fail
        go_round
        case rel => exact ⟨k + 1, by go_num, by omega, h2.out⟩
        case measure => simp [intOf]; omega
      · have hn := hide (show plainL (bl s) = false from Bool.eq_false_iff.2 (not_plain s k hlt (by omega)))
        by_cases f1 : s[k].toNat < 32
        · clear hfig
          go_wp2_with fail
          go_ret
          exact ⟨by rw [hn.out]; rfl, rfl⟩
        · have f2 : 126 < s[k].toNat := by omega
          clear hfig
          go_wp2_with fail
          go_ret
          exact ⟨by rw [hn.out]; rfl, rfl⟩
    · have e : (bl s).take k = bl s := List.take_of_length_le (by rw [bl_length]; omega)
      have HQ := hide (show plainL (bl s) = true by have := HP.out; rw [e] at this; exact this)
      clear e
      go_wp2_with fail
      go_ret
      exact ⟨by rw [HQ.out]; rfl, rfl⟩

set_option maxHeartbeats 2000000 in
theorem specPartsOf_any (s : ByteArray) (hs : s.size ≤ 1048576) (w : World) :
    Calls Tryd.prog 10 #[.string s] w fun e w' => PartsPost (bl s) w e w' := by
  by_cases hlong : 600 < s.size
  · have he := own_empty (e := 9) (Below.refl w.heap.size w)
    have hno := hide (show ¬ ((bl s).length ≤ 600 ∧ (bl s).all plainB = true ∧ (Lib.fields (bl s)).length ≤ 10) by rw [bl_length]; omega)
    go_enter Tryd.func10, Tryd.ntmps10
    go_wp2_with fail
    go_ret2
    exact PartsPost.no hno.out he.1 he.2
  · have h600 := hide (show (bl s).length ≤ 600 by rw [bl_length]; omega)
    go_enter Tryd.func10, Tryd.ntmps10
    go_wp2_with fail
    go_loopw [4, 5, 6] (fun v y z wr => ∃ (b i : Nat) (xs : List (List UInt8)), y = .int .i64 (b : Int) ∧ z = .int .i64 (i : Int) ∧ i ≤ s.size + 1 ∧ b ≤ i ∧ PartRel (bl s) b i xs ∧
        (∃ g cap, v = .slice (some ⟨g, 0, none⟩) xs.length cap) ∧ wr.ownsRow w.heap.size 9 1 v xs.length (strs xs) ∧ Below w.heap.size w wr) (fun _ _ z _ => s.size + 1 - (intOf z).toNat)
    case atStart =>
      have he := own_empty (e := 9) (Below.refl w.heap.size w)
      exact ⟨0, 0, [], rfl, rfl, Nat.zero_le _, Nat.le_refl _, PartRel.start _, ⟨_, _, rfl⟩, he.1, he.2⟩
    case round =>
      obtain ⟨b, i, xs, rfl, rfl, hi, hbi, hr, ⟨g, cap, rfl⟩, hown, hbel⟩ := hrel
      have hsz := hbel.size
      have HR := hide hr
      have hxl : xs.length ≤ i := hr.1
      clear hr
      by_cases hlt : i < s.size
      · have hb := s[i].toNat_lt
        have hlt' := hide (show i < (bl s).length by rw [bl_length]; exact hlt)
        have eg := hide (show (bl s)[i]'hlt'.out = s[i] from rfl)
        by_cases hpl : 32 ≤ s[i].toNat ∧ s[i].toNat ≤ 126
        · obtain ⟨p1, p2⟩ := hpl
          by_cases hsp : s[i].toNat = 32
          · have R := HR.out.blank hlt'.out (by rw [eg.out]; exact hsp)
            have q : (((s[i].toNat : Nat) : Int) != 32) = false := by rw [hsp]; rfl
            clear hsp
            by_cases hbl : b < i
            · have R2 := hide (R.1 hbl)
              clear R
              have hsl : ∀ wx, (Instr.slice 9 (.string s) (some (.int .i64 (b : Int))) (some (.int .i64 (i : Int))) none).run Tryd.prog wx = .ok (.string ⟨(((bl s).drop b).take (i - b)).toArray⟩) wx := fun wx => by
                rw [← Lib.extract_eq]
                exact run_slice_string (P := Tryd.prog) (w := wx) 9 s .i64 .i64 (b : Int) (i : Int) Tryd.underlying9 (by omega) (by omega) (by omega)
              go_wp2_with (at_builtin; refine wpList_push rfl _ _ 27 rfl Tryd.underlying27 infoStr rfl rfl hown rfl rfl hbel hsz (by unfold maxLen; omega) (by omega) ?_)
              intro v' w1 hown' hbel' _
              have ho2 : w1.ownsRow w.heap.size 9 1 v' (xs ++ [((bl s).drop b).take (i - b)]).length (strs (xs ++ [((bl s).drop b).take (i - b)])) := by
                rw [strs_append, List.length_append]; exact hown'
              have hv' : ∃ g cap, v' = .slice (some ⟨g, 0, none⟩) (xs ++ [((bl s).drop b).take (i - b)]).length cap := by
                obtain ⟨g', cap', e1, _⟩ := ho2.form (by simp)
                exact ⟨g', cap', e1⟩
              clear hown' hown hbel
              go_wp2_with fail
              go_roundw
              case rel => exact ⟨i + 1, i + 1, xs ++ [((bl s).drop b).take (i - b)], by go_num, by go_num, by omega, Nat.le_refl _, R2.out, hv', ho2, hbel'⟩
              case measure => simp [intOf]; omega
            · have R2 := hide (R.2 hbl)
              clear R
              go_wp2_with fail
              go_roundw
              case rel => exact ⟨i + 1, i + 1, xs, by go_num, by go_num, by omega, Nat.le_refl _, R2.out, ⟨_, _, rfl⟩, hown, hbel⟩
              case measure => simp [intOf]; omega
          · have R := hide (HR.out.more hlt'.out (by rw [eg.out]; simp [plainB, p1, p2]) (by rw [eg.out]; exact hsp))
            have q : (((s[i].toNat : Nat) : Int) != 32) = true := by rw [bne_iff_ne]; omega
            clear hsp
            go_wp2_with fail
            go_roundw
            case rel => exact ⟨b, i + 1, xs, rfl, by go_num, by omega, by omega, R.out, ⟨_, _, rfl⟩, hown, hbel⟩
            case measure => simp [intOf]; omega
        · have hno := hide (show ¬ ((bl s).length ≤ 600 ∧ (bl s).all plainB = true ∧ (Lib.fields (bl s)).length ≤ 10) from fun h => not_plain s i hlt (by omega) h.2.1)
          have he := own_empty (e := 9) hbel
          by_cases f1 : s[i].toNat < 32
          · clear hpl
            go_wp2_with fail
            go_ret2
            exact PartsPost.no hno.out he.1 he.2
          · have f2 : 126 < s[i].toNat := by omega
            clear hpl
            go_wp2_with fail
            go_ret2
            exact PartsPost.no hno.out he.1 he.2
      · by_cases hend : i = s.size
        · have R := HR.out.last (by rw [bl_length]; exact hend)
          have hi2 : ¬ ((i : Int) < (s.size : Int)) := by omega
          have hi3 : (i : Int) ≤ (s.size : Int) := by omega
          have HE := hide hend
          clear hend
          by_cases hbl : b < i
          · have R2 := hide (R.1 hbl)
            clear R
            have hsl : ∀ wx, (Instr.slice 9 (.string s) (some (.int .i64 (b : Int))) (some (.int .i64 (i : Int))) none).run Tryd.prog wx = .ok (.string ⟨(((bl s).drop b).take (i - b)).toArray⟩) wx := fun wx => by
              rw [← Lib.extract_eq]
              exact run_slice_string (P := Tryd.prog) (w := wx) 9 s .i64 .i64 (b : Int) (i : Int) Tryd.underlying9 (by omega) (by omega) (by omega)
            go_wp2_with (at_builtin; refine wpList_push rfl _ _ 27 rfl Tryd.underlying27 infoStr rfl rfl hown rfl rfl hbel hsz (by unfold maxLen; omega) (by omega) ?_)
            intro v' w1 hown' hbel' _
            have ho2 : w1.ownsRow w.heap.size 9 1 v' (xs ++ [((bl s).drop b).take (i - b)]).length (strs (xs ++ [((bl s).drop b).take (i - b)])) := by
              rw [strs_append, List.length_append]; exact hown'
            have hv' : ∃ g cap, v' = .slice (some ⟨g, 0, none⟩) (xs ++ [((bl s).drop b).take (i - b)]).length cap := by
              obtain ⟨g', cap', e1, _⟩ := ho2.form (by simp)
              exact ⟨g', cap', e1⟩
            clear hown' hown hbel
            go_wp2_with fail
            go_roundw
            case rel => exact ⟨i + 1, i + 1, xs ++ [((bl s).drop b).take (i - b)], by go_num, by go_num, by omega, Nat.le_refl _, R2.out, hv', ho2, hbel'⟩
            case measure => simp [intOf]; omega
          · have R2 := hide (R.2 hbl)
            clear R
            go_wp2_with fail
            go_roundw
            case rel => exact ⟨i + 1, i + 1, xs, by go_num, by go_num, by omega, Nat.le_refl _, R2.out, ⟨_, _, rfl⟩, hown, hbel⟩
            case measure => simp [intOf]; omega
        · have R := HR.out.ended (by rw [bl_length]; omega)
          have hi3 : ¬ ((i : Int) ≤ (s.size : Int)) := by omega
          obtain ⟨r1, r2⟩ := R
          by_cases h10 : xs.length ≤ 10
          · have HF := hide r2
            have HP := hide r1
            clear r1 r2
            go_wp2_with fail
            go_ret2
            exact PartsPost.yes h600.out HP.out (by rw [← HF.out]; exact h10) (by rw [← HF.out]) (by rw [← HF.out]; exact hown) hbel
          · have hno := hide (show ¬ ((bl s).length ≤ 600 ∧ (bl s).all plainB = true ∧ (Lib.fields (bl s)).length ≤ 10) by rw [← r2]; omega)
            have he := own_empty (e := 9) hbel
            clear r1 r2
            go_wp2_with fail
            go_ret2
            exact PartsPost.no hno.out he.1 he.2

end Go.Proofs.YtfplnopcccjclabDoor
