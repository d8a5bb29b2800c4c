/-
  Walks of chapter 4: the frame at a place, of the program.
-/
import Derived.Test.YthbgklmnmoclhaaDoorPack22
import Derived.Test.YthbgklmnmoclhaaDoorPack36
import Derived.Test.YthbgklmnmoclhaaDoorPack10
import Derived.Lib.Strings
namespace Go.Proofs.YthbgklmnmoclhaaDoor
open Go.RowKit P1 K P3
set_option linter.unusedVariables false

/-- The results of frameAt as values. -/
def faVal : Option (List UInt8 × Nat) → Value
  | none => .tuple #[.string ⟨#[]⟩, .int .i64 0, .bool false]
  | some (r, b) => .tuple #[.string ⟨r.toArray⟩, .int .i64 b, .bool true]

theorem ret_fa_no {r : Option (List UInt8 × Nat)} (h : r = none) : Ending.returned (.tuple #[.string ⟨#[]⟩, .int .i64 0, .bool false]) = .returned (faVal r) := by rw [h]; rfl
theorem ret_fa_yes {r : Option (List UInt8 × Nat)} {l : List UInt8} {b : Nat} {x : Int} (h : r = some (l, b)) (hx : x = (b : Int)) : Ending.returned (.tuple #[.string ⟨l.toArray⟩, .int .i64 x, .bool true]) = .returned (faVal r) := by rw [h, hx]; rfl

theorem bl_mk (l : List UInt8) : bl ⟨l.toArray⟩ = l := rfl
theorem size_mk (l : List UInt8) : (⟨l.toArray⟩ : ByteArray).size = l.length := rfl

set_option maxHeartbeats 1000000 in
theorem implFrameAt_any (s : ByteArray) (hs : s.size ≤ 1048576) (a : Nat) (ha : a ≤ s.size) (w : World) (htab : SumTabIs w) :
    Calls Tryd.prog 82 #[.string s, .int .i64 (a : Int)] w fun e w' => e = .returned (faVal (frameAt (bl s) a)) ∧ Below w.heap.size w w' := by
  have HT := hide htab
  clear htab
  have hRV := hide (implReadVar_any s hs a ha)
  cases hrd : rdGo 5 [] ((bl s).drop a) with
  | none =>
    have R := hide (frameAt_nil hrd)
    have hrv := hRV.out
    rw [hrd] at hrv
    have HRV := hide hrv
    clear hrv hRV hrd
    go_enter Tryd.func82, Tryd.ntmps82
    go_wp2_with (go_at_call 96; refine (HRV.out _).mono ?_; unfold rvVal; rintro e w1 ⟨rfl, rfl⟩)
    go_ret3
    exact ⟨ret_fa_no R.out, Below.refl _ _⟩
  | some p =>
    obtain ⟨n, c⟩ := p
    have hsome := rdGo_some 5 [] _ n c hrd
    simp only [List.length_nil, Nat.zero_add, List.length_drop] at hsome
    have hbl := bl_length s
    rw [hbl] at hsome
    obtain ⟨q, hq⟩ : ∃ q, a + c = q := ⟨_, rfl⟩
    have hrv := hRV.out
    rw [hrd, show rvVal a (some (n, c)) = .tuple #[.int .i64 n, .int .i64 (q : Int), .bool true] by rw [← hq]; rfl] at hrv
    have HRV := hide hrv
    have HRD := hide hrd
    clear hrv hRV hrd
    have hqs : q ≤ s.size := by omega
    have haq : a ≤ q := by omega
    by_cases hfit : q + 4 + n ≤ s.size
    · have g1 : decide ((s.size : Int) - (q : Int) - 4 < (n : Int)) = false := by simp; omega
      have hlen : (((bl s).drop (q + 4)).take n).length = n := by rw [List.length_take, List.length_drop, hbl]; omega
      have hsk := Lib.extract_eq s (q + 4) (q + 4 + n)
      rw [show q + 4 + n - (q + 4) = n by omega] at hsk
      have hsk2 := Lib.extract_eq s a (q + 4 + n)
      rw [show q + 4 + n - a = c + 4 + n by omega] at hsk2
      obtain ⟨H, hH⟩ : ∃ H, ((bl s).drop (q + 4)).take n = H := ⟨_, rfl⟩
      obtain ⟨T, hTT⟩ : ∃ T, ((bl s).drop a).take (c + 4 + n) = T := ⟨_, rfl⟩
      have hHs : (⟨H.toArray⟩ : ByteArray).size ≤ 1048576 := by rw [size_mk, ← hH, hlen]; omega
      have hsl : s.extract (q + 4) (q + 4 + n) = ⟨H.toArray⟩ := by rw [hsk, hH]
      rw [hH] at hlen
      have hsl2 : s.extract a (q + 4 + n) = ⟨T.toArray⟩ := by rw [hsk2, hTT]
      clear hsk hsk2
      have hCL := hide (stringsClone_any ⟨H.toArray⟩ (by omega))
      have hFR := hide (fun wx h => implFrame_any ⟨H.toArray⟩ hHs wx h)
      by_cases hn : 1 ≤ n ∧ n ≤ 9000
      · have V := hide (show frameVal (bl ⟨H.toArray⟩) = .tuple #[.string ⟨(frameL H).toArray⟩, .bool true] from frameVal_yes (l := H) (by omega) (by omega))
        by_cases heq : frameL H = T
        · have R := hide (show frameAt (bl s) a = some (H, q + 4 + n) by
            have := frameAt_yes HRD.out (by rw [hbl]; omega) hn.1 hn.2 (by rw [hq, hH, hTT]; exact heq)
            rw [hq, hH] at this; exact this)
          have HH := hide hH
          have HTT := hide hTT
          clear hH hTT hq hsome hlen
          subst heq
          go_enter Tryd.func82, Tryd.ntmps82
          go_wp2_with (first
            | (go_at_call 96; refine (HRV.out _).mono ?_; rintro e w1 ⟨rfl, rfl⟩)
            | (go_at_call 50; refine (hFR.out _ HT.out).mono ?_; rw [V.out]; rintro e w2 ⟨rfl, hb2⟩)
            | (go_at_call 97; refine (hCL.out _).mono ?_; rintro e w3 ⟨rfl, hb3⟩))
          go_ret3
          exact ⟨ret_fa_yes R.out (by omega), hb2.trans (hb3.mono hb2.size)⟩
        · have R := hide (show frameAt (bl s) a = none from frameAt_no HRD.out (fun h => heq (by have := h.2.2.2; rw [hq, hH, hTT] at this; exact this)))
          have q1 : (frameL H == T) = false := by simp [heq]
          clear heq hH hTT hq hsome hlen
          go_enter Tryd.func82, Tryd.ntmps82
          go_wp2_with (first
            | (go_at_call 96; refine (HRV.out _).mono ?_; rintro e w1 ⟨rfl, rfl⟩)
            | (go_at_call 50; refine (hFR.out _ HT.out).mono ?_; rw [V.out]; rintro e w2 ⟨rfl, hb2⟩))
          go_ret3
          exact ⟨ret_fa_no R.out, hb2⟩
      · have V := hide (show frameVal (bl ⟨H.toArray⟩) = .tuple #[.string ⟨#[]⟩, .bool false] from frameVal_no (l := H) (by omega))
        have R := hide (show frameAt (bl s) a = none from frameAt_no HRD.out (fun h => hn ⟨h.2.1, h.2.2.1⟩))
        clear hn hH hTT hq hsome hlen
        go_enter Tryd.func82, Tryd.ntmps82
        go_wp2_with (first
          | (go_at_call 96; refine (HRV.out _).mono ?_; rintro e w1 ⟨rfl, rfl⟩)
          | (go_at_call 50; refine (hFR.out _ HT.out).mono ?_; rw [V.out]; rintro e w2 ⟨rfl, hb2⟩))
        go_ret3
        exact ⟨ret_fa_no R.out, hb2⟩
    · have g1 : decide ((s.size : Int) - (q : Int) - 4 < (n : Int)) = true := by simp; omega
      have R := hide (show frameAt (bl s) a = none from frameAt_no HRD.out (fun h => hfit (by have := h.1; rw [hbl] at this; omega)))
      clear hfit hq hsome
      go_enter Tryd.func82, Tryd.ntmps82
      go_wp2_with (go_at_call 96; refine (HRV.out _).mono ?_; rintro e w1 ⟨rfl, rfl⟩)
      go_ret3
      exact ⟨ret_fa_no R.out, Below.refl _ _⟩

end Go.Proofs.YthbgklmnmoclhaaDoor
