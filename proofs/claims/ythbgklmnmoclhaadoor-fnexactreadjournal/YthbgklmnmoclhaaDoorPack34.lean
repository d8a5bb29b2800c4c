/-
  Walks of chapter 4: the frame at a place, of the program.
  Walks of chapter 4: Unframe of the specification.
-/
import Derived.Test.YthbgklmnmoclhaaDoorPack4
import Derived.Test.YthbgklmnmoclhaaDoorWalk1c
import Derived.Test.YthbgklmnmoclhaaDoorPack11
import Derived.Lib.Strings
import Derived.Test.YthbgklmnmoclhaaDoorPack20
import Derived.Test.YthbgklmnmoclhaaDoorPack13
namespace Go.Proofs.YthbgklmnmoclhaaDoor
open Go.RowKit P1 K P3
set_option linter.unusedVariables false

/-- The results of frameAt as values. -/
def faVal : Option (List UInt8 × Nat) → Value
  | none => .tuple #[.string ⟨#[]⟩, .int .i64 0, .bool false]
  | some (r, b) => .tuple #[.string ⟨r.toArray⟩, .int .i64 b, .bool true]

theorem ret_fa_no {r : Option (List UInt8 × Nat)} (h : r = none) : Ending.returned (.tuple #[.string ⟨#[]⟩, .int .i64 0, .bool false]) = .returned (faVal r) := by rw [h]; rfl
theorem ret_fa_yes {r : Option (List UInt8 × Nat)} {l : List UInt8} {b : Nat} {x : Int} (h : r = some (l, b)) (hx : x = (b : Int)) : Ending.returned (.tuple #[.string ⟨l.toArray⟩, .int .i64 x, .bool true]) = .returned (faVal r) := by rw [h, hx]; rfl

theorem bl_mk (l : List UInt8) : bl ⟨l.toArray⟩ = l := rfl
theorem size_mk (l : List UInt8) : (⟨l.toArray⟩ : ByteArray).size = l.length := rfl

set_option maxHeartbeats 1000000 in
theorem implFrameAt_any (s : ByteArray) (hs : s.size ≤ 1048576) (a : Nat) (ha : a ≤ s.size) (w : World) (htab : SumTabIs w) :
    Calls Tryd.prog 82 #[.string s, .int .i64 (a : Int)] w fun e w' => e = .returned (faVal (frameAt (bl s) a)) ∧ Below w.heap.size w w' := by
  have HT := hide htab
  clear htab
  have hRV := hide (implReadVar_any s hs a ha)
  cases hrd : rdGo 5 [] ((bl s).drop a) with
  | none =>
    have R := hide (frameAt_nil hrd)
    have hrv := hRV.out
    rw [hrd] at hrv
    have HRV := hide hrv
    clear hrv hRV hrd
    go_enter Tryd.func82, Tryd.ntmps82
    go_wp2_with (go_at_call 96; refine (HRV.out _).mono ?_; unfold rvVal; rintro e w1 ⟨rfl, rfl⟩)
    go_ret3
    exact ⟨ret_fa_no R.out, Below.refl _ _⟩
  | some p =>
    obtain ⟨n, c⟩ := p
    have hsome := rdGo_some 5 [] _ n c hrd
    simp only [List.length_nil, Nat.zero_add, List.length_drop] at hsome
    have hbl := bl_length s
    rw [hbl] at hsome
    obtain ⟨q, hq⟩ : ∃ q, a + c = q := ⟨_, rfl⟩
    have hrv := hRV.out
    rw [hrd, show rvVal a (some (n, c)) = .tuple #[.int .i64 n, .int .i64 (q : Int), .bool true] by rw [← hq]; rfl] at hrv
    have HRV := hide hrv
    have HRD := hide hrd
    clear hrv hRV hrd
    have hqs : q ≤ s.size := by omega
    have haq : a ≤ q := by omega
    by_cases hfit : q + 4 + n ≤ s.size
    · have g1 : decide ((s.size : Int) - (q : Int) - 4 < (n : Int)) = false := by simp; omega
      have hlen : (((bl s).drop (q + 4)).take n).length = n := by rw [List.length_take, List.length_drop, hbl]; omega
      have hsk := Lib.extract_eq s (q + 4) (q + 4 + n)
      rw [show q + 4 + n - (q + 4) = n by omega] at hsk
      have hsk2 := Lib.extract_eq s a (q + 4 + n)
      rw [show q + 4 + n - a = c + 4 + n by omega] at hsk2
      obtain ⟨H, hH⟩ : ∃ H, ((bl s).drop (q + 4)).take n = H := ⟨_, rfl⟩
      obtain ⟨T, hTT⟩ : ∃ T, ((bl s).drop a).take (c + 4 + n) = T := ⟨_, rfl⟩
      have hHs : (⟨H.toArray⟩ : ByteArray).size ≤ 1048576 := by rw [size_mk, ← hH, hlen]; omega
      have hsl : s.extract (q + 4) (q + 4 + n) = ⟨H.toArray⟩ := by rw [hsk, hH]
      rw [hH] at hlen
      have hsl2 : s.extract a (q + 4 + n) = ⟨T.toArray⟩ := by rw [hsk2, hTT]
      clear hsk hsk2
      have hCL := hide (stringsClone_any ⟨H.toArray⟩ (by omega))
      have hFR := hide (fun wx h => implFrame_any ⟨H.toArray⟩ hHs wx h)
      by_cases hn : 1 ≤ n ∧ n ≤ 9000
      · have V := hide (show frameVal (bl ⟨H.toArray⟩) = .tuple #[.string ⟨(frameL H).toArray⟩, .bool true] from frameVal_yes (l := H) (by omega) (by omega))
        by_cases heq : frameL H = T
        · have R := hide (show frameAt (bl s) a = some (H, q + 4 + n) by
            have := frameAt_yes HRD.out (by rw [hbl]; omega) hn.1 hn.2 (by rw [hq, hH, hTT]; exact heq)
            rw [hq, hH] at this; exact this)
          have HH := hide hH
          have HTT := hide hTT
          clear hH hTT hq hsome hlen
          subst heq
          go_enter Tryd.func82, Tryd.ntmps82
          go_wp2_with (first
            | (go_at_call 96; refine (HRV.out _).mono ?_; rintro e w1 ⟨rfl, rfl⟩)
            | (go_at_call 50; refine (hFR.out _ HT.out).mono ?_; rw [V.out]; rintro e w2 ⟨rfl, hb2⟩)
            | (go_at_call 97; refine (hCL.out _).mono ?_; rintro e w3 ⟨rfl, hb3⟩))
          go_ret3
          exact ⟨ret_fa_yes R.out (by omega), hb2.trans (hb3.mono hb2.size)⟩
        · have R := hide (show frameAt (bl s) a = none from frameAt_no HRD.out (fun h => heq (by have := h.2.2.2; rw [hq, hH, hTT] at this; exact this)))
          have q1 : (frameL H == T) = false := by simp [heq]
          clear heq hH hTT hq hsome hlen
          go_enter Tryd.func82, Tryd.ntmps82
          go_wp2_with (first
            | (go_at_call 96; refine (HRV.out _).mono ?_; rintro e w1 ⟨rfl, rfl⟩)
            | (go_at_call 50; refine (hFR.out _ HT.out).mono ?_; rw [V.out]; rintro e w2 ⟨rfl, hb2⟩))
          go_ret3
          exact ⟨ret_fa_no R.out, hb2⟩
      · have V := hide (show frameVal (bl ⟨H.toArray⟩) = .tuple #[.string ⟨#[]⟩, .bool false] from frameVal_no (l := H) (by omega))
        have R := hide (show frameAt (bl s) a = none from frameAt_no HRD.out (fun h => hn ⟨h.2.1, h.2.2.1⟩))
        clear hn hH hTT hq hsome hlen
        go_enter Tryd.func82, Tryd.ntmps82
        go_wp2_with (first
          | (go_at_call 96; refine (HRV.out _).mono ?_; rintro e w1 ⟨rfl, rfl⟩)
          | (go_at_call 50; refine (hFR.out _ HT.out).mono ?_; rw [V.out]; rintro e w2 ⟨rfl, hb2⟩))
        go_ret3
        exact ⟨ret_fa_no R.out, hb2⟩
    · have g1 : decide ((s.size : Int) - (q : Int) - 4 < (n : Int)) = true := by simp; omega
      have R := hide (show frameAt (bl s) a = none from frameAt_no HRD.out (fun h => hfit (by have := h.1; rw [hbl] at this; omega)))
      clear hfit hq hsome
      go_enter Tryd.func82, Tryd.ntmps82
      go_wp2_with (go_at_call 96; refine (HRV.out _).mono ?_; rintro e w1 ⟨rfl, rfl⟩)
      go_ret3
      exact ⟨ret_fa_no R.out, Below.refl _ _⟩

end Go.Proofs.YthbgklmnmoclhaaDoor

namespace Go.Proofs.YthbgklmnmoclhaaDoor
open Go.RowKit P1 K P3
set_option linter.unusedVariables false

/-- What a call of Unframe leaves: a row of its own. -/
def UnfPost (l : List UInt8) (w : World) (e : Ending) (w' : World) : Prop :=
  ∃ g cap, e = .returned (.tuple #[.slice (some ⟨g, 0, none⟩) (unframeL l).1.length cap, .int .i64 ((unframeL l).2 : Int)]) ∧
    w'.ownsRow w.heap.size 9 1 (.slice (some ⟨g, 0, none⟩) (unframeL l).1.length cap) (unframeL l).1.length (strs (unframeL l).1) ∧ Below w.heap.size w w'

theorem UnfPost.mk {l : List UInt8} {w w' : World} {g cap n a : Nat} {xs : List (List UInt8)} {x : Int} (h : unframeL l = (xs, a)) (hn : n = xs.length) (hx : x = (a : Int))
    (hown : w'.ownsRow w.heap.size 9 1 (.slice (some ⟨g, 0, none⟩) n cap) n (strs xs)) (hb : Below w.heap.size w w') : UnfPost l w (.returned (.tuple #[.slice (some ⟨g, 0, none⟩) n cap, .int .i64 x])) w' := by
  subst hn; subst hx; unfold UnfPost; rw [h]; exact ⟨g, cap, rfl, hown, hb⟩

theorem own_none {w0 w : World} {e : TypeId} (hb : Below w0.heap.size w0 w) : (w.alloc (.cells #[] e)).ownsRow w0.heap.size e 1 (.slice (some ⟨w.heap.size, 0, none⟩) 0 0) 0 [] ∧ Below w0.heap.size w0 (w.alloc (.cells #[] e)) :=
  ⟨World.ownsRow_made (w := w) #[] 0 hb.size (by decide) rfl, hb.alloc hb.size _⟩

set_option maxHeartbeats 2000000 in
theorem specUnframe_any (s : ByteArray) (hs : s.size ≤ 1048576) (w : World) :
    Calls Tryd.prog 34 #[.string s] w fun e w' => UnfPost (bl s) w e w' := by
  have hbl := bl_length s
  by_cases hlong : 20000 < s.size
  · have he := own_none (e := 9) (Below.refl w.heap.size w)
    have hno := hide (unframeL_long (l := bl s) (by rw [hbl]; exact hlong))
    go_enter Tryd.func34, Tryd.ntmps34
    go_wp2_with fail
    go_ret2
    exact UnfPost.mk hno.out rfl rfl he.1 he.2
  · go_enter Tryd.func34, Tryd.ntmps34
    go_wp2_with fail
    go_loopw [4, 5] (fun v y wr => ∃ (a : Nat) (xs : List (List UInt8)), y = .int .i64 (a : Int) ∧ UnfRel (bl s) a xs ∧
        (∃ g cap, v = .slice (some ⟨g, 0, none⟩) xs.length cap) ∧ wr.ownsRow w.heap.size 9 1 v xs.length (strs xs) ∧ Below w.heap.size w wr) (fun _ y _ => s.size - (intOf y).toNat)
    case atStart =>
      have he := own_none (e := 9) (Below.refl w.heap.size w)
      exact ⟨0, [], rfl, UnfRel.start (by rw [hbl]; omega), ⟨_, _, rfl⟩, he.1, he.2⟩
    case round =>
      obtain ⟨a, xs, rfl, hr, ⟨g, cap, rfl⟩, hown, hbel⟩ := hrel
      have hsz := hbel.size
      have ha : a ≤ s.size := by obtain ⟨f, _, h2, _⟩ := hr; omega
      have hxl : xs.length ≤ a := by obtain ⟨f, _, _, _, h4, _⟩ := hr; exact h4
      have HR := hide hr
      clear hr
      by_cases hlt : a < s.size
      · have hRV := hide (specReadVar_any s hs a ha)
        cases hrd : rdGo 5 [] ((bl s).drop a) with
        | none =>
          have R := hide (HR.out.ended (frameAt_nil hrd))
          have hrv := hRV.out
          rw [hrd, show rvVal a none = .tuple #[.int .i64 0, .int .i64 0, .bool false] from rfl] at hrv
          have HRV := hide hrv
          clear hrv hRV hrd
          go_wp2_with (go_at_call 56; refine (HRV.out _).mono ?_; rintro e w1 ⟨rfl, hb1⟩)
          go_ret2
          exact UnfPost.mk R.out rfl rfl (own_below hown hb1) (hbel.trans (hb1.mono hsz))
        | some p =>
          obtain ⟨n, c⟩ := p
          have hsome := rdGo_some 5 [] _ n c hrd
          simp only [List.length_nil, Nat.zero_add, List.length_drop] at hsome
          rw [hbl] at hsome
          obtain ⟨q, hq⟩ : ∃ q, a + c = q := ⟨_, rfl⟩
          have hrv := hRV.out
          rw [hrd, show rvVal a (some (n, c)) = .tuple #[.int .i64 n, .int .i64 (q : Int), .bool true] by rw [← hq]; rfl] at hrv
          have HRV := hide hrv
          have HRD := hide hrd
          clear hrv hRV hrd
          have hqs : q ≤ s.size := by omega
          have haq : a < q := by omega
          have hnn : n ≤ 1000000000 := hsome.1
          by_cases hfit : q + 4 + n ≤ s.size
          · have g1 : decide ((s.size : Int) - (q : Int) - 4 < (n : Int)) = false := by simp; omega
            have hlen : (((bl s).drop (q + 4)).take n).length = n := by rw [List.length_take, List.length_drop, hbl]; omega
            have hsk := Lib.extract_eq s (q + 4) (q + 4 + n)
            rw [show q + 4 + n - (q + 4) = n by omega] at hsk
            have hsk2 := Lib.extract_eq s a (q + 4 + n)
            rw [show q + 4 + n - a = c + 4 + n by omega] at hsk2
            obtain ⟨H, hH⟩ : ∃ H, ((bl s).drop (q + 4)).take n = H := ⟨_, rfl⟩
            obtain ⟨T, hTT⟩ : ∃ T, ((bl s).drop a).take (c + 4 + n) = T := ⟨_, rfl⟩
            have hHs : (⟨H.toArray⟩ : ByteArray).size ≤ 1048576 := by rw [size_mk, ← hH, hlen]; omega
            have hsl : s.extract (q + 4) (q + 4 + n) = ⟨H.toArray⟩ := by rw [hsk, hH]
            rw [hH] at hlen
            have hsl2 : s.extract a (q + 4 + n) = ⟨T.toArray⟩ := by rw [hsk2, hTT]
            clear hsk hsk2
            have hFR := hide (specFrame_any ⟨H.toArray⟩ hHs)
            by_cases hn : 1 ≤ n ∧ n ≤ 9000
            · have V := hide (show frameVal (bl ⟨H.toArray⟩) = .tuple #[.string ⟨(frameL H).toArray⟩, .bool true] from frameVal_yes (l := H) (by omega) (by omega))
              by_cases heq : frameL H = T
              · have R0 := (show frameAt (bl s) a = some (H, q + 4 + n) by
                  have := frameAt_yes HRD.out (by rw [hbl]; omega) hn.1 hn.2 (by rw [hq, hH, hTT]; exact heq)
                  rw [hq, hH] at this; exact this)
                have R := hide (HR.out.next R0)
                have HH := hide hH
                have HTT := hide hTT
                clear hH hTT hq hsome hlen R0
                subst heq
                go_wp2_with (first
                  | (go_at_call 56; refine (HRV.out _).mono ?_; rintro e w1 ⟨rfl, hb1⟩)
                  | (go_at_call 23; refine (hFR.out _).mono ?_; rw [V.out]; rintro e w2 ⟨rfl, hb2⟩; have hb3 := hbel.trans ((hb1.trans (hb2.mono hb1.size)).mono hsz); have hz3 := hb3.size; have hown3 := own_below (own_below hown hb1) hb2)
                  | (at_builtin; refine wpList_push rfl _ _ 53 rfl Tryd.underlying53 infoStr rfl rfl hown3 rfl rfl hb3 hz3 (by unfold maxLen; omega) (by omega) ?_))
                intro v' w1 hown' hbel' _
                have ho2 : w1.ownsRow w.heap.size 9 1 v' (xs ++ [H]).length (strs (xs ++ [H])) := by
                  rw [strs_append, List.length_append]; exact hown'
                have hv' : ∃ g cap, v' = .slice (some ⟨g, 0, none⟩) (xs ++ [H]).length cap := by
                  obtain ⟨g', cap', e1, _⟩ := ho2.form (by simp)
                  exact ⟨g', cap', e1⟩
                clear hown' hown hbel hown3 hb3 hz3
                go_wp2_with fail
                go_roundw
                case rel => exact ⟨q + 4 + n, xs ++ [H], by go_num, R.out, hv', ho2, hbel'⟩
                case measure => simp [intOf]; omega
              · have R := hide (HR.out.ended (show frameAt (bl s) a = none from frameAt_no HRD.out (fun h => heq (by have := h.2.2.2; rw [hq, hH, hTT] at this; exact this))))
                have q1 : (frameL H == T) = false := by simp [heq]
                clear heq hH hTT hq hsome hlen
                go_wp2_with (first
                  | (go_at_call 56; refine (HRV.out _).mono ?_; rintro e w1 ⟨rfl, hb1⟩)
                  | (go_at_call 23; refine (hFR.out _).mono ?_; rw [V.out]; rintro e w2 ⟨rfl, hb2⟩))
                go_ret2
                exact UnfPost.mk R.out rfl rfl (own_below (own_below hown hb1) hb2) (hbel.trans ((hb1.trans (hb2.mono hb1.size)).mono hsz))
            · have V := hide (show frameVal (bl ⟨H.toArray⟩) = .tuple #[.string ⟨#[]⟩, .bool false] from frameVal_no (l := H) (by omega))
              have R := hide (HR.out.ended (show frameAt (bl s) a = none from frameAt_no HRD.out (fun h => hn ⟨h.2.1, h.2.2.1⟩)))
              clear hn hH hTT hq hsome hlen
              go_wp2_with (first
                | (go_at_call 56; refine (HRV.out _).mono ?_; rintro e w1 ⟨rfl, hb1⟩)
                | (go_at_call 23; refine (hFR.out _).mono ?_; rw [V.out]; rintro e w2 ⟨rfl, hb2⟩))
              go_ret2
              exact UnfPost.mk R.out rfl rfl (own_below (own_below hown hb1) hb2) (hbel.trans ((hb1.trans (hb2.mono hb1.size)).mono hsz))
          · have g1 : decide ((s.size : Int) - (q : Int) - 4 < (n : Int)) = true := by simp; omega
            have R := hide (HR.out.ended (show frameAt (bl s) a = none from frameAt_no HRD.out (fun h => hfit (by have := h.1; rw [hbl] at this; omega))))
            clear hfit hq hsome
            go_wp2_with (go_at_call 56; refine (HRV.out _).mono ?_; rintro e w1 ⟨rfl, hb1⟩)
            go_ret2
            exact UnfPost.mk R.out rfl rfl (own_below hown hb1) (hbel.trans (hb1.mono hsz))
      · have R := hide (HR.out.ended (frameAt_end (by rw [hbl]; omega)))
        go_wp2_with fail
        go_ret2
        exact UnfPost.mk R.out rfl rfl hown hbel

end Go.Proofs.YthbgklmnmoclhaaDoor
