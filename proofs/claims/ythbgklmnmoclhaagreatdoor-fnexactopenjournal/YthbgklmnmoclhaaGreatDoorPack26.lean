/-
  JournalName of the program.
  JournalOk of the program.
  Walks of chapter 4: the frame at a place, of the program.
  Walks of chapter 4: Unframe of the specification.
  strings.Builder: what is written goes behind what was written (the shelf's contract of WriteString is not laid at this translation).
-/
import Derived.Test.YthbgklmnmoclhaaGreatDoorPack20
import Derived.Test.YthbgklmnmoclhaaGreatDoorPack17
import Derived.Test.YthbgklmnmoclhaaGreatDoorPack6
import Derived.Test.YthbgklmnmoclhaaGreatDoorPack24
import Derived.Test.YthbgklmnmoclhaaGreatDoorPack11
import Derived.Test.YthbgklmnmoclhaaGreatDoorPack3
import Derived.Test.YthbgklmnmoclhaaGreatDoorPack22
import Derived.Test.YthbgklmnmoclhaaGreatDoorPack8
import Derived.Lib.Strings
import Derived.Test.YthbgklmnmoclhaaGreatDoorPack19
import Derived.Test.YthbgklmnmoclhaaGreatDoorPack9
import Derived.Test.YthbgklmnmoclhaaGreatDoorShelf
import Derived.Test.YthbgklmnmoclhaaGreatDoorPack1
import Derived.Test.YthbgklmnmoclhaaGreatDoorPack13
namespace Go.Proofs.YthbgklmnmoclhaaGreatDoor
open Go.RowKit P1 P3 P9 K
set_option linter.unusedVariables false
set_option linter.unusedSimpArgs false

set_option maxHeartbeats 1000000 in
theorem implJournalName_any (n : Int) (h0 : -9223372036854775808 ≤ n) (h1 : n ≤ 9223372036854775807) (w : World) (ht : Lib.TabIs Tryz.prog w "internal/strconv.uint64pow10" .u64 Lib.pow10Tab) :
    Calls Tryz.prog 50 #[.int .i64 n] w fun e w' => e = .returned (.string ⟨(jnName n).toArray⟩) ∧ Below w.heap.size w w' := by
  have HT := hide ht
  clear ht
  by_cases hi : 0 ≤ n ∧ n ≤ 999
  · obtain ⟨i0, i1⟩ := hi
    obtain ⟨N, rfl⟩ := Int.eq_ofNat_of_zero_le i0
    have R := hide (show jnName (N : Int) = 106 :: Lib.decDigits N by unfold jnName; rw [if_pos (jnIn_iff.2 ⟨i0, i1⟩)]; rfl)
    have hr := dec_room N (by omega)
    have C := cat_name (Lib.decDigits N)
    go_enter Tryz.func50, Tryz.ntmps50
    go_wp2_with (first
      | (go_at_call 75; refine (within_yes _ _ _ (by omega) (by omega) _).mono ?_; rintro e w1 ⟨rfl, rfl⟩)
      | (go_at_call 76; refine (implDecimal_any (N : Int) (by omega) (by omega) _ HT.out).mono ?_; rw [Lib.itoa_nonneg]; rintro e w1 ⟨rfl, hb1⟩))
    go_ret
    exact ⟨by rw [R.out]; rfl, hb1⟩
  · have R := hide (show jnName n = [] by unfold jnName; rw [if_neg (fun h => hi (jnIn_iff.1 h))])
    go_enter Tryz.func50, Tryz.ntmps50
    go_wp2_with (go_at_call 75; refine (within_no _ _ _ (by omega) _).mono ?_; rintro e w1 ⟨rfl, rfl⟩)
    go_ret
    exact ⟨by rw [R.out]; rfl, Below.refl _ _⟩

end Go.Proofs.YthbgklmnmoclhaaGreatDoor

namespace Go.Proofs.YthbgklmnmoclhaaGreatDoor
open Go.RowKit P1 P3 P9 K
set_option linter.unusedVariables false
set_option linter.unusedSimpArgs false

set_option maxHeartbeats 2000000 in
theorem implJournalOk_any (j : JnV) (oa : Option Addr) (n cap : Nat) (w : World) (hat : EntsAt w oa n cap j.es) (hw : ∀ f ∈ j.es, f.data.size ≤ 1048576) :
    Calls Tryz.prog 99 #[jval j.number j.term j.vote j.s j.u (.slice oa n cap)] w fun e w' => e = .returned (.bool j.ok) ∧ Below w.heap.size w w' := by
  have hb0 := (Below.refl w.heap.size w).alloc (Nat.le_refl _) (.cells #[.int .i64 j.number, .int .i64 j.term, .int .i64 j.vote, .int .i64 j.s, .int .i64 j.u, .slice oa n cap] 30)
  have HLO := hide (implLogOk_any j.s j.u oa n cap j.es _ (hat.below hb0) hw)
  have HB0 := hide hb0
  clear hat hw hb0
  by_cases c1 : 0 ≤ j.number ∧ j.number ≤ 999
  · by_cases c2 : 0 ≤ j.term ∧ j.term ≤ 100000
    · by_cases c3 : 0 ≤ j.vote ∧ j.vote ≤ 4
      · have R := hide (ok_log c1 ⟨c2.1, c2.2, c3⟩)
        go_enter Tryz.func99, Tryz.ntmps99
        go_wp2_with (go_at_call 75; refine (within_yes _ _ _ (by omega) (by omega) _).mono ?_; rintro e w1 ⟨rfl, rfl⟩)
        refine HLO.out.mono ?_
        rintro e w1 ⟨rfl, hb1⟩
        go_wp2_with fail
        go_ret
        exact ⟨by rw [R.out]; rfl, HB0.out.trans (hb1.mono (by simp))⟩
      · have R := hide (ok_false_h (j := j) (by omega))
        go_enter Tryz.func99, Tryz.ntmps99
        go_wp2_with (go_at_call 75; first | (refine (within_yes _ _ _ (by omega) (by omega) _).mono ?_; rintro e w1 ⟨rfl, rfl⟩) | (refine (within_no _ _ _ (by omega) _).mono ?_; rintro e w1 ⟨rfl, rfl⟩))
        go_ret
        exact ⟨by rw [R.out]; rfl, HB0.out⟩
    · have R := hide (ok_false_h (j := j) (by omega))
      go_enter Tryz.func99, Tryz.ntmps99
      go_wp2_with (go_at_call 75; first | (refine (within_yes _ _ _ (by omega) (by omega) _).mono ?_; rintro e w1 ⟨rfl, rfl⟩) | (refine (within_no _ _ _ (by omega) _).mono ?_; rintro e w1 ⟨rfl, rfl⟩))
      go_ret
      exact ⟨by rw [R.out]; rfl, HB0.out⟩
  · have R := hide (ok_false_n (j := j) (by omega))
    go_enter Tryz.func99, Tryz.ntmps99
    go_wp2_with (go_at_call 75; refine (within_no _ _ _ (by omega) _).mono ?_; rintro e w1 ⟨rfl, rfl⟩)
    go_ret
    exact ⟨by rw [R.out]; rfl, HB0.out⟩

end Go.Proofs.YthbgklmnmoclhaaGreatDoor

namespace Go.Proofs.YthbgklmnmoclhaaGreatDoor
open Go.RowKit P1 K P3
set_option linter.unusedVariables false

/-- The results of frameAt as values. -/
def faVal : Option (List UInt8 × Nat) → Value
  | none => .tuple #[.string ⟨#[]⟩, .int .i64 0, .bool false]
  | some (r, b) => .tuple #[.string ⟨r.toArray⟩, .int .i64 b, .bool true]

theorem ret_fa_no {r : Option (List UInt8 × Nat)} (h : r = none) : Ending.returned (.tuple #[.string ⟨#[]⟩, .int .i64 0, .bool false]) = .returned (faVal r) := by rw [h]; rfl
theorem ret_fa_yes {r : Option (List UInt8 × Nat)} {l : List UInt8} {b : Nat} {x : Int} (h : r = some (l, b)) (hx : x = (b : Int)) : Ending.returned (.tuple #[.string ⟨l.toArray⟩, .int .i64 x, .bool true]) = .returned (faVal r) := by rw [h, hx]; rfl

theorem bl_mk (l : List UInt8) : bl ⟨l.toArray⟩ = l := rfl
theorem size_mk (l : List UInt8) : (⟨l.toArray⟩ : ByteArray).size = l.length := rfl

set_option maxHeartbeats 1000000 in
theorem implFrameAt_any (s : ByteArray) (hs : s.size ≤ 1048576) (a : Nat) (ha : a ≤ s.size) (w : World) (htab : SumTabIs w) :
    Calls Tryz.prog 95 #[.string s, .int .i64 (a : Int)] w fun e w' => e = .returned (faVal (frameAt (bl s) a)) ∧ Below w.heap.size w w' := by
  have HT := hide htab
  clear htab
  have hRV := hide (implReadVar_any s hs a ha)
  cases hrd : rdGo 5 [] ((bl s).drop a) with
  | none =>
    have R := hide (frameAt_nil hrd)
    have hrv := hRV.out
    rw [hrd] at hrv
    have HRV := hide hrv
    clear hrv hRV hrd
    go_enter Tryz.func95, Tryz.ntmps95
    go_wp2_with (go_at_call 110; refine (HRV.out _).mono ?_; unfold rvVal; rintro e w1 ⟨rfl, rfl⟩)
    go_ret3
    exact ⟨ret_fa_no R.out, Below.refl _ _⟩
  | some p =>
    obtain ⟨n, c⟩ := p
    have hsome := rdGo_some 5 [] _ n c hrd
    simp only [List.length_nil, Nat.zero_add, List.length_drop] at hsome
    have hbl := bl_length s
    rw [hbl] at hsome
    obtain ⟨q, hq⟩ : ∃ q, a + c = q := ⟨_, rfl⟩
    have hrv := hRV.out
    rw [hrd, show rvVal a (some (n, c)) = .tuple #[.int .i64 n, .int .i64 (q : Int), .bool true] by rw [← hq]; rfl] at hrv
    have HRV := hide hrv
    have HRD := hide hrd
    clear hrv hRV hrd
    have hqs : q ≤ s.size := by omega
    have haq : a ≤ q := by omega
    by_cases hfit : q + 4 + n ≤ s.size
    · have g1 : decide ((s.size : Int) - (q : Int) - 4 < (n : Int)) = false := by simp; omega
      have hlen : (((bl s).drop (q + 4)).take n).length = n := by rw [List.length_take, List.length_drop, hbl]; omega
      have hsk := Lib.extract_eq s (q + 4) (q + 4 + n)
      rw [show q + 4 + n - (q + 4) = n by omega] at hsk
      have hsk2 := Lib.extract_eq s a (q + 4 + n)
      rw [show q + 4 + n - a = c + 4 + n by omega] at hsk2
      obtain ⟨H, hH⟩ : ∃ H, ((bl s).drop (q + 4)).take n = H := ⟨_, rfl⟩
      obtain ⟨T, hTT⟩ : ∃ T, ((bl s).drop a).take (c + 4 + n) = T := ⟨_, rfl⟩
      have hHs : (⟨H.toArray⟩ : ByteArray).size ≤ 1048576 := by rw [size_mk, ← hH, hlen]; omega
      have hsl : s.extract (q + 4) (q + 4 + n) = ⟨H.toArray⟩ := by rw [hsk, hH]
      rw [hH] at hlen
      have hsl2 : s.extract a (q + 4 + n) = ⟨T.toArray⟩ := by rw [hsk2, hTT]
      clear hsk hsk2
      have hCL := hide (stringsClone_any ⟨H.toArray⟩ (by omega))
      have hFR := hide (fun wx h => implFrame_any ⟨H.toArray⟩ hHs wx h)
      by_cases hn : 1 ≤ n ∧ n ≤ 9000
      · have V := hide (show frameVal (bl ⟨H.toArray⟩) = .tuple #[.string ⟨(frameL H).toArray⟩, .bool true] from frameVal_yes (l := H) (by omega) (by omega))
        by_cases heq : frameL H = T
        · have R := hide (show frameAt (bl s) a = some (H, q + 4 + n) by
            have := frameAt_yes HRD.out (by rw [hbl]; omega) hn.1 hn.2 (by rw [hq, hH, hTT]; exact heq)
            rw [hq, hH] at this; exact this)
          have HH := hide hH
          have HTT := hide hTT
          clear hH hTT hq hsome hlen
          subst heq
          go_enter Tryz.func95, Tryz.ntmps95
          go_wp2_with (first
            | (go_at_call 110; refine (HRV.out _).mono ?_; rintro e w1 ⟨rfl, rfl⟩)
            | (go_at_call 111; refine (hFR.out _ HT.out).mono ?_; rw [V.out]; rintro e w2 ⟨rfl, hb2⟩)
            | (go_at_call 74; refine (hCL.out _).mono ?_; rintro e w3 ⟨rfl, hb3⟩))
          go_ret3
          exact ⟨ret_fa_yes R.out (by omega), hb2.trans (hb3.mono hb2.size)⟩
        · have R := hide (show frameAt (bl s) a = none from frameAt_no HRD.out (fun h => heq (by have := h.2.2.2; rw [hq, hH, hTT] at this; exact this)))
          have q1 : (frameL H == T) = false := by simp [heq]
          clear heq hH hTT hq hsome hlen
          go_enter Tryz.func95, Tryz.ntmps95
          go_wp2_with (first
            | (go_at_call 110; refine (HRV.out _).mono ?_; rintro e w1 ⟨rfl, rfl⟩)
            | (go_at_call 111; refine (hFR.out _ HT.out).mono ?_; rw [V.out]; rintro e w2 ⟨rfl, hb2⟩))
          go_ret3
          exact ⟨ret_fa_no R.out, hb2⟩
      · have V := hide (show frameVal (bl ⟨H.toArray⟩) = .tuple #[.string ⟨#[]⟩, .bool false] from frameVal_no (l := H) (by omega))
        have R := hide (show frameAt (bl s) a = none from frameAt_no HRD.out (fun h => hn ⟨h.2.1, h.2.2.1⟩))
        clear hn hH hTT hq hsome hlen
        go_enter Tryz.func95, Tryz.ntmps95
        go_wp2_with (first
          | (go_at_call 110; refine (HRV.out _).mono ?_; rintro e w1 ⟨rfl, rfl⟩)
          | (go_at_call 111; refine (hFR.out _ HT.out).mono ?_; rw [V.out]; rintro e w2 ⟨rfl, hb2⟩))
        go_ret3
        exact ⟨ret_fa_no R.out, hb2⟩
    · have g1 : decide ((s.size : Int) - (q : Int) - 4 < (n : Int)) = true := by simp; omega
      have R := hide (show frameAt (bl s) a = none from frameAt_no HRD.out (fun h => hfit (by have := h.1; rw [hbl] at this; omega)))
      clear hfit hq hsome
      go_enter Tryz.func95, Tryz.ntmps95
      go_wp2_with (go_at_call 110; refine (HRV.out _).mono ?_; rintro e w1 ⟨rfl, rfl⟩)
      go_ret3
      exact ⟨ret_fa_no R.out, Below.refl _ _⟩

end Go.Proofs.YthbgklmnmoclhaaGreatDoor

namespace Go.Proofs.YthbgklmnmoclhaaGreatDoor
open Go.RowKit P1 K P3
set_option linter.unusedVariables false

/-- What a call of Unframe leaves: a row of its own. -/
def UnfPost (l : List UInt8) (w : World) (e : Ending) (w' : World) : Prop :=
  ∃ g cap, e = .returned (.tuple #[.slice (some ⟨g, 0, none⟩) (unframeL l).1.length cap, .int .i64 ((unframeL l).2 : Int)]) ∧
    w'.ownsRow w.heap.size 9 1 (.slice (some ⟨g, 0, none⟩) (unframeL l).1.length cap) (unframeL l).1.length (strs (unframeL l).1) ∧ Below w.heap.size w w'

theorem UnfPost.mk {l : List UInt8} {w w' : World} {g cap n a : Nat} {xs : List (List UInt8)} {x : Int} (h : unframeL l = (xs, a)) (hn : n = xs.length) (hx : x = (a : Int))
    (hown : w'.ownsRow w.heap.size 9 1 (.slice (some ⟨g, 0, none⟩) n cap) n (strs xs)) (hb : Below w.heap.size w w') : UnfPost l w (.returned (.tuple #[.slice (some ⟨g, 0, none⟩) n cap, .int .i64 x])) w' := by
  subst hn; subst hx; unfold UnfPost; rw [h]; exact ⟨g, cap, rfl, hown, hb⟩

theorem own_none {w0 w : World} {e : TypeId} (hb : Below w0.heap.size w0 w) : (w.alloc (.cells #[] e)).ownsRow w0.heap.size e 1 (.slice (some ⟨w.heap.size, 0, none⟩) 0 0) 0 [] ∧ Below w0.heap.size w0 (w.alloc (.cells #[] e)) :=
  ⟨World.ownsRow_made (w := w) #[] 0 hb.size (by decide) rfl, hb.alloc hb.size _⟩

set_option maxHeartbeats 2000000 in
theorem specUnframe_any (s : ByteArray) (hs : s.size ≤ 1048576) (w : World) :
    Calls Tryz.prog 40 #[.string s] w fun e w' => UnfPost (bl s) w e w' := by
  have hbl := bl_length s
  by_cases hlong : 20000 < s.size
  · have he := own_none (e := 9) (Below.refl w.heap.size w)
    have hno := hide (unframeL_long (l := bl s) (by rw [hbl]; exact hlong))
    go_enter Tryz.func40, Tryz.ntmps40
    go_wp2_with fail
    go_ret2
    exact UnfPost.mk hno.out rfl rfl he.1 he.2
  · go_enter Tryz.func40, Tryz.ntmps40
    go_wp2_with fail
    go_loopw [4, 5] (fun v y wr => ∃ (a : Nat) (xs : List (List UInt8)), y = .int .i64 (a : Int) ∧ UnfRel (bl s) a xs ∧
        (∃ g cap, v = .slice (some ⟨g, 0, none⟩) xs.length cap) ∧ wr.ownsRow w.heap.size 9 1 v xs.length (strs xs) ∧ Below w.heap.size w wr) (fun _ y _ => s.size - (intOf y).toNat)
    case atStart =>
      have he := own_none (e := 9) (Below.refl w.heap.size w)
      exact ⟨0, [], rfl, UnfRel.start (by rw [hbl]; omega), ⟨_, _, rfl⟩, he.1, he.2⟩
    case round =>
      obtain ⟨a, xs, rfl, hr, ⟨g, cap, rfl⟩, hown, hbel⟩ := hrel
      have hsz := hbel.size
      have ha : a ≤ s.size := by obtain ⟨f, _, h2, _⟩ := hr; omega
      have hxl : xs.length ≤ a := by obtain ⟨f, _, _, _, h4, _⟩ := hr; exact h4
      have HR := hide hr
      clear hr
      by_cases hlt : a < s.size
      · have hRV := hide (specReadVar_any s hs a ha)
        cases hrd : rdGo 5 [] ((bl s).drop a) with
        | none =>
          have R := hide (HR.out.ended (frameAt_nil hrd))
          have hrv := hRV.out
          rw [hrd, show rvVal a none = .tuple #[.int .i64 0, .int .i64 0, .bool false] from rfl] at hrv
          have HRV := hide hrv
          clear hrv hRV hrd
          go_wp2_with (go_at_call 60; refine (HRV.out _).mono ?_; rintro e w1 ⟨rfl, hb1⟩)
          go_ret2
          exact UnfPost.mk R.out rfl rfl (own_below hown hb1) (hbel.trans (hb1.mono hsz))
        | some p =>
          obtain ⟨n, c⟩ := p
          have hsome := rdGo_some 5 [] _ n c hrd
          simp only [List.length_nil, Nat.zero_add, List.length_drop] at hsome
          rw [hbl] at hsome
          obtain ⟨q, hq⟩ : ∃ q, a + c = q := ⟨_, rfl⟩
          have hrv := hRV.out
          rw [hrd, show rvVal a (some (n, c)) = .tuple #[.int .i64 n, .int .i64 (q : Int), .bool true] by rw [← hq]; rfl] at hrv
          have HRV := hide hrv
          have HRD := hide hrd
          clear hrv hRV hrd
          have hqs : q ≤ s.size := by omega
          have haq : a < q := by omega
          have hnn : n ≤ 1000000000 := hsome.1
          by_cases hfit : q + 4 + n ≤ s.size
          · have g1 : decide ((s.size : Int) - (q : Int) - 4 < (n : Int)) = false := by simp; omega
            have hlen : (((bl s).drop (q + 4)).take n).length = n := by rw [List.length_take, List.length_drop, hbl]; omega
            have hsk := Lib.extract_eq s (q + 4) (q + 4 + n)
            rw [show q + 4 + n - (q + 4) = n by omega] at hsk
            have hsk2 := Lib.extract_eq s a (q + 4 + n)
            rw [show q + 4 + n - a = c + 4 + n by omega] at hsk2
            obtain ⟨H, hH⟩ : ∃ H, ((bl s).drop (q + 4)).take n = H := ⟨_, rfl⟩
            obtain ⟨T, hTT⟩ : ∃ T, ((bl s).drop a).take (c + 4 + n) = T := ⟨_, rfl⟩
            have hHs : (⟨H.toArray⟩ : ByteArray).size ≤ 1048576 := by rw [size_mk, ← hH, hlen]; omega
            have hsl : s.extract (q + 4) (q + 4 + n) = ⟨H.toArray⟩ := by rw [hsk, hH]
            rw [hH] at hlen
            have hsl2 : s.extract a (q + 4 + n) = ⟨T.toArray⟩ := by rw [hsk2, hTT]
            clear hsk hsk2
            have hFR := hide (specFrame_any ⟨H.toArray⟩ hHs)
            by_cases hn : 1 ≤ n ∧ n ≤ 9000
            · have V := hide (show frameVal (bl ⟨H.toArray⟩) = .tuple #[.string ⟨(frameL H).toArray⟩, .bool true] from frameVal_yes (l := H) (by omega) (by omega))
              by_cases heq : frameL H = T
              · have R0 := (show frameAt (bl s) a = some (H, q + 4 + n) by
                  have := frameAt_yes HRD.out (by rw [hbl]; omega) hn.1 hn.2 (by rw [hq, hH, hTT]; exact heq)
                  rw [hq, hH] at this; exact this)
                have R := hide (HR.out.next R0)
                have HH := hide hH
                have HTT := hide hTT
                clear hH hTT hq hsome hlen R0
                subst heq
                go_wp2_with (first
                  | (go_at_call 60; refine (HRV.out _).mono ?_; rintro e w1 ⟨rfl, hb1⟩)
                  | (go_at_call 44; refine (hFR.out _).mono ?_; rw [V.out]; rintro e w2 ⟨rfl, hb2⟩; have hb3 := hbel.trans ((hb1.trans (hb2.mono hb1.size)).mono hsz); have hz3 := hb3.size; have hown3 := own_below (own_below hown hb1) hb2)
                  | (at_builtin; refine wpList_push rfl _ _ 78 rfl Tryz.underlying78 infoStr rfl rfl hown3 rfl rfl hb3 hz3 (by unfold maxLen; omega) (by omega) ?_))
                intro v' w1 hown' hbel' _
                have ho2 : w1.ownsRow w.heap.size 9 1 v' (xs ++ [H]).length (strs (xs ++ [H])) := by
                  rw [strs_append, List.length_append]; exact hown'
                have hv' : ∃ g cap, v' = .slice (some ⟨g, 0, none⟩) (xs ++ [H]).length cap := by
                  obtain ⟨g', cap', e1, _⟩ := ho2.form (by simp)
                  exact ⟨g', cap', e1⟩
                clear hown' hown hbel hown3 hb3 hz3
                go_wp2_with fail
                go_roundw
                case rel => exact ⟨q + 4 + n, xs ++ [H], by go_num, R.out, hv', ho2, hbel'⟩
                case measure => simp [intOf]; omega
              · have R := hide (HR.out.ended (show frameAt (bl s) a = none from frameAt_no HRD.out (fun h => heq (by have := h.2.2.2; rw [hq, hH, hTT] at this; exact this))))
                have q1 : (frameL H == T) = false := by simp [heq]
                clear heq hH hTT hq hsome hlen
                go_wp2_with (first
                  | (go_at_call 60; refine (HRV.out _).mono ?_; rintro e w1 ⟨rfl, hb1⟩)
                  | (go_at_call 44; refine (hFR.out _).mono ?_; rw [V.out]; rintro e w2 ⟨rfl, hb2⟩))
                go_ret2
                exact UnfPost.mk R.out rfl rfl (own_below (own_below hown hb1) hb2) (hbel.trans ((hb1.trans (hb2.mono hb1.size)).mono hsz))
            · have V := hide (show frameVal (bl ⟨H.toArray⟩) = .tuple #[.string ⟨#[]⟩, .bool false] from frameVal_no (l := H) (by omega))
              have R := hide (HR.out.ended (show frameAt (bl s) a = none from frameAt_no HRD.out (fun h => hn ⟨h.2.1, h.2.2.1⟩)))
              clear hn hH hTT hq hsome hlen
              go_wp2_with (first
                | (go_at_call 60; refine (HRV.out _).mono ?_; rintro e w1 ⟨rfl, hb1⟩)
                | (go_at_call 44; refine (hFR.out _).mono ?_; rw [V.out]; rintro e w2 ⟨rfl, hb2⟩))
              go_ret2
              exact UnfPost.mk R.out rfl rfl (own_below (own_below hown hb1) hb2) (hbel.trans ((hb1.trans (hb2.mono hb1.size)).mono hsz))
          · have g1 : decide ((s.size : Int) - (q : Int) - 4 < (n : Int)) = true := by simp; omega
            have R := hide (HR.out.ended (show frameAt (bl s) a = none from frameAt_no HRD.out (fun h => hfit (by have := h.1; rw [hbl] at this; omega))))
            clear hfit hq hsome
            go_wp2_with (go_at_call 60; refine (HRV.out _).mono ?_; rintro e w1 ⟨rfl, hb1⟩)
            go_ret2
            exact UnfPost.mk R.out rfl rfl (own_below hown hb1) (hbel.trans (hb1.mono hsz))
      · have R := hide (HR.out.ended (frameAt_end (by rw [hbl]; omega)))
        go_wp2_with fail
        go_ret2
        exact UnfPost.mk R.out rfl rfl hown hbel

end Go.Proofs.YthbgklmnmoclhaaGreatDoor

namespace Go.Proofs.YthbgklmnmoclhaaGreatDoor
open Go.RowKit K
set_option linter.unusedVariables false

theorem bw_lies : liesAt Tryz.prog Tryz.prog.depth 182 (2 / Tryz.prog.cellsOf 182) 0 182 1 = true := by kernel_rfl
theorem bw_info : ∃ j, Tryz.prog.info? 182 = some j ∧ j.size ≠ 0 := by
  have h : (Tryz.prog.info? 182).map (·.size) = some 2 := by kernel_rfl
  obtain ⟨j, hj, h2⟩ := Option.map_eq_some_iff.1 h
  exact ⟨j, hj, by rw [h2]; decide⟩
theorem bw_byte : (Tryz.prog.info? 5).map (fun i => (i.zero, i.size, i.bytes)) = some (some (.int .u8 0), 1, 1) := by kernel_rfl

set_option maxHeartbeats 1000000 in
set_option maxRecDepth 100000 in
theorem copyCheck_used (b : Nat) (w : World) (h : w.cell? ⟨b, 0, none⟩ = some (.pointer (some ⟨b, 0, none⟩))) :
    Calls Tryz.prog 131 #[.pointer (some ⟨b, 0, none⟩)] w fun e w' => e = .returned (.tuple #[]) ∧ w' = w := by
  obtain ⟨j, hj, -⟩ := bw_info
  have hne := Lib.run_neq_ptr_same w ⟨b, 0, none⟩ Tryz.underlying180 hj
  go_enter Tryz.func131, Tryz.ntmps131
  go_wp2
  go_end0
  exact ⟨rfl, rfl⟩

set_option maxHeartbeats 1000000 in
set_option maxRecDepth 100000 in
theorem copyCheck_fresh (b : Nat) (w : World) (h : w.cell? ⟨b, 0, none⟩ = some (.pointer none)) (hsh : w.shape? b = some (182, 2)) (hf : w.frozen? ⟨b, 0, none⟩ = false) :
    Calls Tryz.prog 131 #[.pointer (some ⟨b, 0, none⟩)] w fun e w' => e = .returned (.tuple #[]) ∧ w' = w.setCell ⟨b, 0, none⟩ (.pointer (some ⟨b, 0, none⟩)) := by
  obtain ⟨j, hj, hz⟩ := bw_info
  have hA := Lib.run_to_unsafe w ⟨b, 0, none⟩ Tryz.underlying180 Tryz.underlying126 hj hz hsh (Nat.zero_lt_succ 1)
  have hE := @run_callFunc_extern Tryz.prog 138 _ Extern.AbiNoEscape.same Tryz.func138 (by kernel_rfl) (by kernel_rfl) (by kernel_rfl) (by kernel_rfl)
  have hN := fun x => Lib.run_noEscape (P := Tryz.prog) w x
  have hC := Lib.run_from_unsafe w ⟨b, 0, none⟩ Tryz.underlying126 Tryz.underlying180 hj hsh bw_lies
  go_enter Tryz.func131, Tryz.ntmps131
  go_wp2
  go_end0
  exact ⟨rfl, rfl⟩

theorem copyCheck_any (B b : Nat) (bs : List Value) (w : World) (h : Lib.IsBuilder 182 5 B b bs w) :
    Calls Tryz.prog 131 #[.pointer (some ⟨b, 0, none⟩)] w fun e w' => e = .returned (.tuple #[]) ∧ Lib.BuilderAt 182 5 B b (.pointer (some ⟨b, 0, none⟩)) bs w' ∧ Below B w w' := by
  rcases h with h | h
  · refine (copyCheck_fresh b w h.cell0 h.shape h.frozen0).mono ?_
    rintro e w' ⟨rfl, rfl⟩
    exact ⟨rfl, h.used _, (Below.refl B w).setCell (p := ⟨b, 0, none⟩) h.1 _⟩
  · refine (copyCheck_used b w h.cell0).mono ?_
    rintro e w' ⟨rfl, rfl⟩
    exact ⟨rfl, h, Below.refl B _⟩

set_option maxHeartbeats 2000000 in
set_option maxRecDepth 100000 in
theorem writeString_any (B b : Nat) (bs : List Value) (s : ByteArray) (w : World) (h : Lib.IsBuilder 182 5 B b bs w) (hlen : bs.length + s.size ≤ 140737488355328) (hBw : B ≤ w.heap.size) :
    Calls Tryz.prog 119 #[.pointer (some ⟨b, 0, none⟩), .string s] w fun e w' => e = .returned (.tuple #[.int .i64 s.size, .nilIface]) ∧ Lib.IsBuilder 182 5 B b (bs ++ Lib.strCells s) w' ∧ Below B w w' := by
  obtain ⟨i0, hi, hz0, hz1, hz2⟩ := info_parts bw_byte
  have HC := hide (copyCheck_any B b bs w h)
  clear h
  go_enter Tryz.func119, Tryz.ntmps119
  go_wp2_with fail
  refine HC.out.mono ?_
  rintro e w1 ⟨rfl, h1, hb1⟩
  obtain ⟨hB, v, hbk, hown, hne⟩ := h1
  have c1 : w1.cell? ⟨b, 1, none⟩ = some v := blk_cell hbk 1 rfl
  go_wp2_with (at_builtin; refine Lib.wpList_append_own_string _ rfl _ _ 101 9 rfl B 5 i0 Tryz.underlying101 Tryz.underlying9 hi hz0 hz1 hz2 _ _ _ rfl hown s rfl ?c3 ?c4 ?c5 ?_)
  case c3 => unfold maxLen; omega
  case c4 => omega
  case c5 => have := hb1.size; omega
  intro v' w2 hown' hgrow _
  have hlt : b < w1.heap.size := blk_lt hbk
  have hb2 : w2.heap[b]? = some (.cells #[.pointer (some ⟨b, 0, none⟩), v] 182 (0, 0)) := (hgrow.block b hlt (fun e => hne e.symm)).trans hbk
  have d1 : w2.cell? ⟨b, 1, none⟩ = some v := blk_cell hb2 1 rfl
  have f1 : w2.frozen? ⟨b, 1, none⟩ = false := blk_free hb2 1
  have hend : Below B w (w2.setCell ⟨b, 1, none⟩ v') := (hb1.grown hgrow (by have := hb1.size; omega) (fun k hk => (hown.lt k hk).1)).setCell (p := ⟨b, 1, none⟩) hB _
  have hput := Lib.BuilderAt.put (T := 182) (e := 5) hB hb2 (bs' := bs ++ Lib.strCells s) (by simpa [Lib.strCells_length] using hown') (by decide)
  obtain ⟨ao, n', cap, rfl⟩ : ∃ ao n' cap, v' = .slice ao n' cap := by
    rcases hown'.2 with ⟨hv, _⟩ | ⟨g, cap, cur, hv, _⟩
    · exact ⟨_, _, _, hv⟩
    · exact ⟨_, _, _, hv⟩
  clear hown' hgrow hb2 hown hbk c1
  go_wp2_with fail
  go_ret2
  exact ⟨rfl, Or.inr hput, hend⟩

/-- New memory takes nothing from it. -/
theorem isBuilder_on {T e : TypeId} {B b : Nat} {bs : List Value} {w w' : World} (h : Lib.IsBuilder T e B b bs w) (hb : Below w.heap.size w w') : Lib.IsBuilder T e B b bs w' := by
  have key : ∀ p, Lib.BuilderAt T e B b p bs w → Lib.BuilderAt T e B b p bs w' := by
    rintro p ⟨hB, v, hbk, hown, hne⟩
    exact ⟨hB, v, (hb.block b (blk_lt hbk)).trans hbk, own_below hown hb, hne⟩
  exact h.imp (key _) (key _)

end Go.Proofs.YthbgklmnmoclhaaGreatDoor
