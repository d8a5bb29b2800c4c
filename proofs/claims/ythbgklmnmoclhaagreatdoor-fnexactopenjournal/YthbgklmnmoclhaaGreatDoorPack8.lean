/-
  strings.Clone, out of the shelf's contract of what it calls.
  Walks of chapter 5: what an entry says: contentOf, kindOf, data.
  Walks of chapter 5: ReadConf of the specification.
  Walks of chapter 5: contentOf, EntryOk of the program and of the specification.
  An entry that came in as an argument: two numbers and a text; its copy, its size.
-/
import Derived.Test.YthbgklmnmoclhaaGreatDoorPack1
import Derived.Test.YthbgklmnmoclhaaGreatDoorShelf
import Derived.Test.YthbgklmnmoclhaaGreatDoorPack6
import Derived.Lib.Strings
import Derived.WideShapes
import Derived.Deep.Slices
import Derived.ChangeSame
namespace Go.Proofs.YthbgklmnmoclhaaGreatDoor
open Go.RowKit P1 K

theorem stringsClone_any (s : ByteArray) (hs : s.size ≤ 281474976710656) (w : World) :
    Calls Tryz.prog 74 #[.string s] w fun e w' => e = .returned (.string s) ∧ Below w.heap.size w w' := by
  go_enter Tryz.func74, Tryz.ntmps74
  go_wp2_with (go_at_call 93; refine (Tryz.stringslite_Clone s _ hs).mono ?_; rintro e w1 ⟨rfl, hb1⟩)
  go_ret
  exact ⟨rfl, hb1⟩

end Go.Proofs.YthbgklmnmoclhaaGreatDoor

namespace Go.Proofs.YthbgklmnmoclhaaGreatDoor
open Go.RowKit P1 P9 K
set_option linter.unusedVariables false
set_option linter.unusedSimpArgs false

/-- What an entry of a kind says, as a value of the interface. -/
def ContAt (w : World) (k : Int) (s : ByteArray) (v : Value) : Prop :=
  (k = 1 ∧ s = ⟨#[]⟩ ∧ v = .iface 193 (.agg #[])) ∨
  (k = 2 ∧ confOk (confZ (bl s)) = true ∧ ∃ g cap, v = .iface 194 (.slice (some ⟨g, 0, none⟩) s.size cap) ∧ IntsAt w (some ⟨g, 0, none⟩) s.size cap (confZ (bl s))) ∨
  (k = 3 ∧ s.size ≤ 120 ∧ v = .iface 195 (.string s))

theorem ContAt.below {w w' : World} {k : Int} {s : ByteArray} {v : Value} (h : ContAt w k s v) (hb : Below w.heap.size w w') : ContAt w' k s v := by
  rcases h with h | ⟨h1, h2, g, cap, h3, h4⟩ | h
  · exact Or.inl h
  · exact Or.inr (Or.inl ⟨h1, h2, g, cap, h3, h4.below hb⟩)
  · exact Or.inr (Or.inr h)


theorem ta11 (w : World) (v : Value) : (Instr.typeAssert (.iface 193 v) 172 193 true).run Tryz.prog w = .ok (.tuple #[v, .bool true]) w := by kernel_rfl
theorem ta21 (w : World) (v : Value) : (Instr.typeAssert (.iface 194 v) 172 193 true).run Tryz.prog w = .ok (.tuple #[.agg #[], .bool false]) w := by kernel_rfl
theorem ta22 (w : World) (v : Value) : (Instr.typeAssert (.iface 194 v) 172 194 true).run Tryz.prog w = .ok (.tuple #[v, .bool true]) w := by kernel_rfl
theorem ta31 (w : World) (v : Value) : (Instr.typeAssert (.iface 195 v) 172 193 true).run Tryz.prog w = .ok (.tuple #[.agg #[], .bool false]) w := by kernel_rfl
theorem ta32 (w : World) (v : Value) : (Instr.typeAssert (.iface 195 v) 172 194 true).run Tryz.prog w = .ok (.tuple #[.slice none 0 0, .bool false]) w := by kernel_rfl
theorem ta33 (w : World) (v : Value) : (Instr.typeAssert (.iface 195 v) 172 195 true).run Tryz.prog w = .ok (.tuple #[v, .bool true]) w := by kernel_rfl

theorem kindOf_any (k : Int) (s : ByteArray) (v : Value) (w : World) (hc : ContAt w k s v) :
    Calls Tryz.prog 114 #[v] w fun e w' => e = .returned (.int .u8 k) ∧ w = w' := by
  rcases hc with ⟨rfl, -, rfl⟩ | ⟨rfl, -, g, cap, rfl, -⟩ | ⟨rfl, -, rfl⟩
  · have h1 := fun w => ta11 w (.agg #[])
    go_enter Tryz.func114, Tryz.ntmps114
    go_wp2
    go_ret
    exact ⟨rfl, rfl⟩
  · have h1 := fun w => ta21 w (.slice (some ⟨g, 0, none⟩) s.size cap)
    have h2 := fun w => ta22 w (.slice (some ⟨g, 0, none⟩) s.size cap)
    go_enter Tryz.func114, Tryz.ntmps114
    go_wp2
    go_ret
    exact ⟨rfl, rfl⟩
  · have h1 := fun w => ta31 w (.string s)
    have h2 := fun w => ta32 w (.string s)
    have h3 := fun w => ta33 w (.string s)
    go_enter Tryz.func114, Tryz.ntmps114
    go_wp2
    go_ret
    exact ⟨rfl, rfl⟩

theorem noData_any (w : World) :
    Calls Tryz.prog 181 #[.agg #[]] w fun e w' => e = .returned (.string ⟨#[]⟩) ∧ Below w.heap.size w w' := by
  go_enter Tryz.func181, Tryz.ntmps181
  go_wp2
  go_ret
  exact ⟨rfl, (Below.refl _ _).alloc (Nat.le_refl _) _⟩

theorem commandData_any (s : ByteArray) (hs : s.size ≤ 1048576) (w : World) :
    Calls Tryz.prog 184 #[.string s] w fun e w' => e = .returned (.string s) ∧ Below w.heap.size w w' := by
  have hs' : s.size ≤ 281474976710656 := by omega
  go_enter Tryz.func184, Tryz.ntmps184
  go_wp2_with (go_at_call 74; refine (stringsClone_any _ hs' _).mono ?_; rintro e w1 ⟨rfl, hb1⟩)
  go_ret
  exact ⟨rfl, hb1⟩

theorem confData_any (oa : Option Addr) (n cap : Nat) (zs : List Int) (w : World) (hat : IntsAt w oa n cap zs) (hok : confOk zs = true) :
    Calls Tryz.prog 182 #[.slice oa n cap] w fun e w' => e = .returned (.string ⟨(confB zs).toArray⟩) ∧ Below w.heap.size w w' := by
  have HAT := hide hat
  have HOK := hide hok
  clear hat hok
  go_enter Tryz.func182, Tryz.ntmps182
  go_wp2_with (go_at_call 183; refine (implConfText_any oa n cap zs _ HAT.out).mono ?_; rw [ctVal_yes HOK.out]; rintro e w1 ⟨rfl, hb1⟩)
  go_ret
  exact ⟨rfl, hb1⟩

end Go.Proofs.YthbgklmnmoclhaaGreatDoor

namespace Go.Proofs.YthbgklmnmoclhaaGreatDoor
open Go.RowKit P1 P9 K
set_option linter.unusedVariables false
set_option linter.unusedSimpArgs false

set_option maxHeartbeats 1000000 in
theorem specReadConf_any (s : ByteArray) (hs : s.size ≤ 1048576) (w : World) :
    Calls Tryz.prog 86 #[.string s] w fun e w' => RcPost w (rdConf (bl s)) e w' := by
  obtain ⟨R, hR⟩ : ∃ R, rdConf (bl s) = R := ⟨_, rfl⟩
  rw [hR]
  have HR := hide hR
  clear hR
  go_enter Tryz.func86, Tryz.ntmps86
  go_wp2_with fail
  go_loopw [4, 5] (fun v i wr => ∃ (j : Nat), i = .int .i64 (j : Int) ∧ j ≤ s.size ∧ j ≤ 5 ∧ RcRel w s j v wr) (fun _ i _ => s.size - (intOf i).toNat)
  case atStart => exact ⟨0, rfl, Nat.zero_le _, by omega, _, _, rfl, World.ownsRow_made (w := w) #[] 0 (Nat.le_refl _) (by decide) rfl, (Below.refl _ _).alloc (Nat.le_refl _) _⟩
  case round =>
    obtain ⟨j, rfl, hj, hj5, g, cap, rfl, hown, hbel⟩ := hrel
    have hsz := hbel.size
    by_cases hlt : j < s.size
    · have j0 : (j : Int) < (s.size : Int) := by omega
      by_cases h5 : j ≤ 4
      · have g5 : (j : Int) ≤ 4 := by omega
        have hidx : ∀ wx, (Instr.index 9 (.string s) (.int .i64 (j : Int))).run Tryz.prog wx = .ok (.int .u8 (s[j].toNat : Int)) wx := fun wx => idx_any s .i64 j hlt wx
        have hb0 : (s[j].toNat : Int) < 256 := by have := s[j].toNat_lt; omega
        have hb1 : 0 ≤ (s[j].toNat : Int) := by omega
        go_wp2_with (at_builtin; refine wpList_push rfl _ _ 139 rfl Tryz.underlying139 infoIz rfl rfl hown rfl rfl hbel hsz (by unfold maxLen; omega) (by omega) ?_)
        intro v' w1 hown' hbel' _
        have R := RcRel.next hlt hown' hbel'
        clear hown' hbel' hown hbel
        go_wp2
        go_roundw
        case rel => exact ⟨j + 1, by go_num, by omega, by omega, R⟩
        case measure => simp [intOf]; omega
      · have g5 : ¬ (j : Int) ≤ 4 := by omega
        have hjs : ¬ ((j : Int) = (s.size : Int)) := by omega
        have gjs : decide (j = s.size) = false := by simp; omega
        obtain rfl : R = ([], false) := HR.out.symm.trans (rdConf_no (rdConf_long (by rw [bl_length]; omega)))
        clear hown
        go_wp2_with fail
        refine bodyPost_ret (v := .tuple #[.slice (some ⟨wr.heap.size, 0, none⟩) 0 0, .bool false]) (by simp [results, Tryz.results86, go_sem]) rfl ?_
        exact ⟨_, _, rfl, own_base (World.ownsRow_made (w := wr) #[] 0 (Nat.le_refl _) (by decide) rfl) hsz, hbel.alloc hsz _⟩
    · have hjn : j = s.size := by omega
      subst hjn
      rw [List.take_of_length_le (by rw [bl_length]; exact Nat.le_refl _)] at hown
      obtain ⟨_, _, he, hat⟩ := intsAt_of_own hown (confZ_wf _)
      cases he
      have HAT := hide hat
      have HO := hide hown
      clear hat hown
      cases hok : confOk (confZ (bl s)) with
      | false =>
        obtain rfl : R = ([], false) := HR.out.symm.trans (rdConf_no hok)
        have HOK := hide hok
        clear hok
        go_wp2_with (go_at_call 107; refine (specConfOk_any _ _ _ _ _ HAT.out).mono ?_; rw [HOK.out]; rintro e w2 ⟨rfl, hdr⟩)
        have hb2 := hbel.trans (hdr.below.mono hsz)
        have hs2 := hb2.size
        refine bodyPost_ret (v := .tuple #[.slice (some ⟨w2.heap.size, 0, none⟩) 0 0, .bool false]) (by simp [results, Tryz.results86, go_sem]) rfl ?_
        exact ⟨_, _, rfl, own_base (World.ownsRow_made (w := w2) #[] 0 (Nat.le_refl _) (by decide) rfl) hs2, hb2.alloc hs2 _⟩
      | true =>
        obtain rfl : R = (confZ (bl s), true) := HR.out.symm.trans (rdConf_yes hok)
        have HOK := hide hok
        clear hok
        go_wp2_with (go_at_call 107; refine (specConfOk_any _ _ _ _ _ HAT.out).mono ?_; rw [HOK.out]; rintro e w2 ⟨rfl, hdr⟩)
        refine bodyPost_ret (v := .tuple #[.slice (some ⟨g, 0, none⟩) s.size cap, .bool true]) (by simp [results, Tryz.results86, go_sem]) rfl ?_
        refine ⟨g, cap, ?_, ?_, hbel.trans (hdr.below.mono hsz)⟩
        · simp [confZ_length]
        · have := own_below HO.out hdr.below
          simpa [confZ_length] using this

end Go.Proofs.YthbgklmnmoclhaaGreatDoor

namespace Go.Proofs.YthbgklmnmoclhaaGreatDoor
open Go.RowKit P1 P9 K
set_option linter.unusedVariables false
set_option linter.unusedSimpArgs false

/-- An entry. -/
structure EntV where
  term : Int
  kind : Int
  data : ByteArray

def eval (e : EntV) : Value := .agg #[.int .i64 e.term, .int .i64 e.kind, .string e.data]
def EntV.ok (e : EntV) : Bool := entryOk e.term e.kind (bl e.data)

/-- The results of contentOf. -/
def CoPost (w : World) (k : Int) (s : ByteArray) (c : Bool) (e : Ending) (w' : World) : Prop :=
  ∃ v, e = .returned (.tuple #[v, .bool c]) ∧ (c = true → ContAt w' k s v) ∧ Below w.heap.size w w'

theorem bl_nil {s : ByteArray} : (bl s).length = 0 ↔ s = ⟨#[]⟩ := by
  constructor
  · intro h
    apply ByteArray.ext
    have := List.eq_nil_of_length_eq_zero h
    simpa using this
  · rintro rfl; rfl

theorem isEmpty_no {s : ByteArray} (h : ¬ s = ⟨#[]⟩) : s.toList.isEmpty = false := by
  cases hl : s.toList.isEmpty with
  | false => rfl
  | true =>
    exfalso
    apply h
    apply bl_nil.1
    rw [Lib.toList_data s] at hl
    exact List.length_eq_zero_iff.2 (List.isEmpty_iff.1 hl)

theorem contentOf_any (k : Int) (s : ByteArray) (hs : s.size ≤ 1048576) (w : World) :
    Calls Tryz.prog 113 #[.int .i64 k, .string s] w fun e w' => CoPost w k s (contOk k (bl s)) e w' := by
  obtain ⟨c, hc⟩ : ∃ c, contOk k (bl s) = c := ⟨_, rfl⟩
  rw [hc]
  have HC := hide hc
  clear hc
  by_cases k1 : k = 1
  · subst k1
    have hcv : c = decide (s = ⟨#[]⟩) := by
      rw [← HC.out]
      simp only [contOk, if_pos, ← bl_nil]
    by_cases h0 : s = ⟨#[]⟩
    · subst h0
      obtain rfl : c = true := by rw [hcv]; simp
      clear hcv
      go_enter Tryz.func113, Tryz.ntmps113
      go_wp2_with fail
      refine bodyPost_ret (v := .tuple #[.iface 193 (.agg #[]), .bool true]) (by simp [results, Tryz.results113, go_sem]) rfl ?_
      exact ⟨_, rfl, fun _ => Or.inl ⟨rfl, rfl, rfl⟩, Below.refl _ _⟩
    · obtain rfl : c = false := by rw [hcv]; simp [h0]
      have h1 : s.toList.isEmpty = false := isEmpty_no h0
      clear hcv
      go_enter Tryz.func113, Tryz.ntmps113
      go_wp2_with fail
      refine bodyPost_ret (v := .tuple #[.iface 193 (.agg #[]), .bool false]) (by simp [results, Tryz.results113, go_sem]) rfl ?_
      exact ⟨_, rfl, (fun h => by cases h), Below.refl _ _⟩
  · have g1 : (k == 1) = false := by simpa using k1
    by_cases k2 : k = 2
    · subst k2
      have hcv : confOk (confZ (bl s)) = c := by rw [← HC.out]; simp [contOk]
      have HCV := hide hcv
      have hlen : c = true → (bl s).length = s.size := fun _ => bl_length s
      clear hcv
      go_enter Tryz.func113, Tryz.ntmps113
      go_wp2_with fail
      refine (implReadConf_any s hs _).mono ?_
      rintro e w1 ⟨g, cap, rfl, ho, hb⟩
      cases c with
      | false =>
        rw [rdConf_no HCV.out]
        clear ho
        go_wp2_with fail
        refine bodyPost_ret (v := .tuple #[.iface 194 (.slice (some ⟨g, 0, none⟩) 0 cap), .bool false]) (by simp [results, Tryz.results113, go_sem]) rfl ?_
        exact ⟨_, rfl, (fun h => by cases h), hb⟩
      | true =>
        rw [rdConf_yes HCV.out] at ho ⊢
        obtain ⟨_, _, he, hat⟩ := intsAt_of_own ho (confZ_wf _)
        cases he
        have HAT := hide hat
        clear ho hat
        go_wp2_with fail
        refine bodyPost_ret (v := .tuple #[.iface 194 (.slice (some ⟨g, 0, none⟩) (confZ (bl s)).length cap), .bool true]) (by simp [results, Tryz.results113, go_sem]) rfl ?_
        refine ⟨_, rfl, fun _ => Or.inr (Or.inl ⟨rfl, HCV.out, g, cap, ?_, ?_⟩), hb⟩
        · simp [confZ_length]
        · have := HAT.out
          simpa [confZ_length] using this
    · have g2 : (k == 2) = false := by simpa using k2
      by_cases k3 : k = 3
      · subst k3
        have hcv : c = decide (s.size ≤ 120) := by
          rw [← HC.out]
          simp [contOk]
        by_cases h0 : s.size ≤ 120
        · obtain rfl : c = true := by rw [hcv]; simpa using h0
          have h1 : (s.size : Int) ≤ 120 := by omega
          clear hcv
          go_enter Tryz.func113, Tryz.ntmps113
          go_wp2_with fail
          refine bodyPost_ret (v := .tuple #[.iface 195 (.string s), .bool true]) (by simp [results, Tryz.results113, go_sem]) rfl ?_
          exact ⟨_, rfl, fun _ => Or.inr (Or.inr ⟨rfl, h0, rfl⟩), Below.refl _ _⟩
        · obtain rfl : c = false := by rw [hcv]; simpa using h0
          have h1 : decide ((s.size : Int) ≤ 120) = false := by simp; omega
          clear hcv
          go_enter Tryz.func113, Tryz.ntmps113
          go_wp2_with fail
          refine bodyPost_ret (v := .tuple #[.iface 195 (.string s), .bool false]) (by simp [results, Tryz.results113, go_sem]) rfl ?_
          exact ⟨_, rfl, (fun h => by cases h), Below.refl _ _⟩
      · have g3 : (k == 3) = false := by simpa using k3
        obtain rfl : c = false := by rw [← HC.out]; simp [contOk, k1, k2, k3]
        go_enter Tryz.func113, Tryz.ntmps113
        go_wp2_with fail
        refine bodyPost_ret (v := .tuple #[.iface 193 (.agg #[]), .bool false]) (by simp [results, Tryz.results113, go_sem]) rfl ?_
        exact ⟨_, rfl, (fun h => by cases h), Below.refl _ _⟩

set_option maxHeartbeats 1000000 in
theorem implEntryOk_any (e : EntV) (hs : e.data.size ≤ 1048576) (w : World) :
    Calls Tryz.prog 130 #[eval e] w fun r w' => r = .returned (.bool e.ok) ∧ Below w.heap.size w w' := by
  obtain ⟨t, k, s⟩ := e
  simp only [eval, EntV.ok, entryOk] at *
  have HB0 := hide ((Below.refl w.heap.size w).alloc (Nat.le_refl _) (.cells #[.int .i64 t, .int .i64 k, .string s] 111))
  obtain ⟨c, hc⟩ : ∃ c, contOk k (bl s) = c := ⟨_, rfl⟩
  rw [hc]
  have HC := hide hc
  clear hc
  go_enter Tryz.func130, Tryz.ntmps130
  go_wp2_with fail
  refine (contentOf_any k s hs _).mono ?_
  rw [HC.out]
  rintro r w1 ⟨v, rfl, -, hb1⟩
  have c0 : w1.cell? ⟨w.heap.size, 0, none⟩ = some (.int .i64 t) := (hb1.cell (by simp)).trans (by simp)
  have HB1 := hide (HB0.out.trans (hb1.mono (by simp)))
  clear hb1
  cases c with
  | false =>
    go_wp2_with fail
    go_ret
    exact ⟨rfl, HB1.out⟩
  | true =>
    go_wp2_with fail
    refine (within_any _ _ _ _).mono ?_
    rintro r w2 ⟨rfl, rfl⟩
    go_wp2_with fail
    go_ret
    exact ⟨by rw [Bool.true_and]; rfl, HB1.out⟩

set_option maxHeartbeats 1000000 in
theorem specEntryOk_any (e : EntV) (hs : e.data.size ≤ 1048576) (w : World) :
    Calls Tryz.prog 64 #[eval e] w fun r w' => r = .returned (.bool e.ok) ∧ Below w.heap.size w w' := by
  obtain ⟨t, k, s⟩ := e
  simp only [eval, EntV.ok, entryOk] at *
  have HB0 := hide ((Below.refl w.heap.size w).alloc (Nat.le_refl _) (.cells #[.int .i64 t, .int .i64 k, .string s] 111))
  obtain ⟨c, hc⟩ : ∃ c, contOk k (bl s) = c := ⟨_, rfl⟩
  rw [hc]
  have HC := hide hc
  clear hc
  by_cases ht : 0 ≤ t ∧ t ≤ 100000
  · have hT : termOk t = true := by simp [termOk, ht]
    obtain ⟨ht0, ht1⟩ := ht
    rw [hT, Bool.and_true]
    clear hT
    by_cases k1 : k = 1
    · subst k1
      have hcv : c = decide (s = ⟨#[]⟩) := by
        rw [← HC.out]
        simp only [contOk, if_pos, ← bl_nil]
      by_cases h0 : s = ⟨#[]⟩
      · subst h0
        obtain rfl : c = true := by rw [hcv]; simp
        clear hcv
        go_enter Tryz.func64, Tryz.ntmps64
        go_wp2_with (go_at_call 37; refine (l01In_yes _ _ _ ht0 ht1 _).mono ?_; rintro e w' ⟨rfl, rfl⟩)
        go_ret
        exact ⟨rfl, HB0.out⟩
      · obtain rfl : c = false := by rw [hcv]; simp [h0]
        have h1 : s.toList.isEmpty = false := isEmpty_no h0
        clear hcv
        go_enter Tryz.func64, Tryz.ntmps64
        go_wp2_with (go_at_call 37; refine (l01In_yes _ _ _ ht0 ht1 _).mono ?_; rintro e w' ⟨rfl, rfl⟩)
        go_ret
        exact ⟨rfl, HB0.out⟩
    · have g1 : (k == 1) = false := by simpa using k1
      by_cases k2 : k = 2
      · subst k2
        have hcv : confOk (confZ (bl s)) = c := by rw [← HC.out]; simp [contOk]
        have HCV := hide (show (rdConf (bl s)).2 = c by unfold rdConf; rw [hcv]; cases c <;> rfl)
        clear hcv
        go_enter Tryz.func64, Tryz.ntmps64
        go_wp2_with (go_at_call 37; refine (l01In_yes _ _ _ ht0 ht1 _).mono ?_; rintro e w' ⟨rfl, rfl⟩)
        refine (specReadConf_any s hs _).mono ?_
        unfold RcPost
        rw [HCV.out]
        rintro e w1 ⟨g, cap, rfl, ho, hb⟩
        clear ho
        go_wp2_with fail
        go_ret
        exact ⟨rfl, HB0.out.trans (hb.mono (by simp))⟩
      · have g2 : (k == 2) = false := by simpa using k2
        by_cases k3 : k = 3
        · subst k3
          have hcv : c = decide (s.size ≤ 120) := by
            rw [← HC.out]
            simp [contOk]
          by_cases h0 : s.size ≤ 120
          · obtain rfl : c = true := by rw [hcv]; simpa using h0
            have h1 : (s.size : Int) ≤ 120 := by omega
            clear hcv
            go_enter Tryz.func64, Tryz.ntmps64
            go_wp2_with (go_at_call 37; refine (l01In_yes _ _ _ ht0 ht1 _).mono ?_; rintro e w' ⟨rfl, rfl⟩)
            go_ret
            exact ⟨rfl, HB0.out⟩
          · obtain rfl : c = false := by rw [hcv]; simpa using h0
            have h1 : decide ((s.size : Int) ≤ 120) = false := by simp; omega
            clear hcv
            go_enter Tryz.func64, Tryz.ntmps64
            go_wp2_with (go_at_call 37; refine (l01In_yes _ _ _ ht0 ht1 _).mono ?_; rintro e w' ⟨rfl, rfl⟩)
            go_ret
            exact ⟨rfl, HB0.out⟩
        · have g3 : (k == 3) = false := by simpa using k3
          obtain rfl : c = false := by rw [← HC.out]; simp [contOk, k1, k2, k3]
          go_enter Tryz.func64, Tryz.ntmps64
          go_wp2_with (go_at_call 37; refine (l01In_yes _ _ _ ht0 ht1 _).mono ?_; rintro e w' ⟨rfl, rfl⟩)
          go_ret
          exact ⟨rfl, HB0.out⟩
  · have hT : termOk t = false := by simp [termOk]; omega
    rw [hT, Bool.and_false]
    go_enter Tryz.func64, Tryz.ntmps64
    go_wp2_with (go_at_call 37; refine (l01In_no _ _ _ (by omega) _).mono ?_; rintro e w' ⟨rfl, rfl⟩)
    go_ret
    exact ⟨rfl, HB0.out⟩

end Go.Proofs.YthbgklmnmoclhaaGreatDoor

namespace Go.Proofs.YthbgklmnmoclhaaGreatDoor
open Go.RowKit Go.Deep Go.ChangeShapes Go.WideShapes P1 P9 K
set_option linter.unusedVariables false
set_option linter.unusedSimpArgs false

def ecells (e : EntV) : List Value := [.int .i64 e.term, .int .i64 e.kind, .string e.data]
def EntWide (e : EntV) : Prop := e.data.size ≤ maxLen ∧ (Lit.int .i64 e.term).wf = true ∧ (Lit.int .i64 e.kind).wf = true

section
variable {H : Type} {enc : TypeId × Value → H} {P : Program} {w : World} {base : Nat} {spare : Nat → Bool} {held : Bool}

/-- One struct of two numbers and a text. -/
theorem entry_of_trod {e tS tI : TypeId} {f0 f1 f2 : Field} {fuel : Nat} {cs : List Value} {x : DataW H × List MemPlace} (he : P.underlying e = some (.struct #[f0, f1, f2]))
    (hS : P.underlying tS = some .string) (hI : P.underlying tI = some (.int .i64)) (t0 : f0.type = tI) (t1 : f1.type = tI) (t2 : f2.type = tS) (o0 : f0.offset = 0) (o1 : f1.offset = 1) (o2 : f2.offset = 2)
    (ce : P.cellsOf e = 3) (cS : P.cellsOf tS = 1) (cI : P.cellsOf tI = 1) (h : DataW.trod enc P w base spare held fuel e cs = some x) :
    ∃ f : EntV, cs = ecells f ∧ EntWide f := by
  obtain ⟨xs, n, _, _, hlen, hxl, hf⟩ := DataW.trod_struct he h
  rw [ce] at hlen
  match xs, hxl, cs, hlen with
  | [y0, y1, y2], _, [v0, v1, v2], _ =>
    have g0 := hf 0 f0 rfl
    have g1 := hf 1 f1 rfl
    have g2 := hf 2 f2 rfl
    simp [o0, o1, o2, t0, t1, t2, cS, cI] at g0 g1 g2
    obtain ⟨k0, e0, _, m0⟩ := DataW.trod_int hI g0
    obtain ⟨k1, e1, _, m1⟩ := DataW.trod_int hI g1
    obtain ⟨s2, e2, _, m2⟩ := DataW.trod_string hS g2
    cases e0; cases e1; cases e2
    exact ⟨⟨k0, k1, s2⟩, rfl, m2, m0, m1⟩
end

/-- What is left of a bound behind an entry. -/
def szE (e : EntV) (left : Int) : Int := if left - e.data.size < 0 then -1 else left - e.data.size

set_option maxHeartbeats 1000000 in
theorem eqEntry_any (e : EntV) (w : World) :
    Calls Tryz.prog 85 #[eval e, eval e] w fun r w' => r = .returned (.bool true) ∧ Below w.heap.size w w' := by
  obtain ⟨t, k, s⟩ := e
  simp only [eval]
  go_enter Tryz.func85, Tryz.ntmps85
  go_wp2_with fail
  all_goals first | go_quiet (fail) | skip
  go_wp2_with fail
  go_ret
  exact ⟨rfl, ((Below.refl _ _).alloc (Nat.le_refl _) _).alloc (by simp) _⟩

end Go.Proofs.YthbgklmnmoclhaaGreatDoor
