/-
  strings.Clone, out of the shelf's contract of what it calls.
  Walks of chapter 5: what an entry says: contentOf, kindOf, data.
  Walks of chapter 5: ReadConf of the specification.
-/
import Derived.Test.YthbgklmnmoclhaaDoorPack1
import Derived.Test.YthbgklmnmoclhaaDoorShelf
import Derived.Test.YthbgklmnmoclhaaDoorPack9
namespace Go.Proofs.YthbgklmnmoclhaaDoor
open Go.RowKit P1 K

theorem stringsClone_any (s : ByteArray) (hs : s.size ≤ 281474976710656) (w : World) :
    Calls Tryd.prog 97 #[.string s] w fun e w' => e = .returned (.string s) ∧ Below w.heap.size w w' := by
  go_enter Tryd.func97, Tryd.ntmps97
  go_wp2_with (go_at_call 112; refine (Tryd.stringslite_Clone s _ hs).mono ?_; rintro e w1 ⟨rfl, hb1⟩)
  go_ret
  exact ⟨rfl, hb1⟩

end Go.Proofs.YthbgklmnmoclhaaDoor

namespace Go.Proofs.YthbgklmnmoclhaaDoor
open Go.RowKit P1 P9 K
set_option linter.unusedVariables false
set_option linter.unusedSimpArgs false

/-- What an entry of a kind says, as a value of the interface. -/
def ContAt (w : World) (k : Int) (s : ByteArray) (v : Value) : Prop :=
  (k = 1 ∧ s = ⟨#[]⟩ ∧ v = .iface 145 (.agg #[])) ∨
  (k = 2 ∧ confOk (confZ (bl s)) = true ∧ ∃ g cap, v = .iface 146 (.slice (some ⟨g, 0, none⟩) s.size cap) ∧ IntsAt w (some ⟨g, 0, none⟩) s.size cap (confZ (bl s))) ∨
  (k = 3 ∧ s.size ≤ 120 ∧ v = .iface 147 (.string s))

theorem ContAt.below {w w' : World} {k : Int} {s : ByteArray} {v : Value} (h : ContAt w k s v) (hb : Below w.heap.size w w') : ContAt w' k s v := by
  rcases h with h | ⟨h1, h2, g, cap, h3, h4⟩ | h
  · exact Or.inl h
  · exact Or.inr (Or.inl ⟨h1, h2, g, cap, h3, h4.below hb⟩)
  · exact Or.inr (Or.inr h)


theorem ta11 (w : World) (v : Value) : (Instr.typeAssert (.iface 145 v) 116 145 true).run Tryd.prog w = .ok (.tuple #[v, .bool true]) w := by kernel_rfl
theorem ta21 (w : World) (v : Value) : (Instr.typeAssert (.iface 146 v) 116 145 true).run Tryd.prog w = .ok (.tuple #[.agg #[], .bool false]) w := by kernel_rfl
theorem ta22 (w : World) (v : Value) : (Instr.typeAssert (.iface 146 v) 116 146 true).run Tryd.prog w = .ok (.tuple #[v, .bool true]) w := by kernel_rfl
theorem ta31 (w : World) (v : Value) : (Instr.typeAssert (.iface 147 v) 116 145 true).run Tryd.prog w = .ok (.tuple #[.agg #[], .bool false]) w := by kernel_rfl
theorem ta32 (w : World) (v : Value) : (Instr.typeAssert (.iface 147 v) 116 146 true).run Tryd.prog w = .ok (.tuple #[.slice none 0 0, .bool false]) w := by kernel_rfl
theorem ta33 (w : World) (v : Value) : (Instr.typeAssert (.iface 147 v) 116 147 true).run Tryd.prog w = .ok (.tuple #[v, .bool true]) w := by kernel_rfl

theorem kindOf_any (k : Int) (s : ByteArray) (v : Value) (w : World) (hc : ContAt w k s v) :
    Calls Tryd.prog 78 #[v] w fun e w' => e = .returned (.int .u8 k) ∧ w = w' := by
  rcases hc with ⟨rfl, -, rfl⟩ | ⟨rfl, -, g, cap, rfl, -⟩ | ⟨rfl, -, rfl⟩
  · have h1 := fun w => ta11 w (.agg #[])
    go_enter Tryd.func78, Tryd.ntmps78
    go_wp2
    go_ret
    exact ⟨rfl, rfl⟩
  · have h1 := fun w => ta21 w (.slice (some ⟨g, 0, none⟩) s.size cap)
    have h2 := fun w => ta22 w (.slice (some ⟨g, 0, none⟩) s.size cap)
    go_enter Tryd.func78, Tryd.ntmps78
    go_wp2
    go_ret
    exact ⟨rfl, rfl⟩
  · have h1 := fun w => ta31 w (.string s)
    have h2 := fun w => ta32 w (.string s)
    have h3 := fun w => ta33 w (.string s)
    go_enter Tryd.func78, Tryd.ntmps78
    go_wp2
    go_ret
    exact ⟨rfl, rfl⟩

theorem noData_any (w : World) :
    Calls Tryd.prog 143 #[.agg #[]] w fun e w' => e = .returned (.string ⟨#[]⟩) ∧ Below w.heap.size w w' := by
  go_enter Tryd.func143, Tryd.ntmps143
  go_wp2
  go_ret
  exact ⟨rfl, (Below.refl _ _).alloc (Nat.le_refl _) _⟩

theorem commandData_any (s : ByteArray) (hs : s.size ≤ 1048576) (w : World) :
    Calls Tryd.prog 146 #[.string s] w fun e w' => e = .returned (.string s) ∧ Below w.heap.size w w' := by
  have hs' : s.size ≤ 281474976710656 := by omega
  go_enter Tryd.func146, Tryd.ntmps146
  go_wp2_with (go_at_call 97; refine (stringsClone_any _ hs' _).mono ?_; rintro e w1 ⟨rfl, hb1⟩)
  go_ret
  exact ⟨rfl, hb1⟩

theorem confData_any (oa : Option Addr) (n cap : Nat) (zs : List Int) (w : World) (hat : IntsAt w oa n cap zs) (hok : confOk zs = true) :
    Calls Tryd.prog 144 #[.slice oa n cap] w fun e w' => e = .returned (.string ⟨(confB zs).toArray⟩) ∧ Below w.heap.size w w' := by
  have HAT := hide hat
  have HOK := hide hok
  clear hat hok
  go_enter Tryd.func144, Tryd.ntmps144
  go_wp2_with (go_at_call 145; refine (implConfText_any oa n cap zs _ HAT.out).mono ?_; rw [ctVal_yes HOK.out]; rintro e w1 ⟨rfl, hb1⟩)
  go_ret
  exact ⟨rfl, hb1⟩

end Go.Proofs.YthbgklmnmoclhaaDoor

namespace Go.Proofs.YthbgklmnmoclhaaDoor
open Go.RowKit P1 P9 K
set_option linter.unusedVariables false
set_option linter.unusedSimpArgs false

set_option maxHeartbeats 1000000 in
theorem specReadConf_any (s : ByteArray) (hs : s.size ≤ 1048576) (w : World) :
    Calls Tryd.prog 80 #[.string s] w fun e w' => RcPost w (rdConf (bl s)) e w' := by
  obtain ⟨R, hR⟩ : ∃ R, rdConf (bl s) = R := ⟨_, rfl⟩
  rw [hR]
  have HR := hide hR
  clear hR
  go_enter Tryd.func80, Tryd.ntmps80
  go_wp2_with fail
  go_loopw [4, 5] (fun v i wr => ∃ (j : Nat), i = .int .i64 (j : Int) ∧ j ≤ s.size ∧ j ≤ 5 ∧ RcRel w s j v wr) (fun _ i _ => s.size - (intOf i).toNat)
  case atStart => exact ⟨0, rfl, Nat.zero_le _, by omega, _, _, rfl, World.ownsRow_made (w := w) #[] 0 (Nat.le_refl _) (by decide) rfl, (Below.refl _ _).alloc (Nat.le_refl _) _⟩
  case round =>
    obtain ⟨j, rfl, hj, hj5, g, cap, rfl, hown, hbel⟩ := hrel
    have hsz := hbel.size
    by_cases hlt : j < s.size
    · have j0 : (j : Int) < (s.size : Int) := by omega
      by_cases h5 : j ≤ 4
      · have g5 : (j : Int) ≤ 4 := by omega
        have hidx : ∀ wx, (Instr.index 9 (.string s) (.int .i64 (j : Int))).run Tryd.prog wx = .ok (.int .u8 (s[j].toNat : Int)) wx := fun wx => idx_any s .i64 j hlt wx
        have hb0 : (s[j].toNat : Int) < 256 := by have := s[j].toNat_lt; omega
        have hb1 : 0 ≤ (s[j].toNat : Int) := by omega
        go_wp2_with (at_builtin; refine wpList_push rfl _ _ 121 rfl Tryd.underlying121 infoIz rfl rfl hown rfl rfl hbel hsz (by unfold maxLen; omega) (by omega) ?_)
        intro v' w1 hown' hbel' _
        have R := RcRel.next hlt hown' hbel'
        clear hown' hbel' hown hbel
        go_wp2
        go_roundw
        case rel => exact ⟨j + 1, by go_num, by omega, by omega, R⟩
        case measure => simp [intOf]; omega
      · have g5 : ¬ (j : Int) ≤ 4 := by omega
        have hjs : ¬ ((j : Int) = (s.size : Int)) := by omega
        have gjs : decide (j = s.size) = false := by simp; omega
        obtain rfl : R = ([], false) := HR.out.symm.trans (rdConf_no (rdConf_long (by rw [bl_length]; omega)))
        clear hown
        go_wp2_with fail
        refine bodyPost_ret (v := .tuple #[.slice (some ⟨wr.heap.size, 0, none⟩) 0 0, .bool false]) (by simp [results, Tryd.results80, go_sem]) rfl ?_
        exact ⟨_, _, rfl, own_base (World.ownsRow_made (w := wr) #[] 0 (Nat.le_refl _) (by decide) rfl) hsz, hbel.alloc hsz _⟩
    · have hjn : j = s.size := by omega
      subst hjn
      rw [List.take_of_length_le (by rw [bl_length]; exact Nat.le_refl _)] at hown
      obtain ⟨_, _, he, hat⟩ := intsAt_of_own hown (confZ_wf _)
      cases he
      have HAT := hide hat
      have HO := hide hown
      clear hat hown
      cases hok : confOk (confZ (bl s)) with
      | false =>
        obtain rfl : R = ([], false) := HR.out.symm.trans (rdConf_no hok)
        have HOK := hide hok
        clear hok
        go_wp2_with (go_at_call 95; refine (specConfOk_any _ _ _ _ _ HAT.out).mono ?_; rw [HOK.out]; rintro e w2 ⟨rfl, hdr⟩)
        have hb2 := hbel.trans (hdr.below.mono hsz)
        have hs2 := hb2.size
        refine bodyPost_ret (v := .tuple #[.slice (some ⟨w2.heap.size, 0, none⟩) 0 0, .bool false]) (by simp [results, Tryd.results80, go_sem]) rfl ?_
        exact ⟨_, _, rfl, own_base (World.ownsRow_made (w := w2) #[] 0 (Nat.le_refl _) (by decide) rfl) hs2, hb2.alloc hs2 _⟩
      | true =>
        obtain rfl : R = (confZ (bl s), true) := HR.out.symm.trans (rdConf_yes hok)
        have HOK := hide hok
        clear hok
        go_wp2_with (go_at_call 95; refine (specConfOk_any _ _ _ _ _ HAT.out).mono ?_; rw [HOK.out]; rintro e w2 ⟨rfl, hdr⟩)
        refine bodyPost_ret (v := .tuple #[.slice (some ⟨g, 0, none⟩) s.size cap, .bool true]) (by simp [results, Tryd.results80, go_sem]) rfl ?_
        refine ⟨g, cap, ?_, ?_, hbel.trans (hdr.below.mono hsz)⟩
        · simp [confZ_length]
        · have := own_below HO.out hdr.below
          simpa [confZ_length] using this

end Go.Proofs.YthbgklmnmoclhaaDoor
