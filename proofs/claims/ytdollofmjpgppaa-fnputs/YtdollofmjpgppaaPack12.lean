/-
  Contracts of library functions, laid at this translation by the guide's command, in plain words.
  strings.Clone, out of the shelf's contract of what it calls.
  Walks of chapter 5: what an entry says: contentOf, kindOf, data.
  Walks of chapter 5: ReadConf of the specification.
-/
import Derived.Shelf.LaysM
import Derived.Shelf.Strconv.Clone
import Derived.Test.YtdollofmjpgppaaProg
import Derived.Test.YtdollofmjpgppaaPack8
import Derived.Test.YtdollofmjpgppaaWalk5b
namespace Go.Proofs
open Go.Shelf
def Try.laysM316_ren : Go.Shelf.Ren := ⟨fun | 316 => 47 | n => n, fun | 9 => 9 | 3 => 3 | 4 => 4 | 37 => 22 | 0 => 0 | 127 => 98 | 5 => 5 | n => n, fun | n => n⟩
theorem Try.laysM316 : Go.Proofs.LaysM.n316 Try.prog Try.laysM316_ren := {
  mixed := by kernel_rfl
  f316 := Try.func47.trans (congrArg some (by kernel_rfl))
  t0 := Try.underlying0
  a0 := Try.isAgg0
  z0 := Try.sizeOf0
  v0 := Try.zeroValue0
  t3 := Try.underlying3
  a3 := Try.isAgg3
  z3 := Try.sizeOf3
  v3 := Try.zeroValue3
  t4 := Try.underlying4
  a4 := Try.isAgg4
  z4 := Try.sizeOf4
  v4 := Try.zeroValue4
  t9 := Try.underlying9
  a9 := Try.isAgg9
  z9 := Try.sizeOf9
  v9 := Try.zeroValue9
  t37 := Try.underlying22
  a37 := Try.isAgg22
  z37 := Try.sizeOf22
  v37 := Try.zeroValue22
  t127 := Try.underlying98
  a127 := Try.isAgg98
  z127 := Try.sizeOf98
  v127 := Try.zeroValue98
  t5 := Try.underlying5
  a5 := Try.isAgg5
  z5 := Try.sizeOf5
  v5 := Try.zeroValue5
  i0 := by kernel_rfl
  i3 := by kernel_rfl
  i4 := by kernel_rfl
  i5 := by kernel_rfl
  i9 := by kernel_rfl
  i37 := by kernel_rfl
  i127 := by kernel_rfl }
open Go.RowKit in
theorem Try.stringslite_Clone (s : ByteArray) (w : World) (hlim : s.size ≤ 281474976710656) :
    Calls Try.prog 47 #[.string s] w fun e w' => e = .returned (.string s) ∧ Below w.heap.size w w' := Any.stringslite_Clone Try.laysM316 s w hlim
end Go.Proofs

namespace Go.Proofs.Ytdollofmjpgppaa
open Go.RowKit P1 K

theorem stringsClone_any (s : ByteArray) (hs : s.size ≤ 281474976710656) (w : World) :
    Calls Try.prog 35 #[.string s] w fun e w' => e = .returned (.string s) ∧ Below w.heap.size w w' := by
  go_enter Try.func35, Try.ntmps35
  go_wp2_with (go_at_call 47; refine (Try.stringslite_Clone s _ hs).mono ?_; rintro e w1 ⟨rfl, hb1⟩)
  go_ret
  exact ⟨rfl, hb1⟩

end Go.Proofs.Ytdollofmjpgppaa

namespace Go.Proofs.Ytdollofmjpgppaa
open Go.RowKit P1 P9 K
set_option linter.unusedVariables false
set_option linter.unusedSimpArgs false

/-- What an entry of a kind says, as a value of the interface. -/
def ContAt (w : World) (k : Int) (s : ByteArray) (v : Value) : Prop :=
  (k = 1 ∧ s = ⟨#[]⟩ ∧ v = .iface 95 (.agg #[])) ∨
  (k = 2 ∧ confOk (confZ (bl s)) = true ∧ ∃ g cap, v = .iface 96 (.slice (some ⟨g, 0, none⟩) s.size cap) ∧ IntsAt w (some ⟨g, 0, none⟩) s.size cap (confZ (bl s))) ∨
  (k = 3 ∧ s.size ≤ 120 ∧ v = .iface 97 (.string s))

theorem ContAt.below {w w' : World} {k : Int} {s : ByteArray} {v : Value} (h : ContAt w k s v) (hb : Below w.heap.size w w') : ContAt w' k s v := by
  rcases h with h | ⟨h1, h2, g, cap, h3, h4⟩ | h
  · exact Or.inl h
  · exact Or.inr (Or.inl ⟨h1, h2, g, cap, h3, h4.below hb⟩)
  · exact Or.inr (Or.inr h)


theorem ta11 (w : World) (v : Value) : (Instr.typeAssert (.iface 95 v) 86 95 true).run Try.prog w = .ok (.tuple #[v, .bool true]) w := by kernel_rfl
theorem ta21 (w : World) (v : Value) : (Instr.typeAssert (.iface 96 v) 86 95 true).run Try.prog w = .ok (.tuple #[.agg #[], .bool false]) w := by kernel_rfl
theorem ta22 (w : World) (v : Value) : (Instr.typeAssert (.iface 96 v) 86 96 true).run Try.prog w = .ok (.tuple #[v, .bool true]) w := by kernel_rfl
theorem ta31 (w : World) (v : Value) : (Instr.typeAssert (.iface 97 v) 86 95 true).run Try.prog w = .ok (.tuple #[.agg #[], .bool false]) w := by kernel_rfl
theorem ta32 (w : World) (v : Value) : (Instr.typeAssert (.iface 97 v) 86 96 true).run Try.prog w = .ok (.tuple #[.slice none 0 0, .bool false]) w := by kernel_rfl
theorem ta33 (w : World) (v : Value) : (Instr.typeAssert (.iface 97 v) 86 97 true).run Try.prog w = .ok (.tuple #[v, .bool true]) w := by kernel_rfl

end Go.Proofs.Ytdollofmjpgppaa

namespace Go.Proofs.Ytdollofmjpgppaa
open Go.RowKit P1 P9 K
set_option linter.unusedVariables false
set_option linter.unusedSimpArgs false

set_option maxHeartbeats 1000000 in
theorem specReadConf_any (s : ByteArray) (hs : s.size ≤ 1048576) (w : World) :
    Calls Try.prog 36 #[.string s] w fun e w' => RcPost w (rdConf (bl s)) e w' := by
  obtain ⟨R, hR⟩ : ∃ R, rdConf (bl s) = R := ⟨_, rfl⟩
  rw [hR]
  have HR := hide hR
  clear hR
  go_enter Try.func36, Try.ntmps36
  go_wp2_with fail
  go_loopw [4, 5] (fun v i wr => ∃ (j : Nat), i = .int .i64 (j : Int) ∧ j ≤ s.size ∧ j ≤ 5 ∧ RcRel w s j v wr) (fun _ i _ => s.size - (intOf i).toNat)
  case atStart => exact ⟨0, rfl, Nat.zero_le _, by omega, _, _, rfl, World.ownsRow_made (w := w) #[] 0 (Nat.le_refl _) (by decide) rfl, (Below.refl _ _).alloc (Nat.le_refl _) _⟩
  case round =>
    obtain ⟨j, rfl, hj, hj5, g, cap, rfl, hown, hbel⟩ := hrel
    have hsz := hbel.size
    by_cases hlt : j < s.size
    · have j0 : (j : Int) < (s.size : Int) := by omega
      by_cases h5 : j ≤ 4
      · have g5 : (j : Int) ≤ 4 := by omega
        have hidx : ∀ wx, (Instr.index 9 (.string s) (.int .i64 (j : Int))).run Try.prog wx = .ok (.int .u8 (s[j].toNat : Int)) wx := fun wx => idx_any s .i64 j hlt wx
        have hb0 : (s[j].toNat : Int) < 256 := by have := s[j].toNat_lt; omega
        have hb1 : 0 ≤ (s[j].toNat : Int) := by omega
        go_wp2_with (at_builtin; refine wpList_push rfl _ _ 51 rfl Try.underlying51 infoIz rfl rfl hown rfl rfl hbel hsz (by unfold maxLen; omega) (by omega) ?_)
        intro v' w1 hown' hbel' _
        have R := RcRel.next hlt hown' hbel'
        clear hown' hbel' hown hbel
        go_wp2
        go_roundw
        case rel => exact ⟨j + 1, by go_num, by omega, by omega, R⟩
        case measure => simp [intOf]; omega
      · have g5 : ¬ (j : Int) ≤ 4 := by omega
        have hjs : ¬ ((j : Int) = (s.size : Int)) := by omega
        have gjs : decide (j = s.size) = false := by simp; omega
        obtain rfl : R = ([], false) := HR.out.symm.trans (rdConf_no (rdConf_long (by rw [bl_length]; omega)))
        clear hown
        go_wp2_with fail
        refine bodyPost_ret (v := .tuple #[.slice (some ⟨wr.heap.size, 0, none⟩) 0 0, .bool false]) (by simp [results, Try.results36, go_sem]) rfl ?_
        exact ⟨_, _, rfl, own_base (World.ownsRow_made (w := wr) #[] 0 (Nat.le_refl _) (by decide) rfl) hsz, hbel.alloc hsz _⟩
    · have hjn : j = s.size := by omega
      subst hjn
      rw [List.take_of_length_le (by rw [bl_length]; exact Nat.le_refl _)] at hown
      obtain ⟨_, _, he, hat⟩ := intsAt_of_own hown (confZ_wf _)
      cases he
      have HAT := hide hat
      have HO := hide hown
      clear hat hown
      cases hok : confOk (confZ (bl s)) with
      | false =>
        obtain rfl : R = ([], false) := HR.out.symm.trans (rdConf_no hok)
        have HOK := hide hok
        clear hok
        go_wp2_with (go_at_call 37; refine (specConfOk_any _ _ _ _ _ HAT.out).mono ?_; rw [HOK.out]; rintro e w2 ⟨rfl, hdr⟩)
        have hb2 := hbel.trans (hdr.below.mono hsz)
        have hs2 := hb2.size
        refine bodyPost_ret (v := .tuple #[.slice (some ⟨w2.heap.size, 0, none⟩) 0 0, .bool false]) (by simp [results, Try.results36, go_sem]) rfl ?_
        exact ⟨_, _, rfl, own_base (World.ownsRow_made (w := w2) #[] 0 (Nat.le_refl _) (by decide) rfl) hs2, hb2.alloc hs2 _⟩
      | true =>
        obtain rfl : R = (confZ (bl s), true) := HR.out.symm.trans (rdConf_yes hok)
        have HOK := hide hok
        clear hok
        go_wp2_with (go_at_call 37; refine (specConfOk_any _ _ _ _ _ HAT.out).mono ?_; rw [HOK.out]; rintro e w2 ⟨rfl, hdr⟩)
        refine bodyPost_ret (v := .tuple #[.slice (some ⟨g, 0, none⟩) s.size cap, .bool true]) (by simp [results, Try.results36, go_sem]) rfl ?_
        refine ⟨g, cap, ?_, ?_, hbel.trans (hdr.below.mono hsz)⟩
        · simp [confZ_length]
        · have := own_below HO.out hdr.below
          simpa [confZ_length] using this

end Go.Proofs.Ytdollofmjpgppaa
