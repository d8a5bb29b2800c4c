/-
  Draws of chapter 3: a name out of eight; a right disk.
-/
import Derived.Test.YtgimbffogmhbgaaDraw3
import Derived.Test.YtgimbffogmhbgaaWalk3v
import Derived.Test.YtgimbffogmhbgaaWalk3r
import Derived.Test.YtgimbffogmhbgaaPlain8
namespace Go.Proofs.Ytgimbffogmhbgaa
open Go.RowKit P5 K
set_option linter.unusedVariables false
set_option linter.unusedSimpArgs false

theorem infoSt : (Try.prog.info? 9).map (·.size) = some 1 := by kernel_rfl

set_option maxHeartbeats 1000000 in
theorem l01Pick_any (B p : Nat) (a : Option Addr) (len cap : Nat) (g k : Nat) (ns : List (List UInt8)) (w : World) (hc : CurAt B w p a len cap) (h0 : 0 < k) (h1 : k ≤ 1000) (hgp : g ≠ p) (hns : ∀ j, j < k → ∃ l, ns[j]? = some l ∧ w.cell? ⟨g, j, none⟩ = some (.string ⟨l.toArray⟩)) :
    Calls Try.prog 54 #[.pointer (some ⟨p, 0, none⟩), .slice (some ⟨g, 0, none⟩) k k] w fun e w' => ∃ l : List UInt8, l ∈ ns ∧ e = .returned (.string ⟨l.toArray⟩) ∧ CurAt B w' p a len cap ∧ w.grownBy w' (some p) := by
  have HC := hide hc
  have HNS := hide hns
  clear hc hns
  go_enter Try.func54, Try.ntmps54
  go_wp2_with fail
  refine (l01Below_any B p a len cap k h0 (by omega) _ HC.out).mono ?_
  rintro e w1 ⟨x, hx, rfl, hc1, hg1⟩
  obtain ⟨l, hl, hcell⟩ := HNS.out x hx
  have c1 := hg1.cell hcell (fun e => hgp (Option.some.inj e))
  have hidx : ∀ wx, (Instr.indexAt 77 (.slice (some ⟨g, 0, none⟩) k k) (.int .i64 (x : Int))).run Try.prog wx = .ok (.pointer (some ⟨g, x, none⟩)) wx := fun wx => by
    have := run_indexAt_slice wx 77 9 1 Try.underlying77 infoSt g 0 k k x hx
    rwa [Nat.zero_add, Nat.mul_one] at this
  have HM := hide (List.mem_of_getElem? hl)
  have HC1 := hide hc1
  have HG1 := hide hg1
  clear hl hcell hc1 hg1
  go_wp2_with fail
  go_ret
  exact ⟨l, HM.out, rfl, HC1.out, HG1.out⟩

def names8 : List (List UInt8) := [[97], [98], [99], [106, 48], [106, 49], [106, 43], [115, 48], [115, 43]]
theorem names8_ok : ∀ l ∈ names8, nameOk l = true := by decide

set_option maxHeartbeats 1000000 in
theorem l03Named_any (B p : Nat) (a : Option Addr) (len cap : Nat) (w : World) (hB : B ≤ w.heap.size) (hc : CurAt B w p a len cap) :
    Calls Try.prog 34 #[.pointer (some ⟨p, 0, none⟩)] w fun e w' => ∃ l : List UInt8, nameOk l = true ∧ e = .returned (.string ⟨l.toArray⟩) ∧ CurAt B w' p a len cap ∧ w.grownBy w' (some p) := by
  have hlt := hc.lt
  have hc1 : CurAt B (w.alloc (.cells #[.string ⟨#[97]⟩, .string ⟨#[98]⟩, .string ⟨#[99]⟩, .string ⟨#[106, 48]⟩, .string ⟨#[106, 49]⟩, .string ⟨#[106, 43]⟩, .string ⟨#[115, 48]⟩, .string ⟨#[115, 43]⟩] 9)) p a len cap := hc.kept ((Below.refl _ _).alloc hB _) (Below.heap_alloc w _ p hlt)
  have HC := hide hc1
  clear hc hc1
  have hns : ∀ j, j < 8 → ∃ l, names8[j]? = some l ∧ (w.alloc (.cells #[.string ⟨#[97]⟩, .string ⟨#[98]⟩, .string ⟨#[99]⟩, .string ⟨#[106, 48]⟩, .string ⟨#[106, 49]⟩, .string ⟨#[106, 43]⟩, .string ⟨#[115, 48]⟩, .string ⟨#[115, 43]⟩] 9)).cell? ⟨w.heap.size, j, none⟩ = some (.string ⟨l.toArray⟩) := by
    intro j hj
    have h := heap_alloc_new w (.cells #[.string ⟨#[97]⟩, .string ⟨#[98]⟩, .string ⟨#[99]⟩, .string ⟨#[106, 48]⟩, .string ⟨#[106, 49]⟩, .string ⟨#[106, 43]⟩, .string ⟨#[115, 48]⟩, .string ⟨#[115, 43]⟩] 9)
    have hc := cell_of_row _ _ j _ _ _ h
    match j, hj with
    | 0, _ => exact ⟨_, rfl, hc⟩
    | 1, _ => exact ⟨_, rfl, hc⟩
    | 2, _ => exact ⟨_, rfl, hc⟩
    | 3, _ => exact ⟨_, rfl, hc⟩
    | 4, _ => exact ⟨_, rfl, hc⟩
    | 5, _ => exact ⟨_, rfl, hc⟩
    | 6, _ => exact ⟨_, rfl, hc⟩
    | 7, _ => exact ⟨_, rfl, hc⟩
  have HNS := hide hns
  clear hns
  go_enter Try.func34, Try.ntmps34
  go_wp2_with fail
  refine (l01Pick_any B p a len cap w.heap.size 8 names8 _ HC.out (by omega) (by omega) (by omega) HNS.out).mono ?_
  rintro e w1 ⟨l, hl, rfl, hc1, hg1⟩
  have HL := hide (names8_ok l hl)
  clear hl
  go_wp2_with fail
  go_ret
  exact ⟨l, HL.out, rfl, hc1, grownBy_trans (World.grownBy_alloc w _ _) hg1⟩

end Go.Proofs.Ytgimbffogmhbgaa
