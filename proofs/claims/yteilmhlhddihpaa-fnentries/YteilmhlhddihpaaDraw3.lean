/-
  Draws: a new cursor; the drawn text of FnTurned; places.
-/
import Derived.Test.YteilmhlhddihpaaDraw2
namespace Go.Proofs.Yteilmhlhddihpaa
open Go.RowKit P1 K
set_option linter.unusedVariables false

theorem infoInt : (Try.prog.info? 3).map (fun i => (i.zero, i.size, i.bytes)) = some (some (.int .i64 0), 1, 8) := by kernel_rfl

/-- What is owned from a block on is owned from an earlier one on. -/
theorem own_mono {w : World} {b b' : Nat} {e : TypeId} {size : Nat} {v : Value} {n : Nat} {xs : List Value} (h : w.ownsRow b e size v n xs) (hb : b' ≤ b) : w.ownsRow b' e size v n xs :=
  ⟨h.1, h.2.imp id fun ⟨g, cap, cur, h1, h2, h3⟩ => ⟨g, cap, cur, h1, Nat.le_trans hb h2, h3⟩⟩

set_option maxHeartbeats 1000000 in
theorem l01New_any (B : Nat) (a : Option Addr) (len cap : Nat) (w : World) (hlen : len ≤ 1048576) (hB : B ≤ w.heap.size) (hcode : CodeAt B w a len) :
    Calls Try.prog 16 #[.slice a len cap] w fun e w' => e = .returned (.pointer (some ⟨w.heap.size, 0, none⟩)) ∧ CurAt B w' w.heap.size a len cap ∧ Below w.heap.size w w' := by
  have HC := hide hcode
  clear hcode
  have ha := and30
  go_enter Try.func16, Try.ntmps16
  go_wp2_with fail
  go_loop [3, 4] (fun h i => ∃ (k : Nat) (x : Int), i = .int .i64 (k : Int) ∧ h = .int .i64 x ∧ k ≤ len) (fun _ i => len - (intOf i).toNat)
  case atStart => exact ⟨0, _, rfl, rfl, Nat.zero_le _⟩
  case round =>
    obtain ⟨k, x, rfl, rfl, hk⟩ := hrel
    by_cases hlt : k < len
    · by_cases h4 : k < 4000
      · have g1 : decide ((k : Int) < (len : Int)) = true := by simp; omega
        have g2 : decide ((k : Int) < 4000) = true := by simp; omega
        obtain ⟨y, b, rfl, hx1, hx2⟩ := HC.out k hlt
        have hbt := b.toNat_lt
        go_wp2_with fail
        go_round
        case rel => exact ⟨k + 1, _, by go_num, rfl, by omega⟩
        case measure => simp [intOf]; omega
      · have g1 : decide ((k : Int) < (len : Int)) = true := by simp; omega
        have g2 : decide ((k : Int) < 4000) = false := by simp; omega
        go_wp2_with fail
        go_ret
        exact ⟨rfl, ⟨hB, hlen, HC.out.below ((Below.refl _ _).alloc hB _), 0, x, Nat.zero_le _, heap_alloc_new w _⟩, (Below.refl _ _).alloc (Nat.le_refl _) _⟩
    · have g1 : decide ((k : Int) < (len : Int)) = false := by simp; omega
      go_wp2_with fail
      go_ret
      exact ⟨rfl, ⟨hB, hlen, HC.out.below ((Below.refl _ _).alloc hB _), 0, x, Nat.zero_le _, heap_alloc_new w _⟩, (Below.refl _ _).alloc (Nat.le_refl _) _⟩

/-- Whole numbers as cells. -/
def I64 (l : List Nat) : List Value := l.map (fun n : Nat => Value.int .i64 (n : Int))

theorem I64_snoc (l : List Nat) (n : Nat) : I64 l ++ [.int .i64 (n : Int)] = I64 (l ++ [n]) := by simp [I64]

theorem big_no (a : Option Addr) (len cap : Nat) (h : len ≤ 1048576) (w : World) :
    Calls Try.prog 4 #[.slice a len cap] w fun e w' => e = .returned (.bool false) ∧ w = w' := by
  have g : decide ((1048576 : Int) < (len : Int)) = false := by simp; omega
  go_enter Try.func4, Try.ntmps4
  go_wp2_with fail
  go_ret
  exact ⟨rfl, rfl⟩

theorem big_yes (a : Option Addr) (len cap : Nat) (h : 1048576 < len) (w : World) :
    Calls Try.prog 4 #[.slice a len cap] w fun e w' => e = .returned (.bool true) ∧ w = w' := by
  have g : decide ((1048576 : Int) < (len : Int)) = true := by simp; omega
  go_enter Try.func4, Try.ntmps4
  go_wp2_with fail
  go_ret
  exact ⟨rfl, rfl⟩

end Go.Proofs.Yteilmhlhddihpaa
