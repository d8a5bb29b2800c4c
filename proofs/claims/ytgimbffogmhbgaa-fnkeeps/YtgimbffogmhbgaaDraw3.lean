/-
  Draws: a new cursor; the drawn text of FnTurned; places.
-/
import Derived.Test.YtgimbffogmhbgaaDraw2
namespace Go.Proofs.Ytgimbffogmhbgaa
open Go.RowKit P1 K
set_option linter.unusedVariables false

theorem infoInt : (Try.prog.info? 3).map (fun i => (i.zero, i.size, i.bytes)) = some (some (.int .i64 0), 1, 8) := by kernel_rfl

/-- What is owned from a block on is owned from an earlier one on. -/
theorem own_mono {w : World} {b b' : Nat} {e : TypeId} {size : Nat} {v : Value} {n : Nat} {xs : List Value} (h : w.ownsRow b e size v n xs) (hb : b' ≤ b) : w.ownsRow b' e size v n xs :=
  ⟨h.1, h.2.imp id fun ⟨g, cap, cur, h1, h2, h3⟩ => ⟨g, cap, cur, h1, Nat.le_trans hb h2, h3⟩⟩

set_option maxHeartbeats 1000000 in
theorem l01New_any (B : Nat) (a : Option Addr) (len cap : Nat) (w : World) (hlen : len ≤ 1048576) (hB : B ≤ w.heap.size) (hcode : CodeAt B w a len) :
    Calls Try.prog 30 #[.slice a len cap] w fun e w' => e = .returned (.pointer (some ⟨w.heap.size, 0, none⟩)) ∧ CurAt B w' w.heap.size a len cap ∧ Below w.heap.size w w' := by
  have HC := hide hcode
  clear hcode
  have ha := and30
  go_enter Try.func30, Try.ntmps30
  go_wp2_with fail
  go_loop [3, 4] (fun h i => ∃ (k : Nat) (x : Int), i = .int .i64 (k : Int) ∧ h = .int .i64 x ∧ k ≤ len) (fun _ i => len - (intOf i).toNat)
  case atStart => exact ⟨0, _, rfl, rfl, Nat.zero_le _⟩
  case round =>
    obtain ⟨k, x, rfl, rfl, hk⟩ := hrel
    by_cases hlt : k < len
    · by_cases h4 : k < 4000
      · have g1 : decide ((k : Int) < (len : Int)) = true := by simp; omega
        have g2 : decide ((k : Int) < 4000) = true := by simp; omega
        obtain ⟨y, b, rfl, hx1, hx2⟩ := HC.out k hlt
        have hbt := b.toNat_lt
        go_wp2_with fail
        go_round
        case rel => exact ⟨k + 1, _, by go_num, rfl, by omega⟩
        case measure => simp [intOf]; omega
      · have g1 : decide ((k : Int) < (len : Int)) = true := by simp; omega
        have g2 : decide ((k : Int) < 4000) = false := by simp; omega
        go_wp2_with fail
        go_ret
        exact ⟨rfl, ⟨hB, hlen, HC.out.below ((Below.refl _ _).alloc hB _), 0, x, Nat.zero_le _, heap_alloc_new w _⟩, (Below.refl _ _).alloc (Nat.le_refl _) _⟩
    · have g1 : decide ((k : Int) < (len : Int)) = false := by simp; omega
      go_wp2_with fail
      go_ret
      exact ⟨rfl, ⟨hB, hlen, HC.out.below ((Below.refl _ _).alloc hB _), 0, x, Nat.zero_le _, heap_alloc_new w _⟩, (Below.refl _ _).alloc (Nat.le_refl _) _⟩

/-- Whole numbers as cells. -/
def I64 (l : List Nat) : List Value := l.map (fun n : Nat => Value.int .i64 (n : Int))

theorem I64_snoc (l : List Nat) (n : Nat) : I64 l ++ [.int .i64 (n : Int)] = I64 (l ++ [n]) := by simp [I64]

set_option maxHeartbeats 1000000 in
theorem drawPlaces_any (B : Nat) (a : Option Addr) (len cap : Nat) (w : World) (hlen : len ≤ 1048576) (hB : B ≤ w.heap.size) (hcode : CodeAt B w a len) :
    Calls Try.prog 13 #[.slice a len cap] w fun e w' => ∃ (l : List Nat) (v : Value), l.length = 12 ∧ (∀ x ∈ l, x < 10000) ∧ e = .returned v ∧ w'.ownsRow w.heap.size 3 1 v 12 (I64 l) ∧ Below w.heap.size w w' := by
  have HC := hide hcode
  clear hcode
  go_enter Try.func13, Try.ntmps13
  go_wp2_with fail
  refine (l01New_any B a len cap _ hlen hB HC.out).mono ?_
  rintro e w1 ⟨rfl, hc1, hb1⟩
  go_wp2_with fail
  refine (l01Byte_any B w.heap.size a len cap _ hc1).mono ?_
  rintro e w2 ⟨x0, hx0, rfl, hc2, hg2⟩
  have hb2 : Below w.heap.size w w2 := hb1.grown hg2 hb1.size (by intro k hk; cases hk; exact Nat.le_refl _)
  have hsz2 : B ≤ w2.heap.size := Nat.le_trans hB hb2.size
  have HS := hide (Drawing.start (e := 3) hsz2 hc2)
  have HB2 := hide hb2
  clear hc1 hb1 hc2 hg2 hb2
  go_wp2_with fail
  go_loopw [4, 5] (fun v i wr => ∃ (k : Nat) (l : List Nat), i = .int .i64 (k : Int) ∧ l.length = k ∧ k ≤ 12 ∧ (∀ x ∈ l, x < 10000) ∧ Drawing B w.heap.size a len cap w2 3 v k (I64 l) wr) (fun _ i _ => 12 - (intOf i).toNat)
  case atStart => exact ⟨0, [], rfl, rfl, Nat.zero_le _, by simp, HS.out⟩
  case round =>
    obtain ⟨k, l, rfl, hl, hk, hx, hd⟩ := hrel
    have HL := hide hl
    have HX := hide hx
    have HD := hide hd
    clear hl HS hx hd
    by_cases hlt : k < 12
    · go_wp2_with fail
      refine (l01Below_any B w.heap.size a len cap 10000 (by decide) (by decide) _ HD.out.cur).mono ?_
      rintro e w3 ⟨x, hx, rfl, hc3, hg3⟩
      have HD1 := hide (HD.out.drawn hc3 hg3)
      clear hc3 hg3 HD
      have hsz : w2.heap.size ≤ w3.heap.size := HD1.out.grown.size
      go_wp2_with (at_builtin; refine wpList_push_raw rfl _ _ 22 rfl Try.underlying22 infoInt rfl rfl HD1.out.own rfl rfl hsz (by unfold maxLen; omega) (by omega) ?_)
      intro v' w4 hown4 hg4
      have hd4 := HD1.out.pushed hsz2 hown4 hg4
      rw [I64_snoc] at hd4
      have HD2 := hide hd4
      clear hown4 hg4 hd4 HD1
      go_wp2_with fail
      go_roundw
      case rel => exact ⟨k + 1, l ++ [x], by go_num, by simp [HL.out], by omega, by
        intro y hy
        rcases List.mem_append.1 hy with hy | hy
        · exact HX.out y hy
        · simp at hy; omega, HD2.out⟩
      case measure => simp [intOf]; omega
    · have hkn : k = 12 := by omega
      subst hkn
      go_wp2_with fail
      go_ret
      have hd := HD.out
      refine ⟨l, _, HL.out, HX.out, rfl, ?_, HB2.out.grown hd.grown HB2.out.size (by intro k hk; cases hk; exact Nat.le_refl _)⟩
      exact own_mono hd.own HB2.out.size

theorem big_no (a : Option Addr) (len cap : Nat) (h : len ≤ 1048576) (w : World) :
    Calls Try.prog 10 #[.slice a len cap] w fun e w' => e = .returned (.bool false) ∧ w = w' := by
  have g : decide ((1048576 : Int) < (len : Int)) = false := by simp; omega
  go_enter Try.func10, Try.ntmps10
  go_wp2_with fail
  go_ret
  exact ⟨rfl, rfl⟩

theorem big_yes (a : Option Addr) (len cap : Nat) (h : 1048576 < len) (w : World) :
    Calls Try.prog 10 #[.slice a len cap] w fun e w' => e = .returned (.bool true) ∧ w = w' := by
  have g : decide ((1048576 : Int) < (len : Int)) = true := by simp; omega
  go_enter Try.func10, Try.ntmps10
  go_wp2_with fail
  go_ret
  exact ⟨rfl, rfl⟩

end Go.Proofs.Ytgimbffogmhbgaa
