/-
  A place drawn.
-/
import Derived.Test.YtdollofmjpgppaaRv
import Derived.Test.YtdollofmjpgppaaDraw4
namespace Go.Proofs.Ytdollofmjpgppaa
open Go.RowKit P1 K
attribute [local go_sem ↓] Go.wp_at_zero Go.wp_at_succ
set_option linter.unusedVariables false
set_option linter.unusedSimpArgs false

theorem l01Place_any (B p : Nat) (a : Option Addr) (len cap : Nat) (n : Nat) (h0 : 0 < n) (h1 : n ≤ 1000000) (w : World) (hB : B ≤ w.heap.size) (hc : CurAt B w p a len cap) :
    Calls Try.prog 17 #[.pointer (some ⟨p, 0, none⟩), .int .i64 (n : Int)] w fun e w' => ∃ x : Int, -9223372036854775808 ≤ x ∧ x ≤ 9223372036854775807 ∧ e = .returned (.int .i64 x) ∧ CurAt B w' p a len cap ∧ w.grownBy w' (some p) := by
  have hlt := hc.lt
  go_enter Try.func17, Try.ntmps17
  go_wp2_with fail
  refine (l01Once_any B p a len cap 15 (by decide) (by decide) _ hc).mono ?_
  rintro e w1 ⟨b, rfl, hc1, hg1⟩
  have hsz := hg1.size
  clear hc
  cases b with
  | true =>
    obtain ⟨L, hL⟩ : ∃ L : List Int, [-1, (n : Int), (n : Int) + 1, 9223372036854775807, -9223372036854775808] = L := ⟨_, rfl⟩
    have hc2 := hc1.kept ((Below.refl _ _).alloc (by omega) (.cells (I64z [-1, (n : Int), (n : Int) + 1, 9223372036854775807, -9223372036854775808]).toArray 3)) (Below.heap_alloc _ _ p hc1.lt)
    have ho2 : (w1.alloc (.cells (I64z [-1, (n : Int), (n : Int) + 1, 9223372036854775807, -9223372036854775808]).toArray 3)).ownsRow w1.heap.size 3 1 (.slice (some ⟨w1.heap.size, 0, none⟩) 5 5) 5 (I64z [-1, (n : Int), (n : Int) + 1, 9223372036854775807, -9223372036854775808]) :=
      World.ownsRow_lit (base := w1.heap.size) (size := 1) w1 (I64z [-1, (n : Int), (n : Int) + 1, 9223372036854775807, -9223372036854775808]).toArray 5 (Nat.le_refl _) (by decide) (by simp [I64z])
    have HC2 := hide hc2
    have HO2 := hide ho2
    have hl1 := hc1.lt
    have HG2 := hide (grownBy_trans hg1 (World.grownBy_alloc w1 (.cells (I64z [-1, (n : Int), (n : Int) + 1, 9223372036854775807, -9223372036854775808]).toArray 3) (some p)))
    clear hc2 ho2 hc1 hg1 hL
    go_wp2_with fail
    refine (l01PickInt_any B p a len cap w1.heap.size _ [-1, (n : Int), (n : Int) + 1, 9223372036854775807, -9223372036854775808] (by simp) (by simp) _ hl1 HO2.out HC2.out).mono ?_
    rintro e w2 ⟨y, hy, rfl, hc3, hg3⟩
    have hyb : -9223372036854775808 ≤ y ∧ y ≤ 9223372036854775807 := by simp at hy; omega
    clear hy
    go_wp2_with fail
    go_ret
    exact ⟨y, hyb.1, hyb.2, rfl, hc3, grownBy_trans HG2.out hg3⟩
  | false =>
    go_wp2_with fail
    refine (l01Below_any B p a len cap n h0 (by omega) _ hc1).mono ?_
    rintro e w2 ⟨y, hy, rfl, hc2, hg2⟩
    go_wp2_with fail
    go_ret
    exact ⟨(y : Int), by omega, by omega, rfl, hc2, grownBy_trans hg1 hg2⟩

end Go.Proofs.Ytdollofmjpgppaa
