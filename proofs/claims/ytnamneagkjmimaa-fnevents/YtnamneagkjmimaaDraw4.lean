/-
  Draws: once in n; one number of a list; a long text of one kind; the number and the text of FnNumbers.
-/
import Derived.Test.YtnamneagkjmimaaPkDraw1
namespace Go.Proofs.Ytnamneagkjmimaa
open Go.RowKit P1 K
set_option linter.unusedVariables false

theorem l01Once_any (B p : Nat) (a : Option Addr) (len cap : Nat) (n : Nat) (h0 : 0 < n) (h1 : n ≤ 4294967296) (w : World) (hc : CurAt B w p a len cap) :
    Calls Try.prog 68 #[.pointer (some ⟨p, 0, none⟩), .int .i64 (n : Int)] w fun e w' => ∃ b : Bool, e = .returned (.bool b) ∧ CurAt B w' p a len cap ∧ w.grownBy w' (some p) := by
  go_enter Try.func68, Try.ntmps68
  go_wp2_with fail
  refine (l01Below_any B p a len cap n h0 h1 _ hc).mono ?_
  rintro e w1 ⟨x, hx, rfl, hc1, hg1⟩
  go_wp2_with fail
  go_ret
  exact ⟨_, rfl, hc1, hg1⟩

theorem own_cell {w : World} {base : Nat} {e : TypeId} {g n cap : Nat} {xs : List Value} (h : w.ownsRow base e 1 (.slice (some ⟨g, 0, none⟩) n cap) n xs) (j : Nat) (u : Value) (hu : xs[j]? = some u) : w.cell? ⟨g, j, none⟩ = some u := by
  have := h.cells (g := g) rfl j u hu
  have ha : (⟨g, 0, none⟩ : Addr).add j = ⟨g, j, none⟩ := by unfold Addr.add; split <;> simp_all
  rwa [ha] at this

/-- Numbers as cells. -/
def I64z (l : List Int) : List Value := l.map (fun n : Int => Value.int .i64 n)

theorem l01PickInt_any (B p : Nat) (a : Option Addr) (len cap : Nat) (base : Nat) (v : Value) (xs : List Int) (h0 : 0 < xs.length) (h1 : xs.length ≤ 1000000) (w : World) (hp : p < base)
    (hown : w.ownsRow base 3 1 v xs.length (I64z xs)) (hc : CurAt B w p a len cap) :
    Calls Try.prog 50 #[.pointer (some ⟨p, 0, none⟩), v] w fun e w' => ∃ x ∈ xs, e = .returned (.int .i64 x) ∧ CurAt B w' p a len cap ∧ w.grownBy w' (some p) := by
  have HO := hide hown
  obtain ⟨hl, hnil | ⟨g, capP, cur, rfl, hgB, hgh, hcapP, hmaxP, hcurS, htake⟩⟩ := hown
  · omega
  clear hl hgh hcurS htake hmaxP
  go_enter Try.func50, Try.ntmps50
  go_wp2_with fail
  refine (l01Below_any B p a len cap xs.length h0 (by omega) _ hc).mono ?_
  rintro e w1 ⟨i, hi, rfl, hc1, hg1⟩
  have hown1 := HO.out.kept hg1 (by right; simp [Value.ownBlock]; omega)
  have hce := own_cell hown1 i (.int .i64 xs[i]) (by simp [I64z, hi])
  have i0 : (0 : Int) ≤ (i : Int) := by omega
  have i1 : (i : Int) < (xs.length : Int) := by omega
  have HC1 := hide hc1
  have HG1 := hide hg1
  clear hc1 hg1 hown1 hc HO
  go_wp2_with fail
  go_ret
  exact ⟨xs[i], List.getElem_mem _, rfl, HC1.out, HG1.out⟩

/-- The numbers at the edges. -/
def edges : List Int := [-1, 0, 127, 128, 16383, 16384, 1000000000, 1000000001, 9223372036854775807, -9223372036854775808]

theorem edges_in (x : Int) (h : x ∈ edges) : -9223372036854775808 ≤ x ∧ x ≤ 9223372036854775807 := by
  simp [edges] at h
  omega

theorem set_B8 (l : List UInt8) (k : Nat) (b : UInt8) : (B8 l).set k (.int .u8 (b.toNat : Int)) = B8 (l.set k b) := by simp [B8, List.map_set]

set_option maxHeartbeats 1000000 in
theorem l01Long_any (n : Nat) (hn : n ≤ 1000000) (b : UInt8) (w : World) :
    Calls Try.prog 51 #[.int .i64 (n : Int), .int .u8 (b.toNat : Int)] w fun e w' => ∃ l : List UInt8, l.length = n ∧ e = .returned (.string ⟨l.toArray⟩) ∧ Below w.heap.size w w' := by
  obtain ⟨i0, hi, hz0, hz1, hz2⟩ := info_parts infoByte
  have hbt := b.toNat_lt
  go_enter Try.func51, Try.ntmps51
  go_wp2_with (at_make; refine wpList_make_full _ rfl _ _ 22 rfl w.heap.size 5 i0 (.int .u8 0) 1 Try.underlying22 hi hz0 hz1 _ _ _ _ n rfl rfl (by omega) (by omega) (by rw [hz2]; omega) (by unfold maxLen; omega) (Nat.le_refl _) ?_)
  intro w1 hown0 hgrow0
  have hbel0 : Below w.heap.size w w1 := (Below.refl _ _).grown hgrow0 (Nat.le_refl _) (by intro k hk; cases hk)
  have hz : (madeCells #[Value.int .u8 0] n).toList = B8 (List.replicate n 0) := by rw [toList_madeCells_one]; simp [B8]
  rw [hz] at hown0
  have HO := hide hown0
  have HB := hide hbel0
  clear hgrow0 hown0 hbel0 hz
  go_wp2_with fail
  go_loopw [6] (fun i wr => ∃ (k : Nat) (l : List UInt8), i = .int .i64 (k : Int) ∧ k ≤ n ∧ l.length = n ∧ wr.ownsRow w.heap.size 5 1 (.slice (some ⟨w.heap.size, 0, none⟩) n n) n (B8 l) ∧ Below w.heap.size w wr) (fun i _ => n - (intOf i).toNat)
  case atStart => exact ⟨0, _, rfl, Nat.zero_le _, by simp, HO.out, HB.out⟩
  case round =>
    obtain ⟨k, l, rfl, hk, hl, hown, hbel⟩ := hrel
    have HL := hide hl
    clear hl HO HB
    have hsz := hbel.size
    by_cases hlt : k < n
    · have hfz := hown.frozenAt k
      have hce : wr.cell? ⟨w.heap.size, k, none⟩ = some (.int .u8 ((l[k]'(by rw [HL.out]; exact hlt)).toNat : Int)) := own_cell hown k _ (by simp [B8, HL.out, hlt])
      have hst := (hown.stored k (.int .u8 (b.toNat : Int))).1
      rw [set_B8] at hst
      have HST := hide hst
      have HBL := hide (hbel.setCell (p := ⟨w.heap.size, k, none⟩) (Nat.le_refl _) (.int .u8 (b.toNat : Int)))
      clear hst hown hbel
      go_wp2_with fail
      go_roundw
      case rel => exact ⟨k + 1, l.set k b, by go_num, by omega, by simp [HL.out], HST.out, HBL.out⟩
      case measure => simp [intOf]; omega
    · have hconv := run_string_own (P := Try.prog) (src := 22) (dst := 9) Try.underlying22 Try.underlying5 Try.underlying9 hown
      clear hown
      go_wp2_with fail
      go_ret
      exact ⟨l, HL.out, rfl, hbel⟩

end Go.Proofs.Ytnamneagkjmimaa
