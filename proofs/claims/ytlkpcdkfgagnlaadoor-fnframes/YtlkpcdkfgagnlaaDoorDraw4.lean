/-
  Draws: once in n; one number of a list; a long text of one kind; the number and the text of FnNumbers.
-/
import Derived.Test.YtlkpcdkfgagnlaaDoorDraw3
namespace Go.Proofs.YtlkpcdkfgagnlaaDoor
open Go.RowKit P1 K
set_option linter.unusedVariables false

theorem l01Once_any (B p : Nat) (a : Option Addr) (len cap : Nat) (n : Nat) (h0 : 0 < n) (h1 : n ≤ 4294967296) (w : World) (hc : CurAt B w p a len cap) :
    Calls Tryd.prog 20 #[.pointer (some ⟨p, 0, none⟩), .int .i64 (n : Int)] w fun e w' => ∃ b : Bool, e = .returned (.bool b) ∧ CurAt B w' p a len cap ∧ w.grownBy w' (some p) := by
  go_enter Tryd.func20, Tryd.ntmps20
  go_wp2_with fail
  refine (l01Below_any B p a len cap n h0 h1 _ hc).mono ?_
  rintro e w1 ⟨x, hx, rfl, hc1, hg1⟩
  go_wp2_with fail
  go_ret
  exact ⟨_, rfl, hc1, hg1⟩

theorem own_cell {w : World} {base : Nat} {e : TypeId} {g n cap : Nat} {xs : List Value} (h : w.ownsRow base e 1 (.slice (some ⟨g, 0, none⟩) n cap) n xs) (j : Nat) (u : Value) (hu : xs[j]? = some u) : w.cell? ⟨g, j, none⟩ = some u := by
  have := h.cells (g := g) rfl j u hu
  have ha : (⟨g, 0, none⟩ : Addr).add j = ⟨g, j, none⟩ := by unfold Addr.add; split <;> simp_all
  rwa [ha] at this

/-- Numbers as cells. -/
def I64z (l : List Int) : List Value := l.map (fun n : Int => Value.int .i64 n)

/-- The numbers at the edges. -/
def edges : List Int := [-1, 0, 127, 128, 16383, 16384, 1000000000, 1000000001, 9223372036854775807, -9223372036854775808]

theorem edges_in (x : Int) (h : x ∈ edges) : -9223372036854775808 ≤ x ∧ x ≤ 9223372036854775807 := by
  simp [edges] at h
  omega

theorem set_B8 (l : List UInt8) (k : Nat) (b : UInt8) : (B8 l).set k (.int .u8 (b.toNat : Int)) = B8 (l.set k b) := by simp [B8, List.map_set]

set_option maxHeartbeats 1000000 in
theorem l01Long_any (n : Nat) (hn : n ≤ 1000000) (b : UInt8) (w : World) :
    Calls Tryd.prog 21 #[.int .i64 (n : Int), .int .u8 (b.toNat : Int)] w fun e w' => ∃ l : List UInt8, l.length = n ∧ e = .returned (.string ⟨l.toArray⟩) ∧ Below w.heap.size w w' := by
  obtain ⟨i0, hi, hz0, hz1, hz2⟩ := info_parts infoByte
  have hbt := b.toNat_lt
  go_enter Tryd.func21, Tryd.ntmps21
  go_wp2_with (at_make; refine wpList_make_full _ rfl _ _ 22 rfl w.heap.size 5 i0 (.int .u8 0) 1 Tryd.underlying22 hi hz0 hz1 _ _ _ _ n rfl rfl (by omega) (by omega) (by rw [hz2]; omega) (by unfold maxLen; omega) (Nat.le_refl _) ?_)
  intro w1 hown0 hgrow0
  have hbel0 : Below w.heap.size w w1 := (Below.refl _ _).grown hgrow0 (Nat.le_refl _) (by intro k hk; cases hk)
  have hz : (madeCells #[Value.int .u8 0] n).toList = B8 (List.replicate n 0) := by rw [toList_madeCells_one]; simp [B8]
  rw [hz] at hown0
  have HO := hide hown0
  have HB := hide hbel0
  clear hgrow0 hown0 hbel0 hz
  go_wp2_with fail
  go_loopw [6] (fun i wr => ∃ (k : Nat) (l : List UInt8), i = .int .i64 (k : Int) ∧ k ≤ n ∧ l.length = n ∧ wr.ownsRow w.heap.size 5 1 (.slice (some ⟨w.heap.size, 0, none⟩) n n) n (B8 l) ∧ Below w.heap.size w wr) (fun i _ => n - (intOf i).toNat)
  case atStart => exact ⟨0, _, rfl, Nat.zero_le _, by simp, HO.out, HB.out⟩
  case round =>
    obtain ⟨k, l, rfl, hk, hl, hown, hbel⟩ := hrel
    have HL := hide hl
    clear hl HO HB
    have hsz := hbel.size
    by_cases hlt : k < n
    · have hfz := hown.frozenAt k
      have hce : wr.cell? ⟨w.heap.size, k, none⟩ = some (.int .u8 ((l[k]'(by rw [HL.out]; exact hlt)).toNat : Int)) := own_cell hown k _ (by simp [B8, HL.out, hlt])
      have hst := (hown.stored k (.int .u8 (b.toNat : Int))).1
      rw [set_B8] at hst
      have HST := hide hst
      have HBL := hide (hbel.setCell (p := ⟨w.heap.size, k, none⟩) (Nat.le_refl _) (.int .u8 (b.toNat : Int)))
      clear hst hown hbel
      go_wp2_with fail
      go_roundw
      case rel => exact ⟨k + 1, l.set k b, by go_num, by omega, by simp [HL.out], HST.out, HBL.out⟩
      case measure => simp [intOf]; omega
    · have hconv := run_string_own (P := Tryd.prog) (src := 22) (dst := 9) Tryd.underlying22 Tryd.underlying5 Tryd.underlying9 hown
      clear hown
      go_wp2_with fail
      go_ret
      exact ⟨l, HL.out, rfl, hbel⟩

set_option maxHeartbeats 1000000 in
theorem drawHex_any (B : Nat) (a : Option Addr) (len cap : Nat) (w : World) (hlen : len ≤ 1048576) (hB : B ≤ w.heap.size) (hcode : CodeAt B w a len) :
    Calls Tryd.prog 8 #[.slice a len cap] w fun e w' => ∃ l : List UInt8, l.length ≤ 20001 ∧ e = .returned (.string ⟨l.toArray⟩) ∧ Below w.heap.size w w' := by
  go_enter Tryd.func8, Tryd.ntmps8
  go_wp2_with fail
  refine (l01New_any B a len cap _ hlen hB hcode).mono ?_
  rintro e w1 ⟨rfl, hc1, hb1⟩
  have hs1 := hb1.size
  go_wp2_with fail
  refine (l01Once_any B w.heap.size a len cap 60 (by decide) (by decide) _ hc1).mono ?_
  rintro e w2 ⟨o, rfl, hc2, hg2⟩
  have hb2 : Below w.heap.size w w2 := hb1.grown hg2 hb1.size (by intro k hk; cases hk; exact Nat.le_refl _)
  have hs2 := hb2.size
  cases o with
  | true =>
    go_wp2_with fail
    refine (l01Below_any B w.heap.size a len cap 2 (by decide) (by decide) _ hc2).mono ?_
    rintro e w3 ⟨n, hn, rfl, hc3, hg3⟩
    have hb3 : Below w.heap.size w w3 := hb2.grown hg3 hb2.size (by intro k hk; cases hk; exact Nat.le_refl _)
    have e3 := hide (show (20000 : Int) + (n : Int) = ((20000 + n : Nat) : Int) by omega)
    go_wp2_with fail
    rw [e3.out]
    refine (l01Long_any (20000 + n) (by omega) 200 _).mono ?_
    rintro e w4 ⟨l, hl, rfl, hb4⟩
    go_wp2_with fail
    go_ret
    exact ⟨l, by omega, rfl, hb3.trans (hb4.mono hb3.size)⟩
  | false =>
    go_wp2_with fail
    refine (l01Below_any B w.heap.size a len cap 30 (by decide) (by decide) _ hc2).mono ?_
    rintro e w3 ⟨n, hn, rfl, hc3, hg3⟩
    have hb3 : Below w.heap.size w w3 := hb2.grown hg3 hb2.size (by intro k hk; cases hk; exact Nat.le_refl _)
    have hs3 := hb3.size
    go_wp2_with fail
    refine (l01Text_any B w.heap.size a len cap n (by omega) _ (by omega) hc3).mono ?_
    rintro e w4 ⟨l, hl, rfl, hc4, hg4⟩
    have hb4 : Below w.heap.size w w4 := hb3.grown hg4 hb3.size (by intro k hk; cases hk; exact Nat.le_refl _)
    go_wp2_with fail
    go_ret
    exact ⟨l, by omega, rfl, hb4⟩

end Go.Proofs.YtlkpcdkfgagnlaaDoor
