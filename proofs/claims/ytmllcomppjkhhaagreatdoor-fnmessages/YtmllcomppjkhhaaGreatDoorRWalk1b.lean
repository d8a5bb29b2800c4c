/-
  Walks and mathematics of Walk1b, Walk1d, Walk5h, Short1.
-/
import Derived.Test.YtmllcomppjkhhaaGreatDoorRBase
import Derived.Deep.RegionWith
import Derived.Deep.RegionHeld3
import Derived.Deep.QuietTactic
import Derived.BigQuiet
import Derived.WalkSmall
import Derived.Lib.Strings
import Derived.Test.YtmllcomppjkhhaaGreatDoorRPlain1
import Derived.Lib.SmallJoins
namespace Go.Proofs.YtmllcomppjkhhaaGreatDoor.P3
end Go.Proofs.YtmllcomppjkhhaaGreatDoor.P3
namespace Go.Proofs.YtmllcomppjkhhaaGreatDoor
open Go.RowKit P1 K
set_option linter.unusedVariables false

def rvVal (a : Nat) : Option (Nat × Nat) → Value
  | none => .tuple #[.int .i64 0, .int .i64 0, .bool false]
  | some (v, c) => .tuple #[.int .i64 v, .int .i64 (a + c : Nat), .bool true]

def RdRel (s : ByteArray) (a : Nat) (n sc p : Nat) : Prop :=
  ∃ (f : Nat) (pre : List UInt8), p = a + pre.length ∧ p ≤ s.size ∧ pre.length + f = 5 ∧ n = rawV pre ∧ sc = 128 ^ pre.length ∧ pre = ((bl s).drop a).take pre.length ∧ (∀ c ∈ pre, 128 ≤ c.toNat) ∧
    rdGo f pre ((bl s).drop p) = rdGo 5 [] ((bl s).drop a)

theorem RdRel.bounds {s : ByteArray} {a n sc p : Nat} (h : RdRel s a n sc p) : a ≤ p ∧ p ≤ s.size ∧ p ≤ a + 5 ∧ n < 34359738368 ∧ sc ≤ 34359738368 ∧ (p < a + 5 → sc ≤ 268435456 ∧ n < 268435456) ∧ (p = a + 5 → sc = 34359738368) ∧ 1 ≤ sc ∧ (p = a → n = 0 ∧ sc = 1) := by
  obtain ⟨f, pre, rfl, h1, h2, rfl, rfl, _⟩ := h
  have h3 := rawV_lt pre
  rcases (show pre.length = 0 ∨ pre.length = 1 ∨ pre.length = 2 ∨ pre.length = 3 ∨ pre.length = 4 ∨ pre.length = 5 by omega) with e | e | e | e | e | e <;> (rw [e] at h3 ⊢; refine ⟨by omega, by omega, by omega, by omega, by omega, fun _ => ⟨by omega, by omega⟩, fun _ => by omega, by omega, fun _ => ⟨by omega, by omega⟩⟩)

theorem RdRel.start (s : ByteArray) (a : Nat) (ha : a ≤ s.size) : RdRel s a 0 1 a :=
  ⟨5, [], rfl, ha, rfl, rfl, rfl, by simp, by simp, rfl⟩

theorem RdRel.on {s : ByteArray} {a n sc p : Nat} (h : RdRel s a n sc p) (hp : p < s.size) (h5 : p < a + 5) (hb : 128 ≤ s[p].toNat) : RdRel s a (n + (s[p].toNat - 128) * sc) (sc * 128) (p + 1) := by
  obtain ⟨f, pre, rfl, h1, h2, rfl, rfl, h3, h4, h6⟩ := h
  cases f with
  | zero => omega
  | succ f =>
    refine ⟨f, pre ++ [s[a + pre.length]], by simp; omega, by omega, by simp; omega, by rw [rawV_snoc], by simp [Nat.pow_succ], ?_, ?_, ?_⟩
    · rw [List.length_append, List.length_singleton, List.take_succ_eq_append_getElem (by rw [List.length_drop, bl_length]; omega), ← h3]
      simp
      rfl
    · intro c hc
      rcases List.mem_append.1 hc with hc | hc
      · exact h4 c hc
      · simp at hc; subst hc; exact hb
    · rw [← h6, bl_drop s _ hp, rdGo_on _ _ _ _ (by omega)]

theorem RdRel.yes {s : ByteArray} {a n sc p : Nat} (h : RdRel s a n sc p) (hp : p < s.size) (h5 : p < a + 5) (hb : s[p].toNat < 128) (h0 : p = a ∨ s[p].toNat ≠ 0) (hm : n + s[p].toNat * sc ≤ 1000000000) :
    rdGo 5 [] ((bl s).drop a) = some (n + s[p].toNat * sc, p + 1 - a) ∧ varB (n + s[p].toNat * sc) = ((bl s).drop a).take (p + 1 - a) := by
  obtain ⟨f, pre, rfl, h1, h2, rfl, rfl, h3, h4, h6⟩ := h
  have hne : pre = [] ∨ s[a + pre.length].toNat ≠ 0 := by
    rcases h0 with h0 | h0
    · left; exact List.eq_nil_of_length_eq_zero (by omega)
    · right; exact h0
  have e1 : a + pre.length + 1 - a = pre.length + 1 := by omega
  cases f with
  | zero => omega
  | succ f =>
    constructor
    · rw [← h6, bl_drop s _ hp, rdGo_yes _ _ _ _ hb hne hm, e1]
    · unfold varB
      rw [varF_raw pre _ hb h4 hne 9 (by omega), e1, List.take_succ_eq_append_getElem (by rw [List.length_drop, bl_length]; omega), ← h3]
      simp
      rfl

theorem RdRel.long {s : ByteArray} {a n sc p : Nat} (h : RdRel s a n sc p) (hp : p < s.size) (h5 : p < a + 5) (hb : s[p].toNat = 0) (h0 : a < p) :
    rdGo 5 [] ((bl s).drop a) = none ∧ varB (n + s[p].toNat * sc) ≠ ((bl s).drop a).take (p + 1 - a) := by
  obtain ⟨f, pre, rfl, h1, h2, rfl, rfl, h3, h4, h6⟩ := h
  have hne : pre ≠ [] := by intro h; subst h; simp at h0
  have e1 : a + pre.length + 1 - a = pre.length + 1 := by omega
  cases f with
  | zero => omega
  | succ f =>
    constructor
    · rw [← h6, bl_drop s _ hp, rdGo_long _ _ _ _ hb hne]
    · rw [e1, List.take_succ_eq_append_getElem (by rw [List.length_drop, bl_length]; omega), ← h3]
      have := varB_longer pre s[a + pre.length] hb hne
      simp only [List.getElem_drop]
      exact this

theorem RdRel.great {s : ByteArray} {a n sc p : Nat} (h : RdRel s a n sc p) (hp : p < s.size) (h5 : p < a + 5) (hb : s[p].toNat < 128) (hm : 1000000000 < n + s[p].toNat * sc) :
    rdGo 5 [] ((bl s).drop a) = none := by
  obtain ⟨f, pre, rfl, h1, h2, rfl, rfl, h3, h4, h6⟩ := h
  cases f with
  | zero => omega
  | succ f => rw [← h6, bl_drop s _ hp, rdGo_great _ _ _ _ hb hm]

theorem RdRel.out {s : ByteArray} {a n sc p : Nat} (h : RdRel s a n sc p) (hp : s.size ≤ p ∨ a + 5 ≤ p) : rdGo 5 [] ((bl s).drop a) = none := by
  obtain ⟨f, pre, rfl, h1, h2, rfl, rfl, h3, h4, h6⟩ := h
  rcases hp with hp | hp
  · rw [← h6, List.drop_eq_nil_of_le (by rw [bl_length]; exact hp), rdGo_nil]
  · obtain rfl : f = 0 := by omega
    rw [← h6]; rfl

theorem ret_rv_no {a : Nat} {r : Option (Nat × Nat)} (h : r = none) : Ending.returned (.tuple #[.int .i64 0, .int .i64 0, .bool false]) = .returned (rvVal a r) := by rw [h]; rfl

theorem ret_rv_yes {a v c : Nat} {r : Option (Nat × Nat)} {x y : Int} (h : r = some (v, c)) (hx : x = (v : Int)) (hy : y = ((a + c : Nat) : Int)) :
    Ending.returned (.tuple #[.int .i64 x, .int .i64 y, .bool true]) = .returned (rvVal a r) := by rw [h, hx, hy]; rfl

end Go.Proofs.YtmllcomppjkhhaaGreatDoor

namespace Go.Proofs.YtmllcomppjkhhaaGreatDoor
open Go.RowKit P1 K
set_option linter.unusedVariables false

theorem l01Var_int (x : Int) (h0 : 0 ≤ x) (h1 : x ≤ 1000000000) (w : World) :
    Calls Tryz.prog 59 #[.int .i64 x] w fun e w' => e = .returned (.string ⟨(varB x.toNat).toArray⟩) ∧ Below w.heap.size w w' := by
  obtain ⟨n, rfl⟩ := Int.eq_ofNat_of_zero_le h0
  exact l01Var_any n (by omega) w

set_option maxHeartbeats 1000000 in
theorem specReadVar_any (s : ByteArray) (hs : s.size ≤ 1048576) (a : Nat) (ha : a ≤ s.size) (w : World) :
    Calls Tryz.prog 65 #[.string s, .int .i64 a] w fun e w' => e = .returned (rvVal a (rdGo 5 [] ((bl s).drop a))) ∧ Below w.heap.size w w' := by
  go_enter Tryz.func65, Tryz.ntmps65
  go_wp2_with (go_at_call 19; refine (l01In_yes _ _ _ (by omega) (by omega) _).mono ?_; rintro e w' ⟨rfl, rfl⟩)
  go_loopw [7, 8, 9] (fun x y z wr => ∃ n sc p : Nat, x = .int .i64 n ∧ y = .int .i64 sc ∧ z = .int .i64 p ∧ RdRel s a n sc p ∧ w = wr) (fun _ _ z _ => s.size - (intOf z).toNat)
  case atStart => exact ⟨0, 1, a, rfl, rfl, rfl, RdRel.start s a ha, rfl⟩
  case round =>
    obtain ⟨n, sc, p, rfl, rfl, rfl, hr, rfl⟩ := hrel
    have hb := hr.bounds
    obtain ⟨b1, b2, b3, b4, b5, b6, b7, b8, b12⟩ := hb
    clear b12
    by_cases hp : p < s.size
    · by_cases h5 : p < a + 5
      · have b9 := b6 h5
        obtain ⟨b10, b11⟩ := b9
        clear b6 b7
        have hlt := s[p].toNat_lt
        have h5' : (p : Int) < (a : Int) + 5 := by omega
        by_cases hbig : 128 ≤ s[p].toNat
        · have R := hr.on hp h5 hbig
          have hpr : (0 : Int) ≤ ((s[p].toNat : Int) - 128) * (sc : Int) ∧ ((s[p].toNat : Int) - 128) * (sc : Int) ≤ 34091302912 := by
            constructor
            · exact Int.mul_nonneg (by omega) (by omega)
            · have := Int.mul_le_mul (show ((s[p].toNat : Int) - 128) ≤ 127 by omega) (show (sc : Int) ≤ 268435456 by omega) (by omega) (by omega)
              omega
          obtain ⟨hpr1, hpr2⟩ := hpr
          have hmod : (s[p].toNat : Int) % 128 = (s[p].toNat : Int) - 128 := by omega
          have hg : ¬ ((s[p].toNat : Int) < 128) := by omega
          have hcast : Hid (((s[p].toNat - 128 : Nat) : Int) = (s[p].toNat : Int) - 128) := by unfold Hid; omega
          go_wp2_with fail
          go_roundw
          case rel => exact ⟨_, _, p + 1, congrArg (Value.int .i64) (by rw [Int.natCast_add, Int.natCast_mul, hcast.out]), by go_num, by go_num, R, trivial⟩
          case measure => simp [intOf]; omega
        · have hb' : s[p].toNat < 128 := by omega
          clear hbig
          have hpr : (0 : Int) ≤ (s[p].toNat : Int) * (sc : Int) ∧ (s[p].toNat : Int) * (sc : Int) ≤ 34091302912 := by
            constructor
            · exact Int.mul_nonneg (by omega) (by omega)
            · have := Int.mul_le_mul (show (s[p].toNat : Int) ≤ 127 by omega) (show (sc : Int) ≤ 268435456 by omega) (by omega) (by omega)
              omega
          obtain ⟨hpr1, hpr2⟩ := hpr
          have hmod : (s[p].toNat : Int) % 128 = (s[p].toNat : Int) := by omega
          have hg : ((s[p].toNat : Int) < 128) := by omega
          have e : Hid (((n + s[p].toNat * sc : Nat) : Int) = (n : Int) + (s[p].toNat : Int) * (sc : Int)) := by unfold Hid; rw [Int.natCast_add, Int.natCast_mul]
          by_cases hmx : n + s[p].toNat * sc ≤ 1000000000
          · have hmx' : (n : Int) + (s[p].toNat : Int) * (sc : Int) ≤ 1000000000 := by have := e.out; omega
            have hmx2 : 0 ≤ (n : Int) + (s[p].toNat : Int) * (sc : Int) := by omega
            have ev : Hid ((((n : Int) + (s[p].toNat : Int) * (sc : Int))).toNat = n + s[p].toNat * sc) := by have := e.out; unfold Hid; omega
            have hwr : IntKind.i64.wrap ((p : Int) + 1) = (p : Int) + 1 := IntWalk.i64_in _ ⟨by omega, by omega⟩
            have hsl : ∀ wx, (Instr.slice 9 (.string s) (some (.int .i64 (a : Int))) (some (.int .i64 ((p : Int) + 1))) none).run Tryz.prog wx = .ok (.string (s.extract a (p + 1))) wx :=
              fun wx => run_slice_string (P := Tryz.prog) (w := wx) 9 s .i64 .i64 (a : Int) ((p : Int) + 1) Tryz.underlying9 (by omega) (by omega) (by omega)
            have hd : decide ((1000000000 : Int) < (n : Int) + (s[p].toNat : Int) * (sc : Int)) = false := by simp; omega
            by_cases hor : p = a ∨ s[p].toNat ≠ 0
            · have R := hr.yes hp h5 hb' hor hmx
              have hq : (varB ((n : Int) + (s[p].toNat : Int) * (sc : Int)).toNat == (s.extract a (p + 1)).toList) = true := by
                rw [ev.out, R.2, Lib.extract_toList]; simp
              have R1 := hide R.1
              clear R hor hmx
              go_wp2_with fail
              go_region_held3 (fun _ => True) (trivial) (first | (go_at_call 59; refine (l01Var_int _ hmx2 hmx' _).mono ?_; rintro e1 w1 ⟨rfl, hb1⟩))
              have hb2 : Below w.heap.size w w1 := ((Below.refl _ w).drew).trans hb1
              clear hb1
              go_wp2_with fail
              go_ret3
              exact ⟨ret_rv_yes R1.out (by rw [Int.natCast_add, Int.natCast_mul]) (by omega), hb2⟩
            · have R := hr.long hp h5 (by omega) (by omega)
              have hq : (varB ((n : Int) + (s[p].toNat : Int) * (sc : Int)).toNat == (s.extract a (p + 1)).toList) = false := by
                rw [ev.out, Lib.extract_toList]; simpa using R.2
              have R1 := hide R.1
              clear R hor hmx
              go_wp2_with fail
              go_region_held3 (fun _ => True) (trivial) (first | (go_at_call 59; refine (l01Var_int _ hmx2 hmx' _).mono ?_; rintro e1 w1 ⟨rfl, hb1⟩))
              have hb2 : Below w.heap.size w w1 := ((Below.refl _ w).drew).trans hb1
              clear hb1
              go_wp2_with fail
              go_ret3
              exact ⟨ret_rv_no R1.out, hb2⟩
          · have R := hide (hr.great hp h5 hb' (by omega))
            have hmx' : (1000000000 : Int) < (n : Int) + (s[p].toNat : Int) * (sc : Int) := by have := e.out; omega
            clear hmx
            have hd : decide ((1000000000 : Int) < (n : Int) + (s[p].toNat : Int) * (sc : Int)) = true := by simp; omega
            go_wp2_with fail
            go_quiet (fail)
            go_wp2
            go_ret3
            exact ⟨ret_rv_no R.out, below_drewN (Below.refl _ _) _⟩
      · have R := hide (hr.out (Or.inr (by omega)))
        have h5' : ¬ ((p : Int) < (a : Int) + 5) := by omega
        clear b6 b7 hr
        go_wp2_with fail
        go_ret3
        exact ⟨ret_rv_no R.out, Below.refl _ _⟩
    · have R := hide (hr.out (Or.inl (by omega)))
      clear b6 b7 hr
      go_wp2_with fail
      go_ret3
      exact ⟨ret_rv_no R.out, Below.refl _ _⟩

end Go.Proofs.YtmllcomppjkhhaaGreatDoor

namespace Go.Proofs.YtmllcomppjkhhaaGreatDoor
open Go.RowKit P1 K
set_option linter.unusedVariables false
set_option linter.unusedSimpArgs false

def RdC (w : World) (g : Nat) (s : ByteArray) (a : Nat) (b : Bool) : Prop :=
  a ≤ s.size ∧ w.heap[g]? = some (.cells #[.string s, .int .i64 (a : Int), .bool b] 69 (0, 0))

theorem RdC.lt {w : World} {g : Nat} {s : ByteArray} {a : Nat} {b : Bool} (h : RdC w g s a b) : g < w.heap.size := (Array.getElem?_eq_some_iff.1 h.2).1

theorem rdc_cells {w : World} {p : Nat} {v0 v1 v2 : Value} {e : TypeId} (hb : w.heap[p]? = some (.cells #[v0, v1, v2] e (0, 0))) :
    w.cell? ⟨p, 0, none⟩ = some v0 ∧ w.cell? ⟨p, 1, none⟩ = some v1 ∧ w.cell? ⟨p, 2, none⟩ = some v2 ∧ w.frozen? ⟨p, 0, none⟩ = false ∧ w.frozen? ⟨p, 1, none⟩ = false ∧ w.frozen? ⟨p, 2, none⟩ = false :=
  ⟨by rw [cell_of_row w p 0 _ _ _ hb]; rfl, by rw [cell_of_row w p 1 _ _ _ hb]; rfl, by rw [cell_of_row w p 2 _ _ _ hb]; rfl, by simp [World.frozen?, hb], by simp [World.frozen?, hb], by simp [World.frozen?, hb]⟩

theorem rdc_set {w : World} {p k : Nat} {cs : Array Value} {e : TypeId} (v : Value) (h : w.heap[p]? = some (.cells cs e (0, 0))) : (w.setCell ⟨p, k, none⟩ v).heap[p]? = some (.cells (cs.setIfInBounds k v) e (0, 0)) := by
  simp only [World.setCell, Array.getElem?_modify, if_true, h]
  rfl

theorem rdc_grown (w : World) (p k : Nat) (v : Value) : w.grownBy (w.setCell ⟨p, k, none⟩ v) (some p) :=
  ⟨rfl, rfl, rfl, by simp [World.setCell], fun j hj hne => Below.heap_setCell _ _ _ _ (fun e => hne (by rw [e]))⟩

theorem RdC.kept {w w' : World} {g : Nat} {s : ByteArray} {a : Nat} {b : Bool} (h : RdC w g s a b) (hb : w'.heap[g]? = w.heap[g]?) : RdC w' g s a b := ⟨h.1, hb.trans h.2⟩

theorem grown_drewN {w w' : World} {r : Option Nat} (h : w.grownBy w' r) (q : Nat) : w.grownBy (w'.drewN q) r :=
  ⟨h.os, h.tape, h.output, h.size, h.block⟩

def takeV (s : ByteArray) (a : Nat) (b : Bool) (n : Nat) : ByteArray × Nat × Bool :=
  if b = false ∧ a + n ≤ s.size then (s.extract a (a + n), a + n, false) else (⟨#[]⟩, a, true)

set_option maxHeartbeats 1000000 in
theorem l05Take_any (g : Nat) (s : ByteArray) (hs : s.size ≤ 1048576) (a : Nat) (b : Bool) (n : Nat) (hn : n ≤ 1000000000) (w : World) (hc : RdC w g s a b) :
    Calls Tryz.prog 31 #[.pointer (some ⟨g, 0, none⟩), .int .i64 (n : Int)] w fun e w' =>
      e = .returned (.string (takeV s a b n).1) ∧ RdC w' g s (takeV s a b n).2.1 (takeV s a b n).2.2 ∧ w.grownBy w' (some g) := by
  obtain ⟨ha, hblk⟩ := hc
  obtain ⟨c0, c1, c2, z0, z1, z2⟩ := rdc_cells hblk
  have HB := hide hblk
  clear hblk
  have hwr : IntKind.i64.wrap ((s.size : Int) - (a : Int)) = (s.size : Int) - (a : Int) := by rw [IntKind.wrap_i64]; omega
  cases b with
  | true =>
    have hv : takeV s a true n = (⟨#[]⟩, a, true) := by simp [takeV]
    rw [hv]
    clear hv
    go_enter Tryz.func31, Tryz.ntmps31
    go_wp2_with fail
    go_quiet (fail)
    go_wp2_with fail
    go_ret
    exact ⟨rfl, ⟨ha, rdc_set (w := w.drewN _) (k := 2) (.bool true) HB.out⟩, grown_trans (grown_drewN (grown_below (Below.refl _ _)) _) (rdc_grown _ g 2 _)⟩
  | false =>
    by_cases hfit : a + n ≤ s.size
    · have hv : takeV s a false n = (s.extract a (a + n), a + n, false) := by simp [takeV, hfit]
      rw [hv]
      clear hv
      have g1 : decide ((s.size : Int) - (a : Int) < (n : Int)) = false := by simp; omega
      have hw2 : IntKind.i64.wrap ((a : Int) + (n : Int) - (n : Int)) = (a : Int) := by rw [IntKind.wrap_i64]; omega
      have hw3 : (a : Int) + (n : Int) - (n : Int) = (a : Int) := by omega
      have hsl : ∀ wx, (Instr.slice 9 (.string s) (some (.int .i64 (a : Int))) (some (.int .i64 ((a : Int) + (n : Int)))) none).run Tryz.prog wx = .ok (.string (s.extract a (a + n))) wx :=
        fun wx => run_slice_string (P := Tryz.prog) (w := wx) 9 s .i64 .i64 (a : Int) ((a : Int) + (n : Int)) Tryz.underlying9 (by omega) (by omega) (by omega)
      go_enter Tryz.func31, Tryz.ntmps31
      go_wp2_with fail
      go_quiet (fail)
      go_wp2_with fail
      have hb2 := rdc_set (w := w.drewN nq) (k := 1) (.int .i64 ((a : Int) + (n : Int))) HB.out
      have hg2 := rdc_grown (w.drewN nq) g 1 (.int .i64 ((a : Int) + (n : Int)))
      obtain ⟨w2, hw2'⟩ : ∃ w2, (w.drewN nq).setCell ⟨g, 1, none⟩ (.int .i64 ((a : Int) + (n : Int))) = w2 := ⟨_, rfl⟩
      rw [hw2'] at hb2 hg2 ⊢
      have hb2' : w2.heap[g]? = some (.cells #[.string s, .int .i64 ((a : Int) + (n : Int)), .bool false] 69 (0, 0)) := hb2
      clear hw2' hb2 c0 c1 c2 z0 z1 z2
      obtain ⟨c0, c1, c2, z0, z1, z2⟩ := rdc_cells hb2'
      have HB2 := hide hb2'
      have HG2 := hide (grown_trans (grown_drewN (grown_below (Below.refl _ _)) nq) hg2)
      clear hb2' hg2
      go_quiet (fail)
      go_wp2_with fail
      go_ret
      exact ⟨rfl, ⟨hfit, HB2.out⟩, grown_drewN HG2.out _⟩
    · have hv : takeV s a false n = (⟨#[]⟩, a, true) := by simp [takeV, hfit]
      rw [hv]
      clear hv
      have g1 : decide ((s.size : Int) - (a : Int) < (n : Int)) = true := by simp; omega
      go_enter Tryz.func31, Tryz.ntmps31
      go_wp2_with fail
      go_quiet (fail)
      go_wp2_with fail
      go_ret
      exact ⟨rfl, ⟨ha, rdc_set (w := w.drewN _) (k := 2) (.bool true) HB.out⟩, grown_trans (grown_drewN (grown_below (Below.refl _ _)) _) (rdc_grown _ g 2 _)⟩

def varV (s : ByteArray) (a : Nat) (b : Bool) : Nat × Nat × Bool :=
  match b, rdGo 5 [] ((bl s).drop a) with
  | false, some (v, c) => (v, a + c, false)
  | _, _ => (0, a, true)

set_option maxHeartbeats 1000000 in
theorem l05Var_any (g : Nat) (s : ByteArray) (hs : s.size ≤ 1048576) (a : Nat) (b : Bool) (w : World) (hc : RdC w g s a b) :
    Calls Tryz.prog 32 #[.pointer (some ⟨g, 0, none⟩)] w fun e w' =>
      e = .returned (.int .i64 ((varV s a b).1 : Int)) ∧ RdC w' g s (varV s a b).2.1 (varV s a b).2.2 ∧ w.grownBy w' (some g) := by
  have hgl := hc.lt
  obtain ⟨ha, hblk⟩ := hc
  obtain ⟨c0, c1, c2, z0, z1, z2⟩ := rdc_cells hblk
  have HB := hide hblk
  clear hblk
  cases hrd : rdGo 5 [] ((bl s).drop a) with
  | none =>
    have hv : varV s a b = (0, a, true) := by unfold varV; rw [hrd]; cases b <;> rfl
    rw [hv]
    have HRD := hide hrd
    clear hv hrd
    go_enter Tryz.func32, Tryz.ntmps32
    go_wp2_with fail
    go_region_held3 (fun w' => w'.cell? ⟨g, 0, none⟩ = some (.string s) ∧ w'.cell? ⟨g, 1, none⟩ = some (.int .i64 (a : Int))) (first | go_keep | exact ⟨(hb1.cell (by simpa using hgl)).trans c0, (hb1.cell (by simpa using hgl)).trans c1⟩)
      (first | (go_at_call 65; refine (specReadVar_any s hs a ha _).mono ?_; rw [HRD.out]; unfold rvVal; rintro e w1 ⟨rfl, hb1⟩))
    have hk1 : w1.heap[g]? = some (.cells #[.string s, .int .i64 (a : Int), .bool b] 69 (0, 0)) := (hb1.block g (by simpa using hgl)).trans HB.out
    have HG1 := hide (grown_trans (grown_drewN (grown_below (row := some g) (Below.refl _ w)) 1) (grown_below hb1))
    clear c0 c1 c2 z0 z1 z2
    obtain ⟨c0, c1, c2, z0, z1, z2⟩ := rdc_cells hk1
    have HB1 := hide hk1
    clear hk1 hb1
    cases b with
    | true =>
      go_wp2_with fail
      go_ret
      exact ⟨rfl, ⟨ha, rdc_set (w := w1) (k := 2) (.bool true) HB1.out⟩, grown_trans HG1.out (rdc_grown _ g 2 _)⟩
    | false =>
      go_wp2_with fail
      go_ret
      exact ⟨rfl, ⟨ha, rdc_set (w := w1) (k := 2) (.bool true) HB1.out⟩, grown_trans HG1.out (rdc_grown _ g 2 _)⟩
  | some r =>
    obtain ⟨v, c⟩ := r
    have hbd := rdGo_some 5 [] _ v c hrd
    have hlen : ((bl s).drop a).length = s.size - a := by rw [List.length_drop, bl_length]
    rw [hlen] at hbd
    simp only [List.length_nil] at hbd
    obtain ⟨d1, d2, d3, d4⟩ := hbd
    clear hlen
    have HRD := hide hrd
    have hv : varV s a b = if b = false then (v, a + c, false) else (0, a, true) := by unfold varV; rw [hrd]; cases b <;> rfl
    rw [hv]
    clear hrd hv
    go_enter Tryz.func32, Tryz.ntmps32
    go_wp2_with fail
    go_region_held3 (fun w' => w'.cell? ⟨g, 0, none⟩ = some (.string s) ∧ w'.cell? ⟨g, 1, none⟩ = some (.int .i64 (a : Int))) (first | go_keep | exact ⟨(hb1.cell (by simpa using hgl)).trans c0, (hb1.cell (by simpa using hgl)).trans c1⟩)
      (first | (go_at_call 65; refine (specReadVar_any s hs a ha _).mono ?_; rw [HRD.out]; unfold rvVal; rintro e w1 ⟨rfl, hb1⟩))
    have hk1 : w1.heap[g]? = some (.cells #[.string s, .int .i64 (a : Int), .bool b] 69 (0, 0)) := (hb1.block g (by simpa using hgl)).trans HB.out
    have HG1 := hide (grown_trans (grown_drewN (grown_below (row := some g) (Below.refl _ w)) 1) (grown_below hb1))
    clear c0 c1 c2 z0 z1 z2
    obtain ⟨c0, c1, c2, z0, z1, z2⟩ := rdc_cells hk1
    have HB1 := hide hk1
    clear hk1 hb1
    cases b with
    | true =>
      go_wp2_with fail
      go_ret
      exact ⟨rfl, ⟨ha, rdc_set (w := w1) (k := 2) (.bool true) HB1.out⟩, grown_trans HG1.out (rdc_grown _ g 2 _)⟩
    | false =>
      go_wp2_with fail
      go_ret
      refine ⟨rfl, ⟨by show a + c ≤ s.size; omega, ?_⟩, grown_trans HG1.out (rdc_grown _ g 1 _)⟩
      have := rdc_set (w := w1) (k := 1) (.int .i64 ((a : Int) + (c : Int))) HB1.out
      simpa using this

end Go.Proofs.YtmllcomppjkhhaaGreatDoor

namespace Go.Proofs.YtmllcomppjkhhaaGreatDoor
open Go.RowKit P1 P3 P9 P11 K
set_option linter.unusedVariables false
set_option linter.unusedSimpArgs false

theorem cat_two8 (x y : List UInt8) : (⟨x.toArray⟩ : ByteArray) ++ ⟨y.toArray⟩ = ⟨(x ++ y).toArray⟩ := by
  apply ByteArray.ext
  simp

theorem size_mk8 (l : List UInt8) : (⟨l.toArray⟩ : ByteArray).size = l.length := rfl

theorem bl_mk8 (l : List UInt8) : bl ⟨l.toArray⟩ = l := rfl

theorem shortB_length (l : List UInt8) : (shortB l).length ≤ l.length + 10 ∧ l.length ≤ (shortB l).length := by
  have := varB_length l.length
  simp only [shortB, List.length_append]
  omega

theorem l05Short_any (l : List UInt8) (hl : l.length ≤ 1048576) (w : World) :
    Calls Tryz.prog 62 #[.string ⟨l.toArray⟩] w fun e w' => e = .returned (.string ⟨(shortB l).toArray⟩) ∧ Below w.heap.size w w' := by
  have hv := varB_length l.length
  have C := cat_two8 (varB l.length) l
  have HV := hide (l01Var_any l.length (by omega))
  go_enter Tryz.func62, Tryz.ntmps62
  go_wp2_with (go_at_call 59; refine (HV.out _).mono ?_; rintro e w1 ⟨rfl, hb1⟩)
  go_ret
  exact ⟨rfl, hb1⟩

theorem drop_add8 (s : ByteArray) (a c : Nat) : ((bl s).drop a).drop c = (bl s).drop (a + c) := by rw [List.drop_drop]

theorem extract_list (s : ByteArray) (a n : Nat) (h : a + n ≤ s.size) : s.extract a (a + n) = ⟨(((bl s).drop a).take n).toArray⟩ := by
  apply ByteArray.ext
  rw [ByteArray.data_extract]
  apply Array.ext'
  rw [Array.toList_extract, List.extract_eq_take_drop]
  show List.take (a + n - a) ((bl s).drop a) = _
  rw [show a + n - a = n by omega]

def shortV (s : ByteArray) (a : Nat) (b : Bool) : List UInt8 × Nat × Bool :=
  (bl (takeV s (varV s a b).2.1 (varV s a b).2.2 (varV s a b).1).1, (takeV s (varV s a b).2.1 (varV s a b).2.2 (varV s a b).1).2)

theorem varV_le (s : ByteArray) (a : Nat) (b : Bool) : (varV s a b).1 ≤ 1000000000 := by
  unfold varV
  split
  · rename_i v c h
    exact (rdGo_some 5 [] _ v c h).1
  · exact Nat.zero_le _

set_option maxHeartbeats 1000000 in
theorem l05ReadShort_any (g : Nat) (s : ByteArray) (hs : s.size ≤ 1048576) (a : Nat) (b : Bool) (w : World) (hc : RdC w g s a b) :
    Calls Tryz.prog 34 #[.pointer (some ⟨g, 0, none⟩)] w fun e w' =>
      e = .returned (.string ⟨(shortV s a b).1.toArray⟩) ∧ RdC w' g s (shortV s a b).2.1 (shortV s a b).2.2 ∧ w.grownBy w' (some g) := by
  have hle := varV_le s a b
  have HV := hide (l05Var_any g s hs a b w hc)
  unfold shortV
  generalize varV s a b = q at HV hle ⊢
  obtain ⟨n, a1, b1⟩ := q
  simp only at HV hle ⊢
  have HT := hide (fun w hc => l05Take_any g s hs a1 b1 n hle w hc)
  clear hc
  generalize takeV s a1 b1 n = q at HT ⊢
  obtain ⟨x, a2, b2⟩ := q
  simp only at HT ⊢
  go_enter Tryz.func34, Tryz.ntmps34
  go_wp2_with fail
  refine HV.out.mono ?_
  rintro e w1 ⟨rfl, hc1, hg1⟩
  have HC1 := hide hc1
  have HG1 := hide hg1
  clear hc1 hg1
  go_wp2_with fail
  refine (HT.out _ HC1.out).mono ?_
  rintro e w2 ⟨rfl, hc2, hg2⟩
  have HC2 := hide hc2
  have HG2 := hide (grown_trans HG1.out hg2)
  clear hc2 hg2
  go_wp2_with fail
  go_ret
  exact ⟨rfl, HC2.out, HG2.out⟩

theorem varV_rd {s : ByteArray} {a : Nat} {b : Bool} {v a' : Nat} {b' : Bool} (h : varV s a b = (v, a', b')) :
    (b' = false → b = false ∧ rdV ((bl s).drop a) = some (v, (bl s).drop a')) ∧ (b' = true → b = false → rdV ((bl s).drop a) = none) := by
  unfold varV at h
  unfold rdV
  cases b with
  | true =>
    simp only [Prod.mk.injEq] at h
    obtain ⟨rfl, rfl, rfl⟩ := h
    exact ⟨fun q => (by cases q), fun _ q => (by cases q)⟩
  | false =>
    cases hr : rdGo 5 [] ((bl s).drop a) with
    | none =>
      rw [hr] at h
      simp only [Prod.mk.injEq] at h
      obtain ⟨rfl, rfl, rfl⟩ := h
      exact ⟨fun q => (by cases q), fun _ _ => rfl⟩
    | some p =>
      obtain ⟨n, c⟩ := p
      rw [hr] at h
      simp only [Prod.mk.injEq] at h
      obtain ⟨rfl, rfl, rfl⟩ := h
      exact ⟨fun _ => ⟨rfl, by simp only; rw [drop_add8]⟩, fun q => by cases q⟩

theorem varV_in {s : ByteArray} {a : Nat} {b : Bool} (ha : a ≤ s.size) : (varV s a b).2.1 ≤ s.size := by
  unfold varV
  split
  · rename_i v c h
    have := (rdGo_some 5 [] _ v c h).2.2
    rw [List.length_drop, bl_length, List.length_nil] at this
    simp only
    omega
  · exact ha

theorem shortV_rd {s : ByteArray} {a : Nat} (ha : a ≤ s.size) {b : Bool} {x : List UInt8} {a' : Nat} {b' : Bool} (h : shortV s a b = (x, a', b')) :
    (b' = false → b = false ∧ rdS ((bl s).drop a) = some (x, (bl s).drop a')) ∧ (b' = true → b = false → rdS ((bl s).drop a) = none) := by
  unfold shortV at h
  have hin := varV_in (b := b) ha
  obtain ⟨n, a1, b1, h1⟩ : ∃ n a1 b1, varV s a b = (n, a1, b1) := ⟨_, _, _, rfl⟩
  rw [h1] at h hin
  simp only at h hin
  obtain ⟨g1, g2⟩ := varV_rd h1
  unfold takeV at h
  cases b1 with
  | true =>
    simp only [Bool.true_eq_false, false_and, if_false, Prod.mk.injEq] at h
    obtain ⟨rfl, rfl, rfl⟩ := h
    refine ⟨fun q => (by cases q), fun _ q => ?_⟩
    unfold rdS
    rw [g2 rfl q]
  | false =>
    obtain ⟨hb, hr⟩ := g1 rfl
    by_cases hf : a1 + n ≤ s.size
    · rw [if_pos ⟨rfl, hf⟩] at h
      simp only [Prod.mk.injEq] at h
      obtain ⟨rfl, rfl, rfl⟩ := h
      refine ⟨fun _ => ⟨hb, ?_⟩, fun q => (by cases q)⟩
      unfold rdS
      rw [hr]
      simp only
      rw [if_pos (by rw [List.length_drop, bl_length]; omega), extract_list s a1 n hf, drop_add8, bl_mk8]
    · rw [if_neg (fun q => hf q.2)] at h
      simp only [Prod.mk.injEq] at h
      obtain ⟨rfl, rfl, rfl⟩ := h
      refine ⟨fun q => (by cases q), fun _ _ => ?_⟩
      unfold rdS
      rw [hr]
      simp only
      rw [if_neg (by rw [List.length_drop, bl_length]; omega)]

theorem shortV_len (s : ByteArray) (a : Nat) (b : Bool) : (shortV s a b).1.length ≤ s.size := by
  unfold shortV
  simp only
  unfold takeV
  split
  · rw [bl_length, ByteArray.size_extract]; omega
  · exact Nat.zero_le _

end Go.Proofs.YtmllcomppjkhhaaGreatDoor
