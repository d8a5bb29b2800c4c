/-
  Walks and mathematics of Msg9.
-/
import Derived.Test.YtmllcomppjkhhaaGreatDoorRGhost
import Derived.Test.YtmllcomppjkhhaaGreatDoorRMsgA
import Derived.Test.YtmllcomppjkhhaaGreatDoorRBase
namespace Go.Proofs.YtmllcomppjkhhaaGreatDoor.P18
end Go.Proofs.YtmllcomppjkhhaaGreatDoor.P18
namespace Go.Proofs.YtmllcomppjkhhaaGreatDoor.P3
end Go.Proofs.YtmllcomppjkhhaaGreatDoor.P3
namespace Go.Proofs.YtmllcomppjkhhaaGreatDoor
open Go.RowKit P1 P3 P9 P11 P12 P18 K
set_option linter.unusedVariables false
set_option linter.unusedSimpArgs false

def ct15 (R : Nat) (kd fr to tm ix lt cm : Int) (ok la : Bool) (oa : Option Addr) (n cl : Nat) (X0 X1 X2 X3 X4 X5 X6 X7 Y1 Y2 Y3 Y4 Y5 Y6 Y7 : ByteArray) : Nat → Option Value
  | 0 => some (.pointer (some ⟨R, 0, none⟩))
  | 1 => some (.int .i64 kd)
  | 2 => some (.int .u8 kd)
  | 3 => some (.pointer (some ⟨R, 1, none⟩))
  | 4 => some (.int .i64 fr)
  | 5 => some (.int .u8 fr)
  | 6 => some (.pointer (some ⟨R, 2, none⟩))
  | 7 => some (.int .i64 to)
  | 8 => some (.int .u8 to)
  | 10 => some (.string X0)
  | 11 => some (.pointer (some ⟨R, 3, none⟩))
  | 12 => some (.int .i64 tm)
  | 13 => some (.string X1)
  | 14 => some (.string Y1)
  | 15 => some (.pointer (some ⟨R, 4, none⟩))
  | 16 => some (.int .i64 ix)
  | 17 => some (.string X2)
  | 18 => some (.string Y2)
  | 19 => some (.pointer (some ⟨R, 5, none⟩))
  | 20 => some (.int .i64 lt)
  | 21 => some (.string X3)
  | 22 => some (.string Y3)
  | 23 => some (.pointer (some ⟨R, 6, none⟩))
  | 24 => some (.int .i64 cm)
  | 25 => some (.string X4)
  | 26 => some (.string Y4)
  | 27 => some (.pointer (some ⟨R, 7, none⟩))
  | 28 => some (.bool ok)
  | 29 => some (.string X5)
  | 30 => some (.string Y5)
  | 31 => some (.pointer (some ⟨R, 11, none⟩))
  | 32 => some (.bool la)
  | 33 => some (.string X6)
  | 34 => some (.string Y6)
  | 35 => some (.pointer (some ⟨R, 8, none⟩))
  | 36 => some (.slice oa n cl)
  | 37 => some (.int .i64 (n : Int))
  | 38 => some (.string X7)
  | 39 => some (.string Y7)
  | 40 => some (.string Y7)
  | _ => none

structure J15 (B : Nat) (W : World) (ct : Nat → Option Value) (hd : List UInt8) (V : Gh) (w : World) : Prop where
  pt : PT ct V
  bel : Below B W w
  up : B ≤ w.heap.size
  r9 : ∀ v, V 9 = some v → w.ownsRow B 5 1 v 3 (B8 hd)

section
variable {B : Nat} {W : World} {ct : Nat → Option Value} {hd : List UInt8} {V : Gh} {w w' : World}

theorem J15.on (h : J15 B W ct hd V w) (hb : Below w.heap.size w w') : J15 B W ct hd V w' := ⟨h.pt, h.bel.trans (hb.mono h.up), Nat.le_trans h.up hb.size, fun v hv => own_below (h.r9 v hv) hb⟩

theorem J15.put (h : J15 B W ct hd V w) {i : Nat} {v : Value} (hi : V i = none) (hc : ∀ c, ct i = some c → v = c) (a9 : i = 9 → w.ownsRow B 5 1 v 3 (B8 hd)) : J15 B W ct hd (V.set i v) w := by
  refine ⟨h.pt.set hc, h.bel, h.up, fun u hu => ?_⟩
  by_cases e : 9 = i
  · subst e; rw [Gh.set_self] at hu; cases hu; exact a9 rfl
  · rw [Gh.set_ne V v e] at hu; exact h.r9 u hu
end

def tabE : List (Option Tmp × Op) := [(some 13, .fieldAddr 27 (.tmp 1) 0), (some 14, .load 3 (.tmp 13)), (some 15, .convert 3 5 (.tmp 14)), (some 16, .fieldAddr 27 (.tmp 1) 1), (some 17, .load 3 (.tmp 16)), (some 18, .convert 3 5 (.tmp 17)), (some 19, .fieldAddr 27 (.tmp 1) 2), (some 20, .load 3 (.tmp 19)), (some 21, .convert 3 5 (.tmp 20)), (some 22, .buildSlice 22 3 #[(0, .tmp 15), (1, .tmp 18), (2, .tmp 21)]), (some 23, .convert 22 9 (.tmp 22)), (some 24, .fieldAddr 27 (.tmp 1) 3), (some 25, .load 3 (.tmp 24)), (some 26, .call { callee := .value (.func 59), args := #[.tmp 25], argTypes := #[3] }), (some 27, .binOp .add 9 (.tmp 23) (.tmp 26) 9), (some 28, .fieldAddr 27 (.tmp 1) 4), (some 29, .load 3 (.tmp 28)), (some 30, .call { callee := .value (.func 59), args := #[.tmp 29], argTypes := #[3] }), (some 31, .binOp .add 9 (.tmp 27) (.tmp 30) 9), (some 32, .fieldAddr 27 (.tmp 1) 5), (some 33, .load 3 (.tmp 32)), (some 34, .call { callee := .value (.func 59), args := #[.tmp 33], argTypes := #[3] }), (some 35, .binOp .add 9 (.tmp 31) (.tmp 34) 9), (some 36, .fieldAddr 27 (.tmp 1) 6), (some 37, .load 3 (.tmp 36)), (some 38, .call { callee := .value (.func 59), args := #[.tmp 37], argTypes := #[3] }), (some 39, .binOp .add 9 (.tmp 35) (.tmp 38) 9), (some 40, .fieldAddr 27 (.tmp 1) 7), (some 41, .load 4 (.tmp 40)), (some 42, .call { callee := .value (.func 60), args := #[.tmp 41], argTypes := #[4] }), (some 43, .binOp .add 9 (.tmp 39) (.tmp 42) 9), (some 44, .fieldAddr 27 (.tmp 1) 11), (some 45, .load 4 (.tmp 44)), (some 46, .call { callee := .value (.func 60), args := #[.tmp 45], argTypes := #[4] }), (some 47, .binOp .add 9 (.tmp 43) (.tmp 46) 9), (some 48, .fieldAddr 27 (.tmp 1) 8), (some 49, .load 24 (.tmp 48)), (some 50, .call { callee := .builtin .len, args := #[.tmp 49], argTypes := #[24] }), (some 51, .call { callee := .value (.func 59), args := #[.tmp 50], argTypes := #[3] }), (some 52, .binOp .add 9 (.tmp 47) (.tmp 51) 9), (some 4, .assign (.tmp 52))]

def depE : List (List Nat) := [[], [0], [1], [], [3], [4], [], [6], [7], [2, 5, 8], [9], [], [11], [12], [10, 13], [], [15], [16], [14, 17], [], [19], [20], [18, 21], [], [23], [24], [22, 25], [], [27], [28], [26, 29], [], [31], [32], [30, 33], [], [35], [36], [37], [34, 38], [39]]

set_option maxHeartbeats 8000000 in
theorem enc_region {id : Nat} {ops : Array Oper} {Q : Exit → Act → World → Prop} {a0 : Act} {w : World} (hm : Tryz.prog.follows .mixedOrders = true) (htab : opTab ops = tabE) (hdp : depHas ops depE = true) (hfree : opFree ops = true) (hd : dstsOk ops = true) (hl : lowOk ops = true) (n1 : noDst ops 1 = true)
    {R : Nat} {kd fr to tm ix lt cm : Int} {ok la : Bool} {oa : Option Addr} {n cl : Nat} {xc : Value} {da : ByteArray} {hd3 : List UInt8} {X0 X1 X2 X3 X4 X5 X6 X7 Y1 Y2 Y3 Y4 Y5 Y6 Y7 : ByteArray}
    (hsz : 87 ≤ a0.tmps.size) (e1 : a0.eval (.tmp 1) = .pointer (some ⟨R, 0, none⟩))
    (HK : Hid (IntKind.u8.wrap kd = kd)) (HF : Hid (IntKind.u8.wrap fr = fr)) (HTO : Hid (IntKind.u8.wrap to = to)) (hn : n ≤ 1000000)
    (hrow : (#[.int .u8 kd, .int .u8 fr, .int .u8 to] : Array Value).toList = B8 hd3) (HX0 : Hid (X0 = ⟨hd3.toArray⟩))
    (f1 : ∀ wx, (Op.stringOp .add X0 X1).run Tryz.prog wx = .ok (.string Y1) wx)
    (f2 : ∀ wx, (Op.stringOp .add Y1 X2).run Tryz.prog wx = .ok (.string Y2) wx)
    (f3 : ∀ wx, (Op.stringOp .add Y2 X3).run Tryz.prog wx = .ok (.string Y3) wx)
    (f4 : ∀ wx, (Op.stringOp .add Y3 X4).run Tryz.prog wx = .ok (.string Y4) wx)
    (f5 : ∀ wx, (Op.stringOp .add Y4 X5).run Tryz.prog wx = .ok (.string Y5) wx)
    (f6 : ∀ wx, (Op.stringOp .add Y5 X6).run Tryz.prog wx = .ok (.string Y6) wx)
    (f7 : ∀ wx, (Op.stringOp .add Y6 X7).run Tryz.prog wx = .ok (.string Y7) wx)
    (HC1 : Hid (∀ w, Calls Tryz.prog 59 #[.int .i64 tm] w fun e w' => e = .returned (.string X1) ∧ Below w.heap.size w w'))
    (HC2 : Hid (∀ w, Calls Tryz.prog 59 #[.int .i64 ix] w fun e w' => e = .returned (.string X2) ∧ Below w.heap.size w w'))
    (HC3 : Hid (∀ w, Calls Tryz.prog 59 #[.int .i64 lt] w fun e w' => e = .returned (.string X3) ∧ Below w.heap.size w w'))
    (HC4 : Hid (∀ w, Calls Tryz.prog 59 #[.int .i64 cm] w fun e w' => e = .returned (.string X4) ∧ Below w.heap.size w w'))
    (HC5 : Hid (∀ w, Calls Tryz.prog 60 #[.bool ok] w fun e w' => e = .returned (.string X5) ∧ Below w.heap.size w w'))
    (HC6 : Hid (∀ w, Calls Tryz.prog 60 #[.bool la] w fun e w' => e = .returned (.string X6) ∧ Below w.heap.size w w'))
    (HC7 : Hid (∀ w, Calls Tryz.prog 59 #[.int .i64 (n : Int)] w fun e w' => e = .returned (.string X7) ∧ Below w.heap.size w w'))
    (hroom : ∀ w', Below w.heap.size w w' → w'.cell? ⟨R, 0, none⟩ = some (.int .i64 kd) ∧ w'.cell? ⟨R, 1, none⟩ = some (.int .i64 fr) ∧ w'.cell? ⟨R, 2, none⟩ = some (.int .i64 to) ∧ w'.cell? ⟨R, 3, none⟩ = some (.int .i64 tm) ∧ w'.cell? ⟨R, 4, none⟩ = some (.int .i64 ix) ∧ w'.cell? ⟨R, 5, none⟩ = some (.int .i64 lt) ∧ w'.cell? ⟨R, 6, none⟩ = some (.int .i64 cm) ∧ w'.cell? ⟨R, 7, none⟩ = some (.bool ok) ∧ w'.cell? ⟨R, 8, none⟩ = some (.slice oa n cl) ∧ w'.cell? ⟨R, 9, none⟩ = some xc ∧ w'.cell? ⟨R, 10, none⟩ = some (.string da) ∧ w'.cell? ⟨R, 11, none⟩ = some (.bool la))
    (hend : ∀ (V : Gh) (w' : World), (∀ k, k < 41 → ∃ v, V k = some v) → PT (ct15 R kd fr to tm ix lt cm ok la oa n cl X0 X1 X2 X3 X4 X5 X6 X7 Y1 Y2 Y3 Y4 Y5 Y6 Y7) V → Below w.heap.size w w' → Q .normal (actG ops V a0 ops.size) w') : (Code.region id ops true).wp Tryz.prog Q a0 w := by
  have hops : ops.size = 41 := by
    have := congrArg List.length htab
    simpa [opTab, tabE] using this
  have hget : ∀ k (hk : k < 41), ops[k]? = some (ops[k]'(by omega)) := fun k hk => Array.getElem?_eq_getElem (by omega)
  have hdst : ∀ k t, (tabE[k]?).map (·.1) = some (some t) → (hk : k < 41) → (ops[k]'(by omega)).dst = some t := fun k t ht hk => by
    have := opTab_at htab (hget k hk)
    rw [this] at ht
    simpa using ht
  refine wp_region_ghost hm hd hl (J15 w.heap.size w (ct15 R kd fr to tm ix lt cm ok la oa n cl X0 X1 X2 X3 X4 X5 X6 X7 Y1 Y2 Y3 Y4 Y5 Y6 Y7) hd3) ?_ ?_ ?_
  · exact ⟨(fun k v c h => by cases h), (Below.refl _ _).drew, Nat.le_refl _, fun v h => by cases h⟩
  · intro i o V w7 ho hVi hdep0 hcl hJ
    have hi : i < 41 := by have := (Array.getElem?_eq_some_iff.1 ho).1; omega
    have hop0 := opTab_at htab ho
    have hg := opFree_at hfree ho
    have hdep : ∀ {l : List Nat}, depE[i]? = some l → ∀ k ∈ l, ∃ v, V k = some v := fun hl => opDep_at hdp ho hdep0 hl
    have hlate : ∀ k, i ∈ (depE[k]?).getD [] → V k = none := fun k hk => by
      cases hv : V k with
      | none => rfl
      | some v =>
        exfalso
        cases hl : depE[k]? with
        | none => rw [hl] at hk; simp at hk
        | some l =>
          rw [hl] at hk
          have hk24 : k < 41 := by have := (List.getElem?_eq_some_iff.1 hl).1; simpa [depE] using this
          obtain ⟨u, hu⟩ := opDep_at hdp (hget k hk24) (hcl k _ (hget k hk24) (by rw [hv]; rfl)) hl i (by simpa using hk)
          rw [hVi] at hu
          cases hu
    clear hdep0 hcl
    have hcases : i = 0 ∨ i = 1 ∨ i = 2 ∨ i = 3 ∨ i = 4 ∨ i = 5 ∨ i = 6 ∨ i = 7 ∨ i = 8 ∨ i = 9 ∨ i = 10 ∨ i = 11 ∨ i = 12 ∨ i = 13 ∨ i = 14 ∨ i = 15 ∨ i = 16 ∨ i = 17 ∨ i = 18 ∨ i = 19 ∨ i = 20 ∨ i = 21 ∨ i = 22 ∨ i = 23 ∨ i = 24 ∨ i = 25 ∨ i = 26 ∨ i = 27 ∨ i = 28 ∨ i = 29 ∨ i = 30 ∨ i = 31 ∨ i = 32 ∨ i = 33 ∨ i = 34 ∨ i = 35 ∨ i = 36 ∨ i = 37 ∨ i = 38 ∨ i = 39 ∨ i = 40 := by omega
    rcases hcases with rfl | rfl | rfl | rfl | rfl | rfl | rfl | rfl | rfl | rfl | rfl | rfl | rfl | rfl | rfl | rfl | rfl | rfl | rfl | rfl | rfl | rfl | rfl | rfl | rfl | rfl | rfl | rfl | rfl | rfl | rfl | rfl | rfl | rfl | rfl | rfl | rfl | rfl | rfl | rfl | rfl
    · have hop : o.op = .fieldAddr 27 (.tmp 1) 0 := by (have h := hop0; simp only [tabE, List.getElem?_cons_zero, List.getElem?_cons_succ, Option.some.injEq, Prod.mk.injEq] at h; exact h.2.symm)
      replace hdep := hdep (l := depE.getD 0 []) (by rfl)
      have E1 := (eval_other (V := V) (a := a0) ops.size (noDst_of n1)).trans e1
      refine gop ho hg ?_ ⟨_, rfl, hJ.put hVi (fun c hc => by cases hc; rfl) (fun h => by omega)⟩
      obtain ⟨dst, op, ty, pos, after, guard⟩ := o
      simp only at hop
      subst hop
      generalize actG ops V a0 ops.size = A at E1 ⊢
      clear hJ hget hdst hroom hend hdep hlate
      simp only [Act.eval, Array.getD_eq_getD_getElem?] at E1
      go_simp
    · have hop : o.op = .load 3 (.tmp 13) := by (have h := hop0; simp only [tabE, List.getElem?_cons_zero, List.getElem?_cons_succ, Option.some.injEq, Prod.mk.injEq] at h; exact h.2.symm)
      replace hdep := hdep (l := depE.getD 1 []) (by rfl)
      obtain ⟨v0, g0⟩ := hdep 0 (by simp [depE])
      have E13 : (actG ops V a0 ops.size).eval (.tmp 13) = v0 := eval_done hd (hget 0 (by omega)) (hdst 0 13 (by simp [tabE]) (by omega)) g0 (by omega) _ (by omega)
      obtain rfl : v0 = _ := hJ.pt 0 v0 _ g0 rfl
      obtain ⟨r0, r1, r2, r3, r4, r5, r6, r7, r8, r9, r10, r11⟩ := hroom _ hJ.bel
      refine gop ho hg ?_ ⟨_, rfl, hJ.put hVi (fun c hc => by cases hc; rfl) (fun h => by omega)⟩
      obtain ⟨dst, op, ty, pos, after, guard⟩ := o
      simp only at hop
      subst hop
      generalize actG ops V a0 ops.size = A at E13 ⊢
      clear hJ hget hdst hroom hend hdep hlate
      simp only [Act.eval, Array.getD_eq_getD_getElem?] at E13
      go_simp
    · have hop : o.op = .convert 3 5 (.tmp 14) := by (have h := hop0; simp only [tabE, List.getElem?_cons_zero, List.getElem?_cons_succ, Option.some.injEq, Prod.mk.injEq] at h; exact h.2.symm)
      replace hdep := hdep (l := depE.getD 2 []) (by rfl)
      obtain ⟨v1, g1⟩ := hdep 1 (by simp [depE])
      have E14 : (actG ops V a0 ops.size).eval (.tmp 14) = v1 := eval_done hd (hget 1 (by omega)) (hdst 1 14 (by simp [tabE]) (by omega)) g1 (by omega) _ (by omega)
      obtain rfl : v1 = _ := hJ.pt 1 v1 _ g1 rfl
      refine gop ho hg ?_ ⟨_, rfl, hJ.put hVi (fun c hc => by cases hc; rfl) (fun h => by omega)⟩
      obtain ⟨dst, op, ty, pos, after, guard⟩ := o
      simp only at hop
      subst hop
      generalize actG ops V a0 ops.size = A at E14 ⊢
      clear hJ hget hdst hroom hend hdep hlate
      simp only [Act.eval, Array.getD_eq_getD_getElem?] at E14
      go_simp
      exact HK.out
    · have hop : o.op = .fieldAddr 27 (.tmp 1) 1 := by (have h := hop0; simp only [tabE, List.getElem?_cons_zero, List.getElem?_cons_succ, Option.some.injEq, Prod.mk.injEq] at h; exact h.2.symm)
      replace hdep := hdep (l := depE.getD 3 []) (by rfl)
      have E1 := (eval_other (V := V) (a := a0) ops.size (noDst_of n1)).trans e1
      refine gop ho hg ?_ ⟨_, rfl, hJ.put hVi (fun c hc => by cases hc; rfl) (fun h => by omega)⟩
      obtain ⟨dst, op, ty, pos, after, guard⟩ := o
      simp only at hop
      subst hop
      generalize actG ops V a0 ops.size = A at E1 ⊢
      clear hJ hget hdst hroom hend hdep hlate
      simp only [Act.eval, Array.getD_eq_getD_getElem?] at E1
      go_simp
    · have hop : o.op = .load 3 (.tmp 16) := by (have h := hop0; simp only [tabE, List.getElem?_cons_zero, List.getElem?_cons_succ, Option.some.injEq, Prod.mk.injEq] at h; exact h.2.symm)
      replace hdep := hdep (l := depE.getD 4 []) (by rfl)
      obtain ⟨v3, g3⟩ := hdep 3 (by simp [depE])
      have E16 : (actG ops V a0 ops.size).eval (.tmp 16) = v3 := eval_done hd (hget 3 (by omega)) (hdst 3 16 (by simp [tabE]) (by omega)) g3 (by omega) _ (by omega)
      obtain rfl : v3 = _ := hJ.pt 3 v3 _ g3 rfl
      obtain ⟨r0, r1, r2, r3, r4, r5, r6, r7, r8, r9, r10, r11⟩ := hroom _ hJ.bel
      refine gop ho hg ?_ ⟨_, rfl, hJ.put hVi (fun c hc => by cases hc; rfl) (fun h => by omega)⟩
      obtain ⟨dst, op, ty, pos, after, guard⟩ := o
      simp only at hop
      subst hop
      generalize actG ops V a0 ops.size = A at E16 ⊢
      clear hJ hget hdst hroom hend hdep hlate
      simp only [Act.eval, Array.getD_eq_getD_getElem?] at E16
      go_simp
    · have hop : o.op = .convert 3 5 (.tmp 17) := by (have h := hop0; simp only [tabE, List.getElem?_cons_zero, List.getElem?_cons_succ, Option.some.injEq, Prod.mk.injEq] at h; exact h.2.symm)
      replace hdep := hdep (l := depE.getD 5 []) (by rfl)
      obtain ⟨v4, g4⟩ := hdep 4 (by simp [depE])
      have E17 : (actG ops V a0 ops.size).eval (.tmp 17) = v4 := eval_done hd (hget 4 (by omega)) (hdst 4 17 (by simp [tabE]) (by omega)) g4 (by omega) _ (by omega)
      obtain rfl : v4 = _ := hJ.pt 4 v4 _ g4 rfl
      refine gop ho hg ?_ ⟨_, rfl, hJ.put hVi (fun c hc => by cases hc; rfl) (fun h => by omega)⟩
      obtain ⟨dst, op, ty, pos, after, guard⟩ := o
      simp only at hop
      subst hop
      generalize actG ops V a0 ops.size = A at E17 ⊢
      clear hJ hget hdst hroom hend hdep hlate
      simp only [Act.eval, Array.getD_eq_getD_getElem?] at E17
      go_simp
      exact HF.out
    · have hop : o.op = .fieldAddr 27 (.tmp 1) 2 := by (have h := hop0; simp only [tabE, List.getElem?_cons_zero, List.getElem?_cons_succ, Option.some.injEq, Prod.mk.injEq] at h; exact h.2.symm)
      replace hdep := hdep (l := depE.getD 6 []) (by rfl)
      have E1 := (eval_other (V := V) (a := a0) ops.size (noDst_of n1)).trans e1
      refine gop ho hg ?_ ⟨_, rfl, hJ.put hVi (fun c hc => by cases hc; rfl) (fun h => by omega)⟩
      obtain ⟨dst, op, ty, pos, after, guard⟩ := o
      simp only at hop
      subst hop
      generalize actG ops V a0 ops.size = A at E1 ⊢
      clear hJ hget hdst hroom hend hdep hlate
      simp only [Act.eval, Array.getD_eq_getD_getElem?] at E1
      go_simp
    · have hop : o.op = .load 3 (.tmp 19) := by (have h := hop0; simp only [tabE, List.getElem?_cons_zero, List.getElem?_cons_succ, Option.some.injEq, Prod.mk.injEq] at h; exact h.2.symm)
      replace hdep := hdep (l := depE.getD 7 []) (by rfl)
      obtain ⟨v6, g6⟩ := hdep 6 (by simp [depE])
      have E19 : (actG ops V a0 ops.size).eval (.tmp 19) = v6 := eval_done hd (hget 6 (by omega)) (hdst 6 19 (by simp [tabE]) (by omega)) g6 (by omega) _ (by omega)
      obtain rfl : v6 = _ := hJ.pt 6 v6 _ g6 rfl
      obtain ⟨r0, r1, r2, r3, r4, r5, r6, r7, r8, r9, r10, r11⟩ := hroom _ hJ.bel
      refine gop ho hg ?_ ⟨_, rfl, hJ.put hVi (fun c hc => by cases hc; rfl) (fun h => by omega)⟩
      obtain ⟨dst, op, ty, pos, after, guard⟩ := o
      simp only at hop
      subst hop
      generalize actG ops V a0 ops.size = A at E19 ⊢
      clear hJ hget hdst hroom hend hdep hlate
      simp only [Act.eval, Array.getD_eq_getD_getElem?] at E19
      go_simp
    · have hop : o.op = .convert 3 5 (.tmp 20) := by (have h := hop0; simp only [tabE, List.getElem?_cons_zero, List.getElem?_cons_succ, Option.some.injEq, Prod.mk.injEq] at h; exact h.2.symm)
      replace hdep := hdep (l := depE.getD 8 []) (by rfl)
      obtain ⟨v7, g7⟩ := hdep 7 (by simp [depE])
      have E20 : (actG ops V a0 ops.size).eval (.tmp 20) = v7 := eval_done hd (hget 7 (by omega)) (hdst 7 20 (by simp [tabE]) (by omega)) g7 (by omega) _ (by omega)
      obtain rfl : v7 = _ := hJ.pt 7 v7 _ g7 rfl
      refine gop ho hg ?_ ⟨_, rfl, hJ.put hVi (fun c hc => by cases hc; rfl) (fun h => by omega)⟩
      obtain ⟨dst, op, ty, pos, after, guard⟩ := o
      simp only at hop
      subst hop
      generalize actG ops V a0 ops.size = A at E20 ⊢
      clear hJ hget hdst hroom hend hdep hlate
      simp only [Act.eval, Array.getD_eq_getD_getElem?] at E20
      go_simp
      exact HTO.out
    · have hop : o.op = .buildSlice 22 3 #[(0, .tmp 15), (1, .tmp 18), (2, .tmp 21)] := by (have h := hop0; simp only [tabE, List.getElem?_cons_zero, List.getElem?_cons_succ, Option.some.injEq, Prod.mk.injEq] at h; exact h.2.symm)
      replace hdep := hdep (l := depE.getD 9 []) (by rfl)
      obtain ⟨v2, g2⟩ := hdep 2 (by simp [depE])
      obtain ⟨v5, g5⟩ := hdep 5 (by simp [depE])
      obtain ⟨v8, g8⟩ := hdep 8 (by simp [depE])
      have E15 : (actG ops V a0 ops.size).eval (.tmp 15) = v2 := eval_done hd (hget 2 (by omega)) (hdst 2 15 (by simp [tabE]) (by omega)) g2 (by omega) _ (by omega)
      have E18 : (actG ops V a0 ops.size).eval (.tmp 18) = v5 := eval_done hd (hget 5 (by omega)) (hdst 5 18 (by simp [tabE]) (by omega)) g5 (by omega) _ (by omega)
      have E21 : (actG ops V a0 ops.size).eval (.tmp 21) = v8 := eval_done hd (hget 8 (by omega)) (hdst 8 21 (by simp [tabE]) (by omega)) g8 (by omega) _ (by omega)
      obtain rfl : v2 = _ := hJ.pt 2 v2 _ g2 rfl
      obtain rfl : v5 = _ := hJ.pt 5 v5 _ g5 rfl
      obtain rfl : v8 = _ := hJ.pt 8 v8 _ g8 rfl
      have hb : Below w7.heap.size w7 (w7.alloc (.cells #[.int .u8 kd, .int .u8 fr, .int .u8 to] 5)) := (Below.refl _ _).alloc (Nat.le_refl _) _
      have how := World.ownsRow_lit (base := w.heap.size) (e := 5) (size := 1) w7 #[.int .u8 kd, .int .u8 fr, .int .u8 to] 3 hJ.up (by decide) (by simp)
      rw [hrow] at how
      refine gop ho hg ?_ ⟨.slice (some ⟨w7.heap.size, 0, none⟩) 3 3, rfl, (hJ.on hb).put hVi (fun c hc => by cases hc) (fun _ => how)⟩
      clear how
      obtain ⟨dst, op, ty, pos, after, guard⟩ := o
      simp only at hop
      subst hop
      generalize actG ops V a0 ops.size = A at E15 E18 E21 ⊢
      clear hJ hget hdst hroom hend hdep hlate
      simp only [Act.eval, Array.getD_eq_getD_getElem?] at E15 E18 E21
      go_simp
    · have hop : o.op = .convert 22 9 (.tmp 22) := by (have h := hop0; simp only [tabE, List.getElem?_cons_zero, List.getElem?_cons_succ, Option.some.injEq, Prod.mk.injEq] at h; exact h.2.symm)
      replace hdep := hdep (l := depE.getD 10 []) (by rfl)
      obtain ⟨v9, g9⟩ := hdep 9 (by simp [depE])
      have E22 : (actG ops V a0 ops.size).eval (.tmp 22) = v9 := eval_done hd (hget 9 (by omega)) (hdst 9 22 (by simp [tabE]) (by omega)) g9 (by omega) _ (by omega)
      have hconv := run_string_own (P := Tryz.prog) (src := 22) (dst := 9) Tryz.underlying22 Tryz.underlying5 Tryz.underlying9 (hJ.r9 v9 g9)
      rw [← HX0.out] at hconv
      refine gop ho hg ?_ ⟨_, rfl, hJ.put hVi (fun c hc => by cases hc; rfl) (fun h => by omega)⟩
      obtain ⟨dst, op, ty, pos, after, guard⟩ := o
      simp only at hop
      subst hop
      generalize actG ops V a0 ops.size = A at E22 ⊢
      clear hJ hget hdst hroom hend hdep hlate
      simp only [Act.eval, Array.getD_eq_getD_getElem?] at E22
      go_simp
    · have hop : o.op = .fieldAddr 27 (.tmp 1) 3 := by (have h := hop0; simp only [tabE, List.getElem?_cons_zero, List.getElem?_cons_succ, Option.some.injEq, Prod.mk.injEq] at h; exact h.2.symm)
      replace hdep := hdep (l := depE.getD 11 []) (by rfl)
      have E1 := (eval_other (V := V) (a := a0) ops.size (noDst_of n1)).trans e1
      refine gop ho hg ?_ ⟨_, rfl, hJ.put hVi (fun c hc => by cases hc; rfl) (fun h => by omega)⟩
      obtain ⟨dst, op, ty, pos, after, guard⟩ := o
      simp only at hop
      subst hop
      generalize actG ops V a0 ops.size = A at E1 ⊢
      clear hJ hget hdst hroom hend hdep hlate
      simp only [Act.eval, Array.getD_eq_getD_getElem?] at E1
      go_simp
    · have hop : o.op = .load 3 (.tmp 24) := by (have h := hop0; simp only [tabE, List.getElem?_cons_zero, List.getElem?_cons_succ, Option.some.injEq, Prod.mk.injEq] at h; exact h.2.symm)
      replace hdep := hdep (l := depE.getD 12 []) (by rfl)
      obtain ⟨v11, g11⟩ := hdep 11 (by simp [depE])
      have E24 : (actG ops V a0 ops.size).eval (.tmp 24) = v11 := eval_done hd (hget 11 (by omega)) (hdst 11 24 (by simp [tabE]) (by omega)) g11 (by omega) _ (by omega)
      obtain rfl : v11 = _ := hJ.pt 11 v11 _ g11 rfl
      obtain ⟨r0, r1, r2, r3, r4, r5, r6, r7, r8, r9, r10, r11⟩ := hroom _ hJ.bel
      refine gop ho hg ?_ ⟨_, rfl, hJ.put hVi (fun c hc => by cases hc; rfl) (fun h => by omega)⟩
      obtain ⟨dst, op, ty, pos, after, guard⟩ := o
      simp only at hop
      subst hop
      generalize actG ops V a0 ops.size = A at E24 ⊢
      clear hJ hget hdst hroom hend hdep hlate
      simp only [Act.eval, Array.getD_eq_getD_getElem?] at E24
      go_simp
    · have hop : o.op = .call { callee := .value (.func 59), args := #[.tmp 25], argTypes := #[3] } := by (have h := hop0; simp only [tabE, List.getElem?_cons_zero, List.getElem?_cons_succ, Option.some.injEq, Prod.mk.injEq] at h; exact h.2.symm)
      replace hdep := hdep (l := depE.getD 13 []) (by rfl)
      obtain ⟨v12, g12⟩ := hdep 12 (by simp [depE])
      have E25 : (actG ops V a0 ops.size).eval (.tmp 25) = v12 := eval_done hd (hget 12 (by omega)) (hdst 12 25 (by simp [tabE]) (by omega)) g12 (by omega) _ (by omega)
      obtain rfl : v12 = _ := hJ.pt 12 v12 _ g12 rfl
      refine gop_call ho hg (f := 59) (args := #[.int .i64 tm]) (w' := w7) ?_ ((HC1.out w7).mono ?_)
      · obtain ⟨dst, op, ty, pos, after, guard⟩ := o
        simp only at hop
        subst hop
        generalize actG ops V a0 ops.size = A at E25 ⊢
        clear hJ hget hdst hroom hend hdep hlate
        simp only [Act.eval, Array.getD_eq_getD_getElem?] at E25
        go_simp
      · rintro e w8 ⟨rfl, hb⟩
        exact ⟨_, rfl, _, rfl, (hJ.on hb).put hVi (fun c hc => by cases hc; rfl) (fun h => by omega)⟩
    · have hop : o.op = .binOp .add 9 (.tmp 23) (.tmp 26) 9 := by (have h := hop0; simp only [tabE, List.getElem?_cons_zero, List.getElem?_cons_succ, Option.some.injEq, Prod.mk.injEq] at h; exact h.2.symm)
      replace hdep := hdep (l := depE.getD 14 []) (by rfl)
      obtain ⟨v10, g10⟩ := hdep 10 (by simp [depE])
      obtain ⟨v13, g13⟩ := hdep 13 (by simp [depE])
      have E23 : (actG ops V a0 ops.size).eval (.tmp 23) = v10 := eval_done hd (hget 10 (by omega)) (hdst 10 23 (by simp [tabE]) (by omega)) g10 (by omega) _ (by omega)
      have E26 : (actG ops V a0 ops.size).eval (.tmp 26) = v13 := eval_done hd (hget 13 (by omega)) (hdst 13 26 (by simp [tabE]) (by omega)) g13 (by omega) _ (by omega)
      obtain rfl : v10 = _ := hJ.pt 10 v10 _ g10 rfl
      obtain rfl : v13 = _ := hJ.pt 13 v13 _ g13 rfl
      refine gop ho hg ?_ ⟨_, rfl, hJ.put hVi (fun c hc => by cases hc; rfl) (fun h => by omega)⟩
      obtain ⟨dst, op, ty, pos, after, guard⟩ := o
      simp only at hop
      subst hop
      generalize actG ops V a0 ops.size = A at E23 E26 ⊢
      clear hJ hget hdst hroom hend hdep hlate
      simp only [Act.eval, Array.getD_eq_getD_getElem?] at E23 E26
      go_simp
    · have hop : o.op = .fieldAddr 27 (.tmp 1) 4 := by (have h := hop0; simp only [tabE, List.getElem?_cons_zero, List.getElem?_cons_succ, Option.some.injEq, Prod.mk.injEq] at h; exact h.2.symm)
      replace hdep := hdep (l := depE.getD 15 []) (by rfl)
      have E1 := (eval_other (V := V) (a := a0) ops.size (noDst_of n1)).trans e1
      refine gop ho hg ?_ ⟨_, rfl, hJ.put hVi (fun c hc => by cases hc; rfl) (fun h => by omega)⟩
      obtain ⟨dst, op, ty, pos, after, guard⟩ := o
      simp only at hop
      subst hop
      generalize actG ops V a0 ops.size = A at E1 ⊢
      clear hJ hget hdst hroom hend hdep hlate
      simp only [Act.eval, Array.getD_eq_getD_getElem?] at E1
      go_simp
    · have hop : o.op = .load 3 (.tmp 28) := by (have h := hop0; simp only [tabE, List.getElem?_cons_zero, List.getElem?_cons_succ, Option.some.injEq, Prod.mk.injEq] at h; exact h.2.symm)
      replace hdep := hdep (l := depE.getD 16 []) (by rfl)
      obtain ⟨v15, g15⟩ := hdep 15 (by simp [depE])
      have E28 : (actG ops V a0 ops.size).eval (.tmp 28) = v15 := eval_done hd (hget 15 (by omega)) (hdst 15 28 (by simp [tabE]) (by omega)) g15 (by omega) _ (by omega)
      obtain rfl : v15 = _ := hJ.pt 15 v15 _ g15 rfl
      obtain ⟨r0, r1, r2, r3, r4, r5, r6, r7, r8, r9, r10, r11⟩ := hroom _ hJ.bel
      refine gop ho hg ?_ ⟨_, rfl, hJ.put hVi (fun c hc => by cases hc; rfl) (fun h => by omega)⟩
      obtain ⟨dst, op, ty, pos, after, guard⟩ := o
      simp only at hop
      subst hop
      generalize actG ops V a0 ops.size = A at E28 ⊢
      clear hJ hget hdst hroom hend hdep hlate
      simp only [Act.eval, Array.getD_eq_getD_getElem?] at E28
      go_simp
    · have hop : o.op = .call { callee := .value (.func 59), args := #[.tmp 29], argTypes := #[3] } := by (have h := hop0; simp only [tabE, List.getElem?_cons_zero, List.getElem?_cons_succ, Option.some.injEq, Prod.mk.injEq] at h; exact h.2.symm)
      replace hdep := hdep (l := depE.getD 17 []) (by rfl)
      obtain ⟨v16, g16⟩ := hdep 16 (by simp [depE])
      have E29 : (actG ops V a0 ops.size).eval (.tmp 29) = v16 := eval_done hd (hget 16 (by omega)) (hdst 16 29 (by simp [tabE]) (by omega)) g16 (by omega) _ (by omega)
      obtain rfl : v16 = _ := hJ.pt 16 v16 _ g16 rfl
      refine gop_call ho hg (f := 59) (args := #[.int .i64 ix]) (w' := w7) ?_ ((HC2.out w7).mono ?_)
      · obtain ⟨dst, op, ty, pos, after, guard⟩ := o
        simp only at hop
        subst hop
        generalize actG ops V a0 ops.size = A at E29 ⊢
        clear hJ hget hdst hroom hend hdep hlate
        simp only [Act.eval, Array.getD_eq_getD_getElem?] at E29
        go_simp
      · rintro e w8 ⟨rfl, hb⟩
        exact ⟨_, rfl, _, rfl, (hJ.on hb).put hVi (fun c hc => by cases hc; rfl) (fun h => by omega)⟩
    · have hop : o.op = .binOp .add 9 (.tmp 27) (.tmp 30) 9 := by (have h := hop0; simp only [tabE, List.getElem?_cons_zero, List.getElem?_cons_succ, Option.some.injEq, Prod.mk.injEq] at h; exact h.2.symm)
      replace hdep := hdep (l := depE.getD 18 []) (by rfl)
      obtain ⟨v14, g14⟩ := hdep 14 (by simp [depE])
      obtain ⟨v17, g17⟩ := hdep 17 (by simp [depE])
      have E27 : (actG ops V a0 ops.size).eval (.tmp 27) = v14 := eval_done hd (hget 14 (by omega)) (hdst 14 27 (by simp [tabE]) (by omega)) g14 (by omega) _ (by omega)
      have E30 : (actG ops V a0 ops.size).eval (.tmp 30) = v17 := eval_done hd (hget 17 (by omega)) (hdst 17 30 (by simp [tabE]) (by omega)) g17 (by omega) _ (by omega)
      obtain rfl : v14 = _ := hJ.pt 14 v14 _ g14 rfl
      obtain rfl : v17 = _ := hJ.pt 17 v17 _ g17 rfl
      refine gop ho hg ?_ ⟨_, rfl, hJ.put hVi (fun c hc => by cases hc; rfl) (fun h => by omega)⟩
      obtain ⟨dst, op, ty, pos, after, guard⟩ := o
      simp only at hop
      subst hop
      generalize actG ops V a0 ops.size = A at E27 E30 ⊢
      clear hJ hget hdst hroom hend hdep hlate
      simp only [Act.eval, Array.getD_eq_getD_getElem?] at E27 E30
      go_simp
    · have hop : o.op = .fieldAddr 27 (.tmp 1) 5 := by (have h := hop0; simp only [tabE, List.getElem?_cons_zero, List.getElem?_cons_succ, Option.some.injEq, Prod.mk.injEq] at h; exact h.2.symm)
      replace hdep := hdep (l := depE.getD 19 []) (by rfl)
      have E1 := (eval_other (V := V) (a := a0) ops.size (noDst_of n1)).trans e1
      refine gop ho hg ?_ ⟨_, rfl, hJ.put hVi (fun c hc => by cases hc; rfl) (fun h => by omega)⟩
      obtain ⟨dst, op, ty, pos, after, guard⟩ := o
      simp only at hop
      subst hop
      generalize actG ops V a0 ops.size = A at E1 ⊢
      clear hJ hget hdst hroom hend hdep hlate
      simp only [Act.eval, Array.getD_eq_getD_getElem?] at E1
      go_simp
    · have hop : o.op = .load 3 (.tmp 32) := by (have h := hop0; simp only [tabE, List.getElem?_cons_zero, List.getElem?_cons_succ, Option.some.injEq, Prod.mk.injEq] at h; exact h.2.symm)
      replace hdep := hdep (l := depE.getD 20 []) (by rfl)
      obtain ⟨v19, g19⟩ := hdep 19 (by simp [depE])
      have E32 : (actG ops V a0 ops.size).eval (.tmp 32) = v19 := eval_done hd (hget 19 (by omega)) (hdst 19 32 (by simp [tabE]) (by omega)) g19 (by omega) _ (by omega)
      obtain rfl : v19 = _ := hJ.pt 19 v19 _ g19 rfl
      obtain ⟨r0, r1, r2, r3, r4, r5, r6, r7, r8, r9, r10, r11⟩ := hroom _ hJ.bel
      refine gop ho hg ?_ ⟨_, rfl, hJ.put hVi (fun c hc => by cases hc; rfl) (fun h => by omega)⟩
      obtain ⟨dst, op, ty, pos, after, guard⟩ := o
      simp only at hop
      subst hop
      generalize actG ops V a0 ops.size = A at E32 ⊢
      clear hJ hget hdst hroom hend hdep hlate
      simp only [Act.eval, Array.getD_eq_getD_getElem?] at E32
      go_simp
    · have hop : o.op = .call { callee := .value (.func 59), args := #[.tmp 33], argTypes := #[3] } := by (have h := hop0; simp only [tabE, List.getElem?_cons_zero, List.getElem?_cons_succ, Option.some.injEq, Prod.mk.injEq] at h; exact h.2.symm)
      replace hdep := hdep (l := depE.getD 21 []) (by rfl)
      obtain ⟨v20, g20⟩ := hdep 20 (by simp [depE])
      have E33 : (actG ops V a0 ops.size).eval (.tmp 33) = v20 := eval_done hd (hget 20 (by omega)) (hdst 20 33 (by simp [tabE]) (by omega)) g20 (by omega) _ (by omega)
      obtain rfl : v20 = _ := hJ.pt 20 v20 _ g20 rfl
      refine gop_call ho hg (f := 59) (args := #[.int .i64 lt]) (w' := w7) ?_ ((HC3.out w7).mono ?_)
      · obtain ⟨dst, op, ty, pos, after, guard⟩ := o
        simp only at hop
        subst hop
        generalize actG ops V a0 ops.size = A at E33 ⊢
        clear hJ hget hdst hroom hend hdep hlate
        simp only [Act.eval, Array.getD_eq_getD_getElem?] at E33
        go_simp
      · rintro e w8 ⟨rfl, hb⟩
        exact ⟨_, rfl, _, rfl, (hJ.on hb).put hVi (fun c hc => by cases hc; rfl) (fun h => by omega)⟩
    · have hop : o.op = .binOp .add 9 (.tmp 31) (.tmp 34) 9 := by (have h := hop0; simp only [tabE, List.getElem?_cons_zero, List.getElem?_cons_succ, Option.some.injEq, Prod.mk.injEq] at h; exact h.2.symm)
      replace hdep := hdep (l := depE.getD 22 []) (by rfl)
      obtain ⟨v18, g18⟩ := hdep 18 (by simp [depE])
      obtain ⟨v21, g21⟩ := hdep 21 (by simp [depE])
      have E31 : (actG ops V a0 ops.size).eval (.tmp 31) = v18 := eval_done hd (hget 18 (by omega)) (hdst 18 31 (by simp [tabE]) (by omega)) g18 (by omega) _ (by omega)
      have E34 : (actG ops V a0 ops.size).eval (.tmp 34) = v21 := eval_done hd (hget 21 (by omega)) (hdst 21 34 (by simp [tabE]) (by omega)) g21 (by omega) _ (by omega)
      obtain rfl : v18 = _ := hJ.pt 18 v18 _ g18 rfl
      obtain rfl : v21 = _ := hJ.pt 21 v21 _ g21 rfl
      refine gop ho hg ?_ ⟨_, rfl, hJ.put hVi (fun c hc => by cases hc; rfl) (fun h => by omega)⟩
      obtain ⟨dst, op, ty, pos, after, guard⟩ := o
      simp only at hop
      subst hop
      generalize actG ops V a0 ops.size = A at E31 E34 ⊢
      clear hJ hget hdst hroom hend hdep hlate
      simp only [Act.eval, Array.getD_eq_getD_getElem?] at E31 E34
      go_simp
    · have hop : o.op = .fieldAddr 27 (.tmp 1) 6 := by (have h := hop0; simp only [tabE, List.getElem?_cons_zero, List.getElem?_cons_succ, Option.some.injEq, Prod.mk.injEq] at h; exact h.2.symm)
      replace hdep := hdep (l := depE.getD 23 []) (by rfl)
      have E1 := (eval_other (V := V) (a := a0) ops.size (noDst_of n1)).trans e1
      refine gop ho hg ?_ ⟨_, rfl, hJ.put hVi (fun c hc => by cases hc; rfl) (fun h => by omega)⟩
      obtain ⟨dst, op, ty, pos, after, guard⟩ := o
      simp only at hop
      subst hop
      generalize actG ops V a0 ops.size = A at E1 ⊢
      clear hJ hget hdst hroom hend hdep hlate
      simp only [Act.eval, Array.getD_eq_getD_getElem?] at E1
      go_simp
    · have hop : o.op = .load 3 (.tmp 36) := by (have h := hop0; simp only [tabE, List.getElem?_cons_zero, List.getElem?_cons_succ, Option.some.injEq, Prod.mk.injEq] at h; exact h.2.symm)
      replace hdep := hdep (l := depE.getD 24 []) (by rfl)
      obtain ⟨v23, g23⟩ := hdep 23 (by simp [depE])
      have E36 : (actG ops V a0 ops.size).eval (.tmp 36) = v23 := eval_done hd (hget 23 (by omega)) (hdst 23 36 (by simp [tabE]) (by omega)) g23 (by omega) _ (by omega)
      obtain rfl : v23 = _ := hJ.pt 23 v23 _ g23 rfl
      obtain ⟨r0, r1, r2, r3, r4, r5, r6, r7, r8, r9, r10, r11⟩ := hroom _ hJ.bel
      refine gop ho hg ?_ ⟨_, rfl, hJ.put hVi (fun c hc => by cases hc; rfl) (fun h => by omega)⟩
      obtain ⟨dst, op, ty, pos, after, guard⟩ := o
      simp only at hop
      subst hop
      generalize actG ops V a0 ops.size = A at E36 ⊢
      clear hJ hget hdst hroom hend hdep hlate
      simp only [Act.eval, Array.getD_eq_getD_getElem?] at E36
      go_simp
    · have hop : o.op = .call { callee := .value (.func 59), args := #[.tmp 37], argTypes := #[3] } := by (have h := hop0; simp only [tabE, List.getElem?_cons_zero, List.getElem?_cons_succ, Option.some.injEq, Prod.mk.injEq] at h; exact h.2.symm)
      replace hdep := hdep (l := depE.getD 25 []) (by rfl)
      obtain ⟨v24, g24⟩ := hdep 24 (by simp [depE])
      have E37 : (actG ops V a0 ops.size).eval (.tmp 37) = v24 := eval_done hd (hget 24 (by omega)) (hdst 24 37 (by simp [tabE]) (by omega)) g24 (by omega) _ (by omega)
      obtain rfl : v24 = _ := hJ.pt 24 v24 _ g24 rfl
      refine gop_call ho hg (f := 59) (args := #[.int .i64 cm]) (w' := w7) ?_ ((HC4.out w7).mono ?_)
      · obtain ⟨dst, op, ty, pos, after, guard⟩ := o
        simp only at hop
        subst hop
        generalize actG ops V a0 ops.size = A at E37 ⊢
        clear hJ hget hdst hroom hend hdep hlate
        simp only [Act.eval, Array.getD_eq_getD_getElem?] at E37
        go_simp
      · rintro e w8 ⟨rfl, hb⟩
        exact ⟨_, rfl, _, rfl, (hJ.on hb).put hVi (fun c hc => by cases hc; rfl) (fun h => by omega)⟩
    · have hop : o.op = .binOp .add 9 (.tmp 35) (.tmp 38) 9 := by (have h := hop0; simp only [tabE, List.getElem?_cons_zero, List.getElem?_cons_succ, Option.some.injEq, Prod.mk.injEq] at h; exact h.2.symm)
      replace hdep := hdep (l := depE.getD 26 []) (by rfl)
      obtain ⟨v22, g22⟩ := hdep 22 (by simp [depE])
      obtain ⟨v25, g25⟩ := hdep 25 (by simp [depE])
      have E35 : (actG ops V a0 ops.size).eval (.tmp 35) = v22 := eval_done hd (hget 22 (by omega)) (hdst 22 35 (by simp [tabE]) (by omega)) g22 (by omega) _ (by omega)
      have E38 : (actG ops V a0 ops.size).eval (.tmp 38) = v25 := eval_done hd (hget 25 (by omega)) (hdst 25 38 (by simp [tabE]) (by omega)) g25 (by omega) _ (by omega)
      obtain rfl : v22 = _ := hJ.pt 22 v22 _ g22 rfl
      obtain rfl : v25 = _ := hJ.pt 25 v25 _ g25 rfl
      refine gop ho hg ?_ ⟨_, rfl, hJ.put hVi (fun c hc => by cases hc; rfl) (fun h => by omega)⟩
      obtain ⟨dst, op, ty, pos, after, guard⟩ := o
      simp only at hop
      subst hop
      generalize actG ops V a0 ops.size = A at E35 E38 ⊢
      clear hJ hget hdst hroom hend hdep hlate
      simp only [Act.eval, Array.getD_eq_getD_getElem?] at E35 E38
      go_simp
    · have hop : o.op = .fieldAddr 27 (.tmp 1) 7 := by (have h := hop0; simp only [tabE, List.getElem?_cons_zero, List.getElem?_cons_succ, Option.some.injEq, Prod.mk.injEq] at h; exact h.2.symm)
      replace hdep := hdep (l := depE.getD 27 []) (by rfl)
      have E1 := (eval_other (V := V) (a := a0) ops.size (noDst_of n1)).trans e1
      refine gop ho hg ?_ ⟨_, rfl, hJ.put hVi (fun c hc => by cases hc; rfl) (fun h => by omega)⟩
      obtain ⟨dst, op, ty, pos, after, guard⟩ := o
      simp only at hop
      subst hop
      generalize actG ops V a0 ops.size = A at E1 ⊢
      clear hJ hget hdst hroom hend hdep hlate
      simp only [Act.eval, Array.getD_eq_getD_getElem?] at E1
      go_simp
    · have hop : o.op = .load 4 (.tmp 40) := by (have h := hop0; simp only [tabE, List.getElem?_cons_zero, List.getElem?_cons_succ, Option.some.injEq, Prod.mk.injEq] at h; exact h.2.symm)
      replace hdep := hdep (l := depE.getD 28 []) (by rfl)
      obtain ⟨v27, g27⟩ := hdep 27 (by simp [depE])
      have E40 : (actG ops V a0 ops.size).eval (.tmp 40) = v27 := eval_done hd (hget 27 (by omega)) (hdst 27 40 (by simp [tabE]) (by omega)) g27 (by omega) _ (by omega)
      obtain rfl : v27 = _ := hJ.pt 27 v27 _ g27 rfl
      obtain ⟨r0, r1, r2, r3, r4, r5, r6, r7, r8, r9, r10, r11⟩ := hroom _ hJ.bel
      refine gop ho hg ?_ ⟨_, rfl, hJ.put hVi (fun c hc => by cases hc; rfl) (fun h => by omega)⟩
      obtain ⟨dst, op, ty, pos, after, guard⟩ := o
      simp only at hop
      subst hop
      generalize actG ops V a0 ops.size = A at E40 ⊢
      clear hJ hget hdst hroom hend hdep hlate
      simp only [Act.eval, Array.getD_eq_getD_getElem?] at E40
      go_simp
    · have hop : o.op = .call { callee := .value (.func 60), args := #[.tmp 41], argTypes := #[4] } := by (have h := hop0; simp only [tabE, List.getElem?_cons_zero, List.getElem?_cons_succ, Option.some.injEq, Prod.mk.injEq] at h; exact h.2.symm)
      replace hdep := hdep (l := depE.getD 29 []) (by rfl)
      obtain ⟨v28, g28⟩ := hdep 28 (by simp [depE])
      have E41 : (actG ops V a0 ops.size).eval (.tmp 41) = v28 := eval_done hd (hget 28 (by omega)) (hdst 28 41 (by simp [tabE]) (by omega)) g28 (by omega) _ (by omega)
      obtain rfl : v28 = _ := hJ.pt 28 v28 _ g28 rfl
      refine gop_call ho hg (f := 60) (args := #[.bool ok]) (w' := w7) ?_ ((HC5.out w7).mono ?_)
      · obtain ⟨dst, op, ty, pos, after, guard⟩ := o
        simp only at hop
        subst hop
        generalize actG ops V a0 ops.size = A at E41 ⊢
        clear hJ hget hdst hroom hend hdep hlate
        simp only [Act.eval, Array.getD_eq_getD_getElem?] at E41
        go_simp
      · rintro e w8 ⟨rfl, hb⟩
        exact ⟨_, rfl, _, rfl, (hJ.on hb).put hVi (fun c hc => by cases hc; rfl) (fun h => by omega)⟩
    · have hop : o.op = .binOp .add 9 (.tmp 39) (.tmp 42) 9 := by (have h := hop0; simp only [tabE, List.getElem?_cons_zero, List.getElem?_cons_succ, Option.some.injEq, Prod.mk.injEq] at h; exact h.2.symm)
      replace hdep := hdep (l := depE.getD 30 []) (by rfl)
      obtain ⟨v26, g26⟩ := hdep 26 (by simp [depE])
      obtain ⟨v29, g29⟩ := hdep 29 (by simp [depE])
      have E39 : (actG ops V a0 ops.size).eval (.tmp 39) = v26 := eval_done hd (hget 26 (by omega)) (hdst 26 39 (by simp [tabE]) (by omega)) g26 (by omega) _ (by omega)
      have E42 : (actG ops V a0 ops.size).eval (.tmp 42) = v29 := eval_done hd (hget 29 (by omega)) (hdst 29 42 (by simp [tabE]) (by omega)) g29 (by omega) _ (by omega)
      obtain rfl : v26 = _ := hJ.pt 26 v26 _ g26 rfl
      obtain rfl : v29 = _ := hJ.pt 29 v29 _ g29 rfl
      refine gop ho hg ?_ ⟨_, rfl, hJ.put hVi (fun c hc => by cases hc; rfl) (fun h => by omega)⟩
      obtain ⟨dst, op, ty, pos, after, guard⟩ := o
      simp only at hop
      subst hop
      generalize actG ops V a0 ops.size = A at E39 E42 ⊢
      clear hJ hget hdst hroom hend hdep hlate
      simp only [Act.eval, Array.getD_eq_getD_getElem?] at E39 E42
      go_simp
    · have hop : o.op = .fieldAddr 27 (.tmp 1) 11 := by (have h := hop0; simp only [tabE, List.getElem?_cons_zero, List.getElem?_cons_succ, Option.some.injEq, Prod.mk.injEq] at h; exact h.2.symm)
      replace hdep := hdep (l := depE.getD 31 []) (by rfl)
      have E1 := (eval_other (V := V) (a := a0) ops.size (noDst_of n1)).trans e1
      refine gop ho hg ?_ ⟨_, rfl, hJ.put hVi (fun c hc => by cases hc; rfl) (fun h => by omega)⟩
      obtain ⟨dst, op, ty, pos, after, guard⟩ := o
      simp only at hop
      subst hop
      generalize actG ops V a0 ops.size = A at E1 ⊢
      clear hJ hget hdst hroom hend hdep hlate
      simp only [Act.eval, Array.getD_eq_getD_getElem?] at E1
      go_simp
    · have hop : o.op = .load 4 (.tmp 44) := by (have h := hop0; simp only [tabE, List.getElem?_cons_zero, List.getElem?_cons_succ, Option.some.injEq, Prod.mk.injEq] at h; exact h.2.symm)
      replace hdep := hdep (l := depE.getD 32 []) (by rfl)
      obtain ⟨v31, g31⟩ := hdep 31 (by simp [depE])
      have E44 : (actG ops V a0 ops.size).eval (.tmp 44) = v31 := eval_done hd (hget 31 (by omega)) (hdst 31 44 (by simp [tabE]) (by omega)) g31 (by omega) _ (by omega)
      obtain rfl : v31 = _ := hJ.pt 31 v31 _ g31 rfl
      obtain ⟨r0, r1, r2, r3, r4, r5, r6, r7, r8, r9, r10, r11⟩ := hroom _ hJ.bel
      refine gop ho hg ?_ ⟨_, rfl, hJ.put hVi (fun c hc => by cases hc; rfl) (fun h => by omega)⟩
      obtain ⟨dst, op, ty, pos, after, guard⟩ := o
      simp only at hop
      subst hop
      generalize actG ops V a0 ops.size = A at E44 ⊢
      clear hJ hget hdst hroom hend hdep hlate
      simp only [Act.eval, Array.getD_eq_getD_getElem?] at E44
      go_simp
    · have hop : o.op = .call { callee := .value (.func 60), args := #[.tmp 45], argTypes := #[4] } := by (have h := hop0; simp only [tabE, List.getElem?_cons_zero, List.getElem?_cons_succ, Option.some.injEq, Prod.mk.injEq] at h; exact h.2.symm)
      replace hdep := hdep (l := depE.getD 33 []) (by rfl)
      obtain ⟨v32, g32⟩ := hdep 32 (by simp [depE])
      have E45 : (actG ops V a0 ops.size).eval (.tmp 45) = v32 := eval_done hd (hget 32 (by omega)) (hdst 32 45 (by simp [tabE]) (by omega)) g32 (by omega) _ (by omega)
      obtain rfl : v32 = _ := hJ.pt 32 v32 _ g32 rfl
      refine gop_call ho hg (f := 60) (args := #[.bool la]) (w' := w7) ?_ ((HC6.out w7).mono ?_)
      · obtain ⟨dst, op, ty, pos, after, guard⟩ := o
        simp only at hop
        subst hop
        generalize actG ops V a0 ops.size = A at E45 ⊢
        clear hJ hget hdst hroom hend hdep hlate
        simp only [Act.eval, Array.getD_eq_getD_getElem?] at E45
        go_simp
      · rintro e w8 ⟨rfl, hb⟩
        exact ⟨_, rfl, _, rfl, (hJ.on hb).put hVi (fun c hc => by cases hc; rfl) (fun h => by omega)⟩
    · have hop : o.op = .binOp .add 9 (.tmp 43) (.tmp 46) 9 := by (have h := hop0; simp only [tabE, List.getElem?_cons_zero, List.getElem?_cons_succ, Option.some.injEq, Prod.mk.injEq] at h; exact h.2.symm)
      replace hdep := hdep (l := depE.getD 34 []) (by rfl)
      obtain ⟨v30, g30⟩ := hdep 30 (by simp [depE])
      obtain ⟨v33, g33⟩ := hdep 33 (by simp [depE])
      have E43 : (actG ops V a0 ops.size).eval (.tmp 43) = v30 := eval_done hd (hget 30 (by omega)) (hdst 30 43 (by simp [tabE]) (by omega)) g30 (by omega) _ (by omega)
      have E46 : (actG ops V a0 ops.size).eval (.tmp 46) = v33 := eval_done hd (hget 33 (by omega)) (hdst 33 46 (by simp [tabE]) (by omega)) g33 (by omega) _ (by omega)
      obtain rfl : v30 = _ := hJ.pt 30 v30 _ g30 rfl
      obtain rfl : v33 = _ := hJ.pt 33 v33 _ g33 rfl
      refine gop ho hg ?_ ⟨_, rfl, hJ.put hVi (fun c hc => by cases hc; rfl) (fun h => by omega)⟩
      obtain ⟨dst, op, ty, pos, after, guard⟩ := o
      simp only at hop
      subst hop
      generalize actG ops V a0 ops.size = A at E43 E46 ⊢
      clear hJ hget hdst hroom hend hdep hlate
      simp only [Act.eval, Array.getD_eq_getD_getElem?] at E43 E46
      go_simp
    · have hop : o.op = .fieldAddr 27 (.tmp 1) 8 := by (have h := hop0; simp only [tabE, List.getElem?_cons_zero, List.getElem?_cons_succ, Option.some.injEq, Prod.mk.injEq] at h; exact h.2.symm)
      replace hdep := hdep (l := depE.getD 35 []) (by rfl)
      have E1 := (eval_other (V := V) (a := a0) ops.size (noDst_of n1)).trans e1
      refine gop ho hg ?_ ⟨_, rfl, hJ.put hVi (fun c hc => by cases hc; rfl) (fun h => by omega)⟩
      obtain ⟨dst, op, ty, pos, after, guard⟩ := o
      simp only at hop
      subst hop
      generalize actG ops V a0 ops.size = A at E1 ⊢
      clear hJ hget hdst hroom hend hdep hlate
      simp only [Act.eval, Array.getD_eq_getD_getElem?] at E1
      go_simp
    · have hop : o.op = .load 24 (.tmp 48) := by (have h := hop0; simp only [tabE, List.getElem?_cons_zero, List.getElem?_cons_succ, Option.some.injEq, Prod.mk.injEq] at h; exact h.2.symm)
      replace hdep := hdep (l := depE.getD 36 []) (by rfl)
      obtain ⟨v35, g35⟩ := hdep 35 (by simp [depE])
      have E48 : (actG ops V a0 ops.size).eval (.tmp 48) = v35 := eval_done hd (hget 35 (by omega)) (hdst 35 48 (by simp [tabE]) (by omega)) g35 (by omega) _ (by omega)
      obtain rfl : v35 = _ := hJ.pt 35 v35 _ g35 rfl
      obtain ⟨r0, r1, r2, r3, r4, r5, r6, r7, r8, r9, r10, r11⟩ := hroom _ hJ.bel
      refine gop ho hg ?_ ⟨_, rfl, hJ.put hVi (fun c hc => by cases hc; rfl) (fun h => by omega)⟩
      obtain ⟨dst, op, ty, pos, after, guard⟩ := o
      simp only at hop
      subst hop
      generalize actG ops V a0 ops.size = A at E48 ⊢
      clear hJ hget hdst hroom hend hdep hlate
      simp only [Act.eval, Array.getD_eq_getD_getElem?] at E48
      go_simp
    · have hop : o.op = .call { callee := .builtin .len, args := #[.tmp 49], argTypes := #[24] } := by (have h := hop0; simp only [tabE, List.getElem?_cons_zero, List.getElem?_cons_succ, Option.some.injEq, Prod.mk.injEq] at h; exact h.2.symm)
      replace hdep := hdep (l := depE.getD 37 []) (by rfl)
      obtain ⟨v36, g36⟩ := hdep 36 (by simp [depE])
      have E49 : (actG ops V a0 ops.size).eval (.tmp 49) = v36 := eval_done hd (hget 36 (by omega)) (hdst 36 49 (by simp [tabE]) (by omega)) g36 (by omega) _ (by omega)
      obtain rfl : v36 = _ := hJ.pt 36 v36 _ g36 rfl
      refine gop ho hg ?_ ⟨_, rfl, hJ.put hVi (fun c hc => by cases hc; rfl) (fun h => by omega)⟩
      obtain ⟨dst, op, ty, pos, after, guard⟩ := o
      simp only at hop
      subst hop
      generalize actG ops V a0 ops.size = A at E49 ⊢
      clear hJ hget hdst hroom hend hdep hlate
      simp only [Act.eval, Array.getD_eq_getD_getElem?] at E49
      go_simp
    · have hop : o.op = .call { callee := .value (.func 59), args := #[.tmp 50], argTypes := #[3] } := by (have h := hop0; simp only [tabE, List.getElem?_cons_zero, List.getElem?_cons_succ, Option.some.injEq, Prod.mk.injEq] at h; exact h.2.symm)
      replace hdep := hdep (l := depE.getD 38 []) (by rfl)
      obtain ⟨v37, g37⟩ := hdep 37 (by simp [depE])
      have E50 : (actG ops V a0 ops.size).eval (.tmp 50) = v37 := eval_done hd (hget 37 (by omega)) (hdst 37 50 (by simp [tabE]) (by omega)) g37 (by omega) _ (by omega)
      obtain rfl : v37 = _ := hJ.pt 37 v37 _ g37 rfl
      refine gop_call ho hg (f := 59) (args := #[.int .i64 (n : Int)]) (w' := w7) ?_ ((HC7.out w7).mono ?_)
      · obtain ⟨dst, op, ty, pos, after, guard⟩ := o
        simp only at hop
        subst hop
        generalize actG ops V a0 ops.size = A at E50 ⊢
        clear hJ hget hdst hroom hend hdep hlate
        simp only [Act.eval, Array.getD_eq_getD_getElem?] at E50
        go_simp
      · rintro e w8 ⟨rfl, hb⟩
        exact ⟨_, rfl, _, rfl, (hJ.on hb).put hVi (fun c hc => by cases hc; rfl) (fun h => by omega)⟩
    · have hop : o.op = .binOp .add 9 (.tmp 47) (.tmp 51) 9 := by (have h := hop0; simp only [tabE, List.getElem?_cons_zero, List.getElem?_cons_succ, Option.some.injEq, Prod.mk.injEq] at h; exact h.2.symm)
      replace hdep := hdep (l := depE.getD 39 []) (by rfl)
      obtain ⟨v34, g34⟩ := hdep 34 (by simp [depE])
      obtain ⟨v38, g38⟩ := hdep 38 (by simp [depE])
      have E47 : (actG ops V a0 ops.size).eval (.tmp 47) = v34 := eval_done hd (hget 34 (by omega)) (hdst 34 47 (by simp [tabE]) (by omega)) g34 (by omega) _ (by omega)
      have E51 : (actG ops V a0 ops.size).eval (.tmp 51) = v38 := eval_done hd (hget 38 (by omega)) (hdst 38 51 (by simp [tabE]) (by omega)) g38 (by omega) _ (by omega)
      obtain rfl : v34 = _ := hJ.pt 34 v34 _ g34 rfl
      obtain rfl : v38 = _ := hJ.pt 38 v38 _ g38 rfl
      refine gop ho hg ?_ ⟨_, rfl, hJ.put hVi (fun c hc => by cases hc; rfl) (fun h => by omega)⟩
      obtain ⟨dst, op, ty, pos, after, guard⟩ := o
      simp only at hop
      subst hop
      generalize actG ops V a0 ops.size = A at E47 E51 ⊢
      clear hJ hget hdst hroom hend hdep hlate
      simp only [Act.eval, Array.getD_eq_getD_getElem?] at E47 E51
      go_simp
    · have hop : o.op = .assign (.tmp 52) := by (have h := hop0; simp only [tabE, List.getElem?_cons_zero, List.getElem?_cons_succ, Option.some.injEq, Prod.mk.injEq] at h; exact h.2.symm)
      replace hdep := hdep (l := depE.getD 40 []) (by rfl)
      obtain ⟨v39, g39⟩ := hdep 39 (by simp [depE])
      have E52 : (actG ops V a0 ops.size).eval (.tmp 52) = v39 := eval_done hd (hget 39 (by omega)) (hdst 39 52 (by simp [tabE]) (by omega)) g39 (by omega) _ (by omega)
      obtain rfl : v39 = _ := hJ.pt 39 v39 _ g39 rfl
      refine gop ho hg ?_ ⟨_, rfl, hJ.put hVi (fun c hc => by cases hc; rfl) (fun h => by omega)⟩
      obtain ⟨dst, op, ty, pos, after, guard⟩ := o
      simp only at hop
      subst hop
      generalize actG ops V a0 ops.size = A at E52 ⊢
      clear hJ hget hdst hroom hend hdep hlate
      simp only [Act.eval, Array.getD_eq_getD_getElem?] at E52
      go_simp
  · intro V w7 hall hJ
    exact hend V w7 (fun k hk => Option.isSome_iff_exists.1 (hall k (by omega))) hJ.pt hJ.bel

end Go.Proofs.YtmllcomppjkhhaaGreatDoor
