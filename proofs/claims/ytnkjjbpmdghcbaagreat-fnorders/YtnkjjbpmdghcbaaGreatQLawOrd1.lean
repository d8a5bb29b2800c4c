/-
  Walks and mathematics of LawOrd1.
-/
import Derived.Test.YtnkjjbpmdghcbaaGreatQWalk11za
import Derived.Test.YtnkjjbpmdghcbaaGreatQWalk12m
import Derived.Test.YtnkjjbpmdghcbaaGreatQWalk9b
import Derived.Test.YtnkjjbpmdghcbaaGreatQOrd1
import Derived.Test.YtnkjjbpmdghcbaaGreatQDraw1
namespace Go.Proofs.YtnkjjbpmdghcbaaGreat.P11
end Go.Proofs.YtnkjjbpmdghcbaaGreat.P11
namespace Go.Proofs.YtnkjjbpmdghcbaaGreat.P3
end Go.Proofs.YtnkjjbpmdghcbaaGreat.P3
namespace Go.Proofs.YtnkjjbpmdghcbaaGreat
open Go.RowKit P1 P3 P5 P9 P11 P12 P14 P15 P16 P17 K
set_option linter.unusedVariables false
set_option linter.unusedSimpArgs false

set_option maxHeartbeats 1000000 in
theorem sameInts_yes (oa : Option Addr) (n cap : Nat) (ob : Option Addr) (cap' : Nat) (zs : List Int) (hn20 : n ≤ 1048576) (w : World) (hat : IntsAt w oa n cap zs) (hbt : IntsAt w ob n cap' zs) :
  Calls Tryz.prog 18 #[.slice oa n cap, .slice ob n cap'] w fun e w' => e = .returned (.bool true) ∧ Below w.heap.size w w' := by
 have HAT := hide hat
 have HBT := hide hbt
 clear hat hbt
 go_enter Tryz.func18, Tryz.ntmps18
 go_wp2_with fail
 go_loopw [5] (fun i wr => ∃ (j q : Nat), i = .int .i64 (j : Int) ∧ j ≤ n ∧ wr = w.drewN q) (fun i _ => n - (intOf i).toNat)
 case atStart => exact ⟨0, 0, rfl, Nat.zero_le _, rfl⟩
 case round =>
  obtain ⟨j, q, rfl, hj, rfl⟩ := hrel
  by_cases hlt : j < n
  ·have j0 : (j : Int) < (n : Int) := by omega
   obtain ⟨z, b, p, hz, hidx, hb, c0, hwf⟩ := HAT.out.get Tryz.underlying32 infoI j hlt
   obtain ⟨z', b', p', hz', hidx', hb', c0', hwf'⟩ := HBT.out.get Tryz.underlying32 infoI j hlt
   rw [hz] at hz'
   cases hz'
   clear hz
   go_wp2_with fail
   go_quiet (fail)
   go_wp2_with fail
   go_roundw
   case rel => exact ⟨j + 1, q + nq, by go_num, by omega, by simp⟩
   case measure => simp [intOf]; omega
  ·go_wp2_with fail
   go_ret
   exact ⟨rfl, below_drewN (Below.refl _ _) _⟩

theorem inL_iff {zs : List Int} {x : Int} : inL zs x = true ↔ x ∈ zs := List.contains_iff_mem

set_option maxHeartbeats 1000000 in
theorem lawIn_any (oa : Option Addr) (n cap : Nat) (zs : List Int) (x : Int) (w : World) (hat : IntsAt w oa n cap zs) :
  Calls Tryz.prog 21 #[.slice oa n cap, .int .i64 x] w fun e w' => e = .returned (.bool (inL zs x)) ∧ w' = w := by
 have hmx := Nat.le_trans hat.room hat.most
 unfold maxLen at hmx
 have HN := hide hat.len
 have HAT := hide hat
 clear hat
 go_enter Tryz.func21, Tryz.ntmps21
 go_wp2_with fail
 go_loop [5] (fun i => ∃ (j : Nat), i = .int .i64 (j : Int) ∧ j ≤ n ∧ inL (zs.take j) x = false) (fun i => n - (intOf i).toNat)
 case atStart => exact ⟨0, rfl, Nat.zero_le _, by simp [inL]⟩
 case round =>
  obtain ⟨j, rfl, hj, hno⟩ := hrel
  have HNO := hide hno
  clear hno
  by_cases hlt : j < n
  ·have j0 : (j : Int) < (n : Int) := by omega
   obtain ⟨z, b, q, hz, hidx, hb, c0, hwf⟩ := HAT.out.get Tryz.underlying32 infoI j hlt
   have HTK := hide (take_snocI hz)
   have HZ := hide hz
   clear hz
   cases hzx : (z == x)
   ·have HNX := hide (show inL (zs.take (j + 1)) x = false from by
     have h1 := HNO.out
     have h2 : ¬ z = x := by simpa using hzx
     rw [HTK.out]
     rw [Bool.eq_false_iff] at h1 ⊢
     intro q
     apply h1
     rw [inL_iff] at q ⊢
     rcases List.mem_append.1 q with q | q
     ·exact q
     ·simp at q; exact absurd q.symm h2)
    go_wp2_with fail
    go_round
    case rel => exact ⟨j + 1, by go_num, by omega, HNX.out⟩
    case measure => simp [intOf]; omega
   ·have HYES := hide (show inL zs x = true from by
     have h2 : z = x := by simpa using hzx
     rw [inL_iff, ← h2]
     exact List.mem_of_getElem? HZ.out)
    go_wp2_with fail
    go_ret
    exact ⟨by first | exact HYES.out | exact HYES.out.symm | simp [HYES.out], rfl⟩
  ·have HNX := hide (show inL zs x = false from by
    have h1 := HNO.out
    rwa [List.take_of_length_le (by rw [HN.out]; omega)] at h1)
   go_wp2_with fail
   go_ret
   exact ⟨by first | exact HNX.out | exact HNX.out.symm | simp [HNX.out], rfl⟩

def ctO (R : Nat) (ve va : Value) (j : Int) (b q : Nat) (id : Int) : Nat → Option Value
 | 0 => some (.pointer (some ⟨R, 0, none⟩))
 | 1 => some ve
 | 2 => some va
 | 3 => some (.int .i64 j)
 | 4 => some (.pointer (some ⟨b, q, none⟩))
 | 5 => some (.int .i64 id)
 | _ => none

structure JO (W : World) (ct : Nat → Option Value) (e : EvV) (V : Gh) (w : World) : Prop where
 pt : PT ct V
 bel : Below W.heap.size W w
 k8 : ∀ v, V 6 = some v → ∃ ol cl oq cq, v = .tuple #[evv e (.slice ol e.levels.length cl) (.slice oq e.prev.length cq), .bool true] ∧ w.ownsRow W.heap.size 3 1 (.slice ol e.levels.length cl) e.levels.length (e.levels.map icell) ∧ w.ownsRow W.heap.size 3 1 (.slice oq e.prev.length cq) e.prev.length (e.prev.map icell)
 m9 : ∀ v, V 7 = some v → V 6 = some v
 x10 : ∀ v, V 8 = some v → ∃ t, V 6 = some (.tuple #[v, t])
 x11 : ∀ v, V 9 = some v → ∃ t, V 6 = some (.tuple #[t, v])
 b12 : ∀ v, V 10 = some v → ∃ b, v = .pointer (some ⟨b, 0, none⟩) ∧ W.heap.size ≤ b ∧ (V 11 = none → EB w b 0 0 0 0 0 0 (.slice none 0 0) (.slice none 0 0) []) ∧ (V 11 ≠ none → ∃ ol cl oq cq t, V 6 = some (.tuple #[evv e (.slice ol e.levels.length cl) (.slice oq e.prev.length cq), t]) ∧ EB w b e.id e.kind e.sender e.user e.member e.depth (.slice ol e.levels.length cl) (.slice oq e.prev.length cq) e.text)
 x14 : ∀ v, V 12 = some v → V 9 = some v

section
variable {W : World} {ct : Nat → Option Value} {e : EvV} {V : Gh} {w w' : World}

theorem JO.on (h : JO W ct e V w) (hb : Below w.heap.size w w') : JO W ct e V w' := by
 refine ⟨h.pt, h.bel.trans (hb.mono h.bel.size), fun v hv => ?_, h.m9, h.x10, h.x11, fun v hv => ?_, h.x14⟩
 ·obtain ⟨ol, cl, oq, cq, q1, q2, q3⟩ := h.k8 v hv
  exact ⟨ol, cl, oq, cq, q1, own_below q2 hb, own_below q3 hb⟩
 ·obtain ⟨b, q1, q2, q3, q4⟩ := h.b12 v hv
  refine ⟨b, q1, q2, fun hn => (q3 hn).on hb (q3 hn).lt, fun hn => ?_⟩
  obtain ⟨ol, cl, oq, cq, t, r1, r2⟩ := q4 hn
  exact ⟨ol, cl, oq, cq, t, r1, r2.on hb r2.lt⟩

theorem JO.put (h : JO W ct e V w) {i : Nat} {v : Value} (hi : V i = none) (hc : ∀ c, ct i = some c → v = c)
  (a8 : i = 6 → ∃ ol cl oq cq, v = .tuple #[evv e (.slice ol e.levels.length cl) (.slice oq e.prev.length cq), .bool true] ∧ w.ownsRow W.heap.size 3 1 (.slice ol e.levels.length cl) e.levels.length (e.levels.map icell) ∧ w.ownsRow W.heap.size 3 1 (.slice oq e.prev.length cq) e.prev.length (e.prev.map icell))
  (a9 : i = 7 → V 6 = some v) (a10 : i = 8 → ∃ t, V 6 = some (.tuple #[v, t])) (a11 : i = 9 → ∃ t, V 6 = some (.tuple #[t, v]))
  (a12 : i = 10 → ∃ b, v = .pointer (some ⟨b, 0, none⟩) ∧ W.heap.size ≤ b ∧ EB w b 0 0 0 0 0 0 (.slice none 0 0) (.slice none 0 0) [] ∧ V 11 = none) (a13 : i ≠ 11) (a14 : i = 12 → V 9 = some v) : JO W ct e (V.set i v) w := by
 refine ⟨h.pt.set hc, h.bel, fun u hu => ?_, fun u hu => ?_, fun u hu => ?_, fun u hu => ?_, fun u hu => ?_, fun u hu => ?_⟩
 ·by_cases e8 : 6 = i
  ·subst e8; rw [Gh.set_self] at hu; cases hu; exact a8 rfl
  ·rw [Gh.set_ne V v e8] at hu; exact h.k8 u hu
 ·by_cases e9 : 7 = i
  ·subst e9; rw [Gh.set_self] at hu; cases hu; exact gh_keep hi (a9 rfl)
  ·rw [Gh.set_ne V v e9] at hu; exact gh_keep hi (h.m9 u hu)
 ·by_cases e9 : 8 = i
  ·subst e9; rw [Gh.set_self] at hu; cases hu; obtain ⟨t, ht⟩ := a10 rfl; exact ⟨t, gh_keep hi ht⟩
  ·rw [Gh.set_ne V v e9] at hu; obtain ⟨t, ht⟩ := h.x10 u hu; exact ⟨t, gh_keep hi ht⟩
 ·by_cases e9 : 9 = i
  ·subst e9; rw [Gh.set_self] at hu; cases hu; obtain ⟨t, ht⟩ := a11 rfl; exact ⟨t, gh_keep hi ht⟩
  ·rw [Gh.set_ne V v e9] at hu; obtain ⟨t, ht⟩ := h.x11 u hu; exact ⟨t, gh_keep hi ht⟩
 ·by_cases e9 : 10 = i
  ·subst e9
   rw [Gh.set_self] at hu
   cases hu
   obtain ⟨b, q1, q2, q3, q4⟩ := a12 rfl
   refine ⟨b, q1, q2, fun _ => q3, fun hn => ?_⟩
   rw [Gh.set_ne V _ (by decide), q4] at hn
   exact absurd rfl hn
  ·rw [Gh.set_ne V v e9] at hu
   obtain ⟨b, q1, q2, q3, q4⟩ := h.b12 u hu
   refine ⟨b, q1, q2, fun hn => ?_, fun hn => ?_⟩
   ·rw [Gh.set_ne V v (Ne.symm a13)] at hn; exact q3 hn
   ·rw [Gh.set_ne V v (Ne.symm a13)] at hn
    obtain ⟨ol, cl, oq, cq, t, r1, r2⟩ := q4 hn
    exact ⟨ol, cl, oq, cq, t, gh_keep hi r1, r2⟩
 ·by_cases e9 : 12 = i
  ·subst e9; rw [Gh.set_self] at hu; cases hu; exact gh_keep hi (a14 rfl)
  ·rw [Gh.set_ne V v e9] at hu; exact gh_keep hi (h.x14 u hu)

theorem JO.s13 (h : JO W ct e V w) {t v : Value} {b : Nat} {ol oq : Option Addr} {cl cq : Nat} (hi : V 11 = none) (h8 : V 6 = some (.tuple #[evv e (.slice ol e.levels.length cl) (.slice oq e.prev.length cq), t])) (hct : ct 11 = none) (h12 : V 10 = some (.pointer (some ⟨b, 0, none⟩))) (hb : EB w b 0 0 0 0 0 0 (.slice none 0 0) (.slice none 0 0) []) (hbW : W.heap.size ≤ b) (hg : w.grownBy w' (some b)) (hb' : EB w' b e.id e.kind e.sender e.user e.member e.depth (.slice ol e.levels.length cl) (.slice oq e.prev.length cq) e.text) : JO W ct e (V.set 11 v) w' := by
 refine ⟨h.pt.set (fun c hc => by rw [hct] at hc; cases hc), h.bel.grown hg h.bel.size (fun q hq => by cases hq; exact hbW), fun u hu => ?_, fun u hu => ?_, fun u hu => ?_, fun u hu => ?_, fun u hu => ?_, fun u hu => ?_⟩
 ·rw [Gh.set_ne V _ (by decide)] at hu
  obtain ⟨ol, cl, oq, cq, q1, q2, q3⟩ := h.k8 u hu
  exact ⟨ol, cl, oq, cq, q1, own_off q2 hg hb (by decide), own_off q3 hg hb (by decide)⟩
 ·rw [Gh.set_ne V _ (by decide)] at hu; exact gh_keep hi (h.m9 u hu)
 ·rw [Gh.set_ne V _ (by decide)] at hu; obtain ⟨t, ht⟩ := h.x10 u hu; exact ⟨t, gh_keep hi ht⟩
 ·rw [Gh.set_ne V _ (by decide)] at hu; obtain ⟨t, ht⟩ := h.x11 u hu; exact ⟨t, gh_keep hi ht⟩
 ·rw [Gh.set_ne V _ (by decide), h12] at hu
  cases hu
  refine ⟨b, rfl, hbW, fun hn => ?_, fun _ => ⟨ol, cl, oq, cq, t, gh_keep hi h8, hb'⟩⟩
  rw [Gh.set_self] at hn
  cases hn
 ·rw [Gh.set_ne V _ (by decide)] at hu; exact gh_keep hi (h.x14 u hu)
end

def tabO : List (Option Tmp × Op) := [(some 92, .fieldAddr 41 (.tmp 3) 0), (some 93, .load 24 (.tmp 92)), (some 94, .move (.tmp 8)), (some 95, .move (.tmp 10)), (some 96, .indexAddr 32 (.tmp 94) (.tmp 95)), (some 97, .load 3 (.tmp 96)), (some 98, .call { callee := .value (.func 26), args := #[.tmp 93, .tmp 97], argTypes := #[24, 3] }), (some 91, .move (.tmp 98)), (some 99, .extract (.tmp 91) 0), (some 100, .extract (.tmp 91) 1), (some 11, .alloc 45), (none, .store 45 (.tmp 11) (.tmp 99)), (some 12, .assign (.tmp 100))]
def depO : List (List Nat) := [[], [0], [], [], [2, 3], [4], [1, 5], [6], [7], [7], [], [6, 8, 10], [6, 9, 11]]

set_option maxHeartbeats 4000000 in
theorem ask_region {id0 : Nat} {ops : Array Oper} {Q : Exit → Act → World → Prop} {a0 : Act} {W : World} (hm : Tryz.prog.follows .mixedOrders = true) (htab : opTab ops = tabO) (hdp : depHas ops depO = true) (hfree : opFree ops = true) (hd : dstsOk ops = true) (hl : lowOk2 ops = true)
  (n3 : noDst ops 3 = true) (n8 : noDst ops 8 = true) (n10 : noDst ops 10 = true)
  {R j b q n : Nat} {oa ob : Option Addr} {ca cb : Nat} {es : List EvV} {e : EvV}
  (hsz : 118 ≤ a0.tmps.size) (e3 : a0.eval (.tmp 3) = .pointer (some ⟨R, 0, none⟩)) (e8 : a0.eval (.tmp 8) = .slice ob n cb) (e10 : a0.eval (.tmp 10) = .int .i64 (j : Int)) (hfine : FineE es) (hkn : evKn es e.id = (e, true))
  (hidx : ∀ wx, (Instr.indexAt 32 (.slice ob n cb) (.int .i64 (j : Int))).run Tryz.prog wx = .ok (.pointer (some ⟨b, q, none⟩)) wx)
  (hroomc : ∀ w', Below W.heap.size W w' → w'.cell? ⟨R, 0, none⟩ = some (.slice oa es.length ca)) (hidc : ∀ w', Below W.heap.size W w' → w'.cell? ⟨b, q, none⟩ = some (.int .i64 e.id)) (hev : ∀ w', Below W.heap.size W w' → EvsAt w' oa es.length ca es)
  (hend : ∀ (V : Gh) (w' : World) (be : Nat) (ol : Option Addr) (cl : Nat) (oq : Option Addr) (cq : Nat), (∀ k, k < 13 → ∃ v, V k = some v) → V 12 = some (.bool true) → V 10 = some (.pointer (some ⟨be, 0, none⟩)) → EB w' be e.id e.kind e.sender e.user e.member e.depth (.slice ol e.levels.length cl) (.slice oq e.prev.length cq) e.text → w'.ownsRow W.heap.size 3 1 (.slice oq e.prev.length cq) e.prev.length (e.prev.map icell) → Below W.heap.size W w' → Q .normal (actG ops V a0 ops.size) w') : (Code.region id0 ops true).wp Tryz.prog Q a0 W := by
 have hops : ops.size = 13 := by
  have := congrArg List.length htab
  simpa [opTab, tabO] using this
 have hget : ∀ k (hk : k < 13), ops[k]? = some (ops[k]'(by omega)) := fun k hk => Array.getElem?_eq_getElem (by omega)
 have hdst : ∀ k t, (tabO[k]?).map (·.1) = some (some t) → (hk : k < 13) → (ops[k]'(by omega)).dst = some t := fun k t ht hk => by
  have := opTab_at htab (hget k hk)
  rw [this] at ht
  simpa using ht
 refine wp_region_ghost2 hm hd hl (JO W (ctO R (.slice oa es.length ca) (.slice ob n cb) (j : Int) b q e.id) e) ?_ ?_ ?_
 ·refine ⟨(fun k v c h => by cases h), (Below.refl _ _).drew, (fun v h => by cases h), (fun v h => by cases h), (fun v h => by cases h), (fun v h => by cases h), (fun v h => by cases h), (fun v h => by cases h)⟩
 ·intro i o V w7 ho hVi hdep0 hcl hJ
  have hi : i < 13 := by have := (Array.getElem?_eq_some_iff.1 ho).1; omega
  have hop0 := opTab_at htab ho
  have hg := opFree_at hfree ho
  have hdep : ∀ {l : List Nat}, depO[i]? = some l → ∀ k ∈ l, ∃ v, V k = some v := fun hl => opDep_at hdp ho hdep0 hl
  have hlate : ∀ k, i ∈ (depO[k]?).getD [] → V k = none := fun k hk => by
   cases hv : V k with
   | none => rfl
   | some v =>
    exfalso
    cases hl : depO[k]? with
    | none => rw [hl] at hk; simp at hk
    | some l =>
     rw [hl] at hk
     have hk24 : k < 13 := by have := (List.getElem?_eq_some_iff.1 hl).1; simpa [depO] using this
     obtain ⟨u, hu⟩ := opDep_at hdp (hget k hk24) (hcl k _ (hget k hk24) (by rw [hv]; rfl)) hl i (by simpa using hk)
     rw [hVi] at hu
     cases hu
  clear hdep0 hcl
  have hcases : i = 0 ∨ i = 1 ∨ i = 2 ∨ i = 3 ∨ i = 4 ∨ i = 5 ∨ i = 6 ∨ i = 7 ∨ i = 8 ∨ i = 9 ∨ i = 10 ∨ i = 11 ∨ i = 12 := by omega
  rcases hcases with rfl | rfl | rfl | rfl | rfl | rfl | rfl | rfl | rfl | rfl | rfl | rfl | rfl
  ·have hop : o.op = .fieldAddr 41 (.tmp 3) 0 := by (have h := hop0; simp only [tabO, List.getElem?_cons_zero, List.getElem?_cons_succ, Option.some.injEq, Prod.mk.injEq] at h; exact h.2.symm)
   replace hdep := hdep (l := depO.getD 0 []) (by rfl)
   have E3 := (eval_other (V := V) (a := a0) ops.size (noDst_of n3)).trans e3
   refine gop ho hg ?_ ⟨_, rfl, hJ.put hVi (fun c hc => by cases hc; rfl) (fun h => by omega) (fun h => by omega) (fun h => by omega) (fun h => by omega) (fun h => by omega) (by decide) (fun h => by omega)⟩
   obtain ⟨dst, op, ty, pos, after, guard⟩ := o
   simp only at hop
   subst hop
   generalize actG ops V a0 ops.size = A at E3 ⊢
   clear hJ hget hdst hend hdep hlate hroomc hidc hev hfine
   simp only [Act.eval, Array.getD_eq_getD_getElem?] at E3
   go_simp
  ·have hop : o.op = .load 24 (.tmp 92) := by (have h := hop0; simp only [tabO, List.getElem?_cons_zero, List.getElem?_cons_succ, Option.some.injEq, Prod.mk.injEq] at h; exact h.2.symm)
   replace hdep := hdep (l := depO.getD 1 []) (by rfl)
   obtain ⟨v0, g0⟩ := hdep 0 (by simp [depO])
   have E92 : (actG ops V a0 ops.size).eval (.tmp 92) = v0 := eval_done hd (hget 0 (by omega)) (hdst 0 92 (by simp [tabO]) (by omega)) g0 (by omega) _ (by omega)
   obtain rfl : v0 = _ := hJ.pt 0 v0 _ g0 rfl
   have r0 := hroomc _ hJ.bel
   refine gop ho hg ?_ ⟨_, rfl, hJ.put hVi (fun c hc => by cases hc; rfl) (fun h => by omega) (fun h => by omega) (fun h => by omega) (fun h => by omega) (fun h => by omega) (by decide) (fun h => by omega)⟩
   obtain ⟨dst, op, ty, pos, after, guard⟩ := o
   simp only at hop
   subst hop
   generalize actG ops V a0 ops.size = A at E92 ⊢
   clear hJ hget hdst hend hdep hlate hroomc hidc hev hfine
   simp only [Act.eval, Array.getD_eq_getD_getElem?] at E92
   go_simp
  ·have hop : o.op = .move (.tmp 8) := by (have h := hop0; simp only [tabO, List.getElem?_cons_zero, List.getElem?_cons_succ, Option.some.injEq, Prod.mk.injEq] at h; exact h.2.symm)
   replace hdep := hdep (l := depO.getD 2 []) (by rfl)
   have E8 := (eval_other (V := V) (a := a0) ops.size (noDst_of n8)).trans e8
   refine gop ho hg ?_ ⟨_, rfl, hJ.put hVi (fun c hc => by cases hc; rfl) (fun h => by omega) (fun h => by omega) (fun h => by omega) (fun h => by omega) (fun h => by omega) (by decide) (fun h => by omega)⟩
   obtain ⟨dst, op, ty, pos, after, guard⟩ := o
   simp only at hop
   subst hop
   generalize actG ops V a0 ops.size = A at E8 ⊢
   clear hJ hget hdst hend hdep hlate hroomc hidc hev hfine
   simp only [Act.eval, Array.getD_eq_getD_getElem?] at E8
   go_simp
  ·have hop : o.op = .move (.tmp 10) := by (have h := hop0; simp only [tabO, List.getElem?_cons_zero, List.getElem?_cons_succ, Option.some.injEq, Prod.mk.injEq] at h; exact h.2.symm)
   replace hdep := hdep (l := depO.getD 3 []) (by rfl)
   have E10 := (eval_other (V := V) (a := a0) ops.size (noDst_of n10)).trans e10
   refine gop ho hg ?_ ⟨_, rfl, hJ.put hVi (fun c hc => by cases hc; rfl) (fun h => by omega) (fun h => by omega) (fun h => by omega) (fun h => by omega) (fun h => by omega) (by decide) (fun h => by omega)⟩
   obtain ⟨dst, op, ty, pos, after, guard⟩ := o
   simp only at hop
   subst hop
   generalize actG ops V a0 ops.size = A at E10 ⊢
   clear hJ hget hdst hend hdep hlate hroomc hidc hev hfine
   simp only [Act.eval, Array.getD_eq_getD_getElem?] at E10
   go_simp
  ·have hop : o.op = .indexAddr 32 (.tmp 94) (.tmp 95) := by (have h := hop0; simp only [tabO, List.getElem?_cons_zero, List.getElem?_cons_succ, Option.some.injEq, Prod.mk.injEq] at h; exact h.2.symm)
   replace hdep := hdep (l := depO.getD 4 []) (by rfl)
   obtain ⟨v2, g2⟩ := hdep 2 (by simp [depO])
   obtain ⟨v3, g3⟩ := hdep 3 (by simp [depO])
   have E94 : (actG ops V a0 ops.size).eval (.tmp 94) = v2 := eval_done hd (hget 2 (by omega)) (hdst 2 94 (by simp [tabO]) (by omega)) g2 (by omega) _ (by omega)
   have E95 : (actG ops V a0 ops.size).eval (.tmp 95) = v3 := eval_done hd (hget 3 (by omega)) (hdst 3 95 (by simp [tabO]) (by omega)) g3 (by omega) _ (by omega)
   obtain rfl : v2 = _ := hJ.pt 2 v2 _ g2 rfl
   obtain rfl : v3 = _ := hJ.pt 3 v3 _ g3 rfl
   have hidx1 := hidx
   refine gop ho hg ?_ ⟨_, rfl, hJ.put hVi (fun c hc => by cases hc; rfl) (fun h => by omega) (fun h => by omega) (fun h => by omega) (fun h => by omega) (fun h => by omega) (by decide) (fun h => by omega)⟩
   obtain ⟨dst, op, ty, pos, after, guard⟩ := o
   simp only at hop
   subst hop
   generalize actG ops V a0 ops.size = A at E94 E95 ⊢
   clear hJ hget hdst hend hdep hlate hroomc hidc hev hfine
   simp only [Act.eval, Array.getD_eq_getD_getElem?] at E94 E95
   go_simp
  ·have hop : o.op = .load 3 (.tmp 96) := by (have h := hop0; simp only [tabO, List.getElem?_cons_zero, List.getElem?_cons_succ, Option.some.injEq, Prod.mk.injEq] at h; exact h.2.symm)
   replace hdep := hdep (l := depO.getD 5 []) (by rfl)
   obtain ⟨v4, g4⟩ := hdep 4 (by simp [depO])
   have E96 : (actG ops V a0 ops.size).eval (.tmp 96) = v4 := eval_done hd (hget 4 (by omega)) (hdst 4 96 (by simp [tabO]) (by omega)) g4 (by omega) _ (by omega)
   obtain rfl : v4 = _ := hJ.pt 4 v4 _ g4 rfl
   have r0 := hidc _ hJ.bel
   refine gop ho hg ?_ ⟨_, rfl, hJ.put hVi (fun c hc => by cases hc; rfl) (fun h => by omega) (fun h => by omega) (fun h => by omega) (fun h => by omega) (fun h => by omega) (by decide) (fun h => by omega)⟩
   obtain ⟨dst, op, ty, pos, after, guard⟩ := o
   simp only at hop
   subst hop
   generalize actG ops V a0 ops.size = A at E96 ⊢
   clear hJ hget hdst hend hdep hlate hroomc hidc hev hfine
   simp only [Act.eval, Array.getD_eq_getD_getElem?] at E96
   go_simp
  ·have hop : o.op = .call { callee := .value (.func 26), args := #[.tmp 93, .tmp 97], argTypes := #[24, 3] } := by (have h := hop0; simp only [tabO, List.getElem?_cons_zero, List.getElem?_cons_succ, Option.some.injEq, Prod.mk.injEq] at h; exact h.2.symm)
   replace hdep := hdep (l := depO.getD 6 []) (by rfl)
   obtain ⟨v1, g1⟩ := hdep 1 (by simp [depO])
   obtain ⟨v5, g5⟩ := hdep 5 (by simp [depO])
   have E93 : (actG ops V a0 ops.size).eval (.tmp 93) = v1 := eval_done hd (hget 1 (by omega)) (hdst 1 93 (by simp [tabO]) (by omega)) g1 (by omega) _ (by omega)
   have E97 : (actG ops V a0 ops.size).eval (.tmp 97) = v5 := eval_done hd (hget 5 (by omega)) (hdst 5 97 (by simp [tabO]) (by omega)) g5 (by omega) _ (by omega)
   obtain rfl : v1 = _ := hJ.pt 1 v1 _ g1 rfl
   obtain rfl : v5 = _ := hJ.pt 5 v5 _ g5 rfl
   have HC := hide (specKnown_any oa es.length ca es e.id hfine w7 (hev _ hJ.bel))
   rw [hkn] at HC
   refine gop_call ho hg (f := 26) (args := #[.slice oa es.length ca, .int .i64 e.id]) (w' := w7) ?_ (HC.out.mono ?_)
   ·obtain ⟨dst, op, ty, pos, after, guard⟩ := o
    simp only at hop
    subst hop
    generalize actG ops V a0 ops.size = A at E93 E97 ⊢
    clear hJ hget hdst hend hdep hlate hroomc hidc hev hfine HC
    simp only [Act.eval, Array.getD_eq_getD_getElem?] at E93 E97
    go_simp
   ·rintro r w8 ⟨vl, vp, rfl, how, hb8⟩
    obtain ⟨ol, cl, rfl⟩ := row_form how.l
    obtain ⟨oq, cq, rfl⟩ := row_form how.p
    refine ⟨_, rfl, _, rfl, (hJ.on hb8).put hVi (fun c hc => by cases hc) (fun _ => ⟨ol, cl, oq, cq, rfl, own_base how.l hJ.bel.size, own_base how.p hJ.bel.size⟩) (fun h => by omega) (fun h => by omega) (fun h => by omega) (fun h => by omega) (by decide) (fun h => by omega)⟩
  ·have hop : o.op = .move (.tmp 98) := by (have h := hop0; simp only [tabO, List.getElem?_cons_zero, List.getElem?_cons_succ, Option.some.injEq, Prod.mk.injEq] at h; exact h.2.symm)
   replace hdep := hdep (l := depO.getD 7 []) (by rfl)
   obtain ⟨v6, g6⟩ := hdep 6 (by simp [depO])
   have E98 : (actG ops V a0 ops.size).eval (.tmp 98) = v6 := eval_done hd (hget 6 (by omega)) (hdst 6 98 (by simp [tabO]) (by omega)) g6 (by omega) _ (by omega)
   refine gop ho hg ?_ ⟨_, rfl, hJ.put hVi (fun c hc => by cases hc) (fun h => by omega) (fun _ => g6) (fun h => by omega) (fun h => by omega) (fun h => by omega) (by decide) (fun h => by omega)⟩
   obtain ⟨dst, op, ty, pos, after, guard⟩ := o
   simp only at hop
   subst hop
   generalize actG ops V a0 ops.size = A at E98 ⊢
   clear hJ hget hdst hend hdep hlate hroomc hidc hev hfine
   simp only [Act.eval, Array.getD_eq_getD_getElem?] at E98
   go_simp
  ·have hop : o.op = .extract (.tmp 91) 0 := by (have h := hop0; simp only [tabO, List.getElem?_cons_zero, List.getElem?_cons_succ, Option.some.injEq, Prod.mk.injEq] at h; exact h.2.symm)
   replace hdep := hdep (l := depO.getD 8 []) (by rfl)
   obtain ⟨v7, g7⟩ := hdep 7 (by simp [depO])
   have E91 : (actG ops V a0 ops.size).eval (.tmp 91) = v7 := eval_done hd (hget 7 (by omega)) (hdst 7 91 (by simp [tabO]) (by omega)) g7 (by omega) _ (by omega)
   obtain ⟨ol, cl, oq, cq, hv, q2, q3⟩ := hJ.k8 v7 (hJ.m9 v7 g7)
   refine gop ho hg (v := evv e (.slice ol e.levels.length cl) (.slice oq e.prev.length cq)) ?_ ⟨_, rfl, hJ.put hVi (fun c hc => by cases hc) (fun h => by omega) (fun h => by omega) (fun _ => ⟨_, by rw [hJ.m9 v7 g7, hv]⟩) (fun h => by omega) (fun h => by omega) (by decide) (fun h => by omega)⟩
   subst hv
   clear q2 q3
   obtain ⟨dst, op, ty, pos, after, guard⟩ := o
   simp only at hop
   subst hop
   generalize actG ops V a0 ops.size = A at E91 ⊢
   clear hJ hget hdst hend hdep hlate hroomc hidc hev hfine
   simp only [Act.eval, Array.getD_eq_getD_getElem?] at E91
   go_simp
  ·have hop : o.op = .extract (.tmp 91) 1 := by (have h := hop0; simp only [tabO, List.getElem?_cons_zero, List.getElem?_cons_succ, Option.some.injEq, Prod.mk.injEq] at h; exact h.2.symm)
   replace hdep := hdep (l := depO.getD 9 []) (by rfl)
   obtain ⟨v7, g7⟩ := hdep 7 (by simp [depO])
   have E91 : (actG ops V a0 ops.size).eval (.tmp 91) = v7 := eval_done hd (hget 7 (by omega)) (hdst 7 91 (by simp [tabO]) (by omega)) g7 (by omega) _ (by omega)
   obtain ⟨ol, cl, oq, cq, hv, q2, q3⟩ := hJ.k8 v7 (hJ.m9 v7 g7)
   refine gop ho hg (v := .bool true) ?_ ⟨_, rfl, hJ.put hVi (fun c hc => by cases hc) (fun h => by omega) (fun h => by omega) (fun h => by omega) (fun _ => ⟨_, by rw [hJ.m9 v7 g7, hv]⟩) (fun h => by omega) (by decide) (fun h => by omega)⟩
   subst hv
   clear q2 q3
   obtain ⟨dst, op, ty, pos, after, guard⟩ := o
   simp only at hop
   subst hop
   generalize actG ops V a0 ops.size = A at E91 ⊢
   clear hJ hget hdst hend hdep hlate hroomc hidc hev hfine
   simp only [Act.eval, Array.getD_eq_getD_getElem?] at E91
   go_simp
  ·have hop : o.op = .alloc 45 := by (have h := hop0; simp only [tabO, List.getElem?_cons_zero, List.getElem?_cons_succ, Option.some.injEq, Prod.mk.injEq] at h; exact h.2.symm)
   replace hdep := hdep (l := depO.getD 10 []) (by rfl)
   have hb : Below w7.heap.size w7 (w7.alloc (.cells (evcells 0 0 0 0 0 0 (.slice none 0 0) (.slice none 0 0) []) 45)) := (Below.refl _ _).alloc (Nat.le_refl _) _
   have hz13 : V 11 = none := hlate 11 (by simp [depO])
   refine gop ho hg ?_ ⟨.pointer (some ⟨w7.heap.size, 0, none⟩), rfl, (hJ.on hb).put hVi (fun c hc => by cases hc) (fun h => by omega) (fun h => by omega) (fun h => by omega) (fun h => by omega) (fun _ => ⟨_, rfl, hJ.bel.size, EB.new _ _ _ _ _ _ _ _ _ _, hz13⟩) (by decide) (fun h => by omega)⟩
   clear hb hz13
   obtain ⟨dst, op, ty, pos, after, guard⟩ := o
   simp only at hop
   subst hop
   generalize actG ops V a0 ops.size = A
   clear hJ hget hdst hend hdep hlate hroomc hidc hev hfine
   go_simp
  ·have hop : o.op = .store 45 (.tmp 11) (.tmp 99) := by (have h := hop0; simp only [tabO, List.getElem?_cons_zero, List.getElem?_cons_succ, Option.some.injEq, Prod.mk.injEq] at h; exact h.2.symm)
   replace hdep := hdep (l := depO.getD 11 []) (by rfl)
   obtain ⟨v6, g6⟩ := hdep 6 (by simp [depO])
   obtain ⟨v8, g8⟩ := hdep 8 (by simp [depO])
   obtain ⟨v10, g10⟩ := hdep 10 (by simp [depO])
   have E11 : (actG ops V a0 ops.size).eval (.tmp 11) = v10 := eval_done hd (hget 10 (by omega)) (hdst 10 11 (by simp [tabO]) (by omega)) g10 (by omega) _ (by omega)
   have E99 : (actG ops V a0 ops.size).eval (.tmp 99) = v8 := eval_done hd (hget 8 (by omega)) (hdst 8 99 (by simp [tabO]) (by omega)) g8 (by omega) _ (by omega)
   obtain ⟨b, rfl, hBb, hb0, -⟩ := hJ.b12 v10 g10
   have hb := hb0 hVi
   obtain ⟨t, ht⟩ := hJ.x10 v8 g8
   obtain ⟨ol, cl, oq, cq, hv, q2, q3⟩ := hJ.k8 _ ht
   obtain ⟨rfl, rfl⟩ : v8 = evv e (.slice ol e.levels.length cl) (.slice oq e.prev.length cq) ∧ t = .bool true := by injection hv with h; simpa using h
   obtain ⟨w8, hw8, hE8, hg8⟩ := hb.all e.id e.kind e.sender e.user e.member e.depth (.slice ol e.levels.length cl) (.slice oq e.prev.length cq) e.text
   refine gop_skip ho hg (w' := w8) ?_ ⟨_, rfl, hJ.s13 hVi ht rfl g10 hb hBb hg8 hE8⟩
   obtain ⟨k0, k1, k2, k3, k4, k5, k6, k7, k8⟩ := hb.ev
   have y0 := hb.free 0
   have y1 := hb.free 1
   have y2 := hb.free 2
   have y3 := hb.free 3
   have y4 := hb.free 4
   have y5 := hb.free 5
   have y6 := hb.free 6
   have y7 := hb.free 7
   have y8 := hb.free 8
   clear hv ht q2 q3 hE8 hg8 hb0 hb
   obtain ⟨dst, op, ty, pos, after, guard⟩ := o
   simp only at hop
   subst hop
   generalize actG ops V a0 ops.size = A at E11 E99 ⊢
   clear hJ hget hdst hend hdep hlate hroomc hidc hev hfine
   simp only [Act.eval, Array.getD_eq_getD_getElem?] at E11 E99
   go_simp
   try exact hw8
  ·have hop : o.op = .assign (.tmp 100) := by (have h := hop0; simp only [tabO, List.getElem?_cons_zero, List.getElem?_cons_succ, Option.some.injEq, Prod.mk.injEq] at h; exact h.2.symm)
   replace hdep := hdep (l := depO.getD 12 []) (by rfl)
   obtain ⟨v6, g6⟩ := hdep 6 (by simp [depO])
   obtain ⟨v9, g9⟩ := hdep 9 (by simp [depO])
   obtain ⟨v11, g11⟩ := hdep 11 (by simp [depO])
   have E100 : (actG ops V a0 ops.size).eval (.tmp 100) = v9 := eval_done hd (hget 9 (by omega)) (hdst 9 100 (by simp [tabO]) (by omega)) g9 (by omega) _ (by omega)
   refine gop ho hg ?_ ⟨v9, rfl, hJ.put hVi (fun c hc => by cases hc) (fun h => by omega) (fun h => by omega) (fun h => by omega) (fun h => by omega) (fun h => by omega) (by decide) (fun _ => g9)⟩
   obtain ⟨dst, op, ty, pos, after, guard⟩ := o
   simp only at hop
   subst hop
   generalize actG ops V a0 ops.size = A at E100 ⊢
   clear hJ hget hdst hend hdep hlate hroomc hidc hev hfine
   simp only [Act.eval, Array.getD_eq_getD_getElem?] at E100
   go_simp
 ·intro V w7 hall hJ
  have hall' : ∀ k, k < 13 → ∃ v, V k = some v := fun k hk => Option.isSome_iff_exists.1 (hall k (by omega))
  obtain ⟨v12, g12⟩ := hall' 10 (by omega)
  obtain ⟨v13, g13⟩ := hall' 11 (by omega)
  obtain ⟨v14, g14⟩ := hall' 12 (by omega)
  obtain ⟨b, rfl, hBb, -, hq⟩ := hJ.b12 v12 g12
  obtain ⟨ol, cl, oq, cq, t, r1, r2⟩ := hq (by rw [g13]; simp)
  obtain ⟨ol', cl', oq', cq', hv, q2, q3⟩ := hJ.k8 _ r1
  obtain ⟨t', ht'⟩ := hJ.x11 v14 (hJ.x14 v14 g14)
  rw [r1] at ht'
  injection hv with hv
  injection ht' with ht'
  injection ht' with ht'
  have h1 : (ol = ol' ∧ cl = cl' ∧ oq = oq' ∧ cq = cq') ∧ t = .bool true := by simpa [and_assoc] using hv
  obtain ⟨⟨rfl, rfl, rfl, rfl⟩, rfl⟩ := h1
  have h2 : v14 = .bool true := by
   have h3 := ht'
   simp at h3
   exact h3.2.symm
  subst h2
  exact hend V w7 b ol cl oq cq hall' g14 g12 r2 q3 hJ.bel

def ctT (R : Nat) (ve vs vb : Value) : Nat → Option Value
 | 0 => some (.pointer (some ⟨R, 0, none⟩))
 | 1 => some ve
 | 2 => some vs
 | 3 => some vb
 | 4 => some vb
 | _ => none

structure JT (W : World) (ct : Nat → Option Value) (B : Nat) (vb : Value) (zs R : List Int) (V : Gh) (w : World) : Prop where
 pt : PT ct V
 gr : V 6 = none → W.grownBy w vb.ownBlock
 r0 : V 5 = none → w.ownsRow B 3 1 vb zs.length (zs.map icell)
 r5 : V 6 = none → ∀ v, V 5 = some v → w.ownsRow B 3 1 v (zs ++ zs).length ((zs ++ zs).map icell)
 r6 : ∀ v, V 6 = some v → ∃ w8, W.grownBy w8 vb.ownBlock ∧ Below w8.heap.size w8 w ∧ w.ownsRow w8.heap.size 3 1 v R.length (R.map icell)
 m7 : ∀ v, V 7 = some v → V 6 = some v

section
variable {W : World} {ct : Nat → Option Value} {B : Nat} {vb : Value} {zs R : List Int} {V : Gh} {w w' : World}

theorem JT.put (h : JT W ct B vb zs R V w) {i : Nat} {v : Value} (hc : ct i = some v) (h5 : i ≠ 5) (h6 : i ≠ 6) (h7 : i ≠ 7) : JT W ct B vb zs R (V.set i v) w := by
 refine ⟨h.pt.set (fun c hc' => by rw [hc] at hc'; cases hc'; rfl), ?_, ?_, ?_, ?_, ?_⟩ <;> simp only [Gh.set_ne V v (Ne.symm h5), Gh.set_ne V v (Ne.symm h6), Gh.set_ne V v (Ne.symm h7)]
 ·exact h.gr
 ·exact h.r0
 ·exact h.r5
 ·exact h.r6
 ·exact h.m7
end

def tabT : List (Option Tmp × Op) := [(some 57, .fieldAddr 41 (.tmp 3) 0), (some 58, .load 24 (.tmp 57)), (some 59, .move (.tmp 4)), (some 60, .move (.tmp 6)), (some 61, .move (.tmp 6)), (some 62, .call { callee := .builtin .append, args := #[.tmp 60, .tmp 61], argTypes := #[32, 32] }), (some 63, .call { callee := .value (.func 24), args := #[.tmp 58, .tmp 59, .tmp 62], argTypes := #[24, 28, 32] }), (some 9, .assign (.tmp 63))]
def depT : List (List Nat) := [[], [0], [], [], [], [3, 4], [1, 2, 5], [0, 1, 2, 3, 4, 5, 6]]

set_option maxHeartbeats 4000000 in
theorem twice_region {id0 : Nat} {ops : Array Oper} {Q : Exit → Act → World → Prop} {a0 : Act} {W : World} (hm : Tryz.prog.follows .mixedOrders = true) (htab : opTab ops = tabT) (hdp : depHas ops depT = true) (hfree : opFree ops = true) (hd : dstsOk ops = true) (hl : lowOk2 ops = true)
  (n3 : noDst ops 3 = true) (n4 : noDst ops 4 = true) (n6 : noDst ops 6 = true)
  {R n B m cs ca cb : Nat} {oa os ob : Option Addr} {es : List EvV} {zs O : List Int}
  (hsz : 64 ≤ a0.tmps.size) (e3 : a0.eval (.tmp 3) = .pointer (some ⟨R, 0, none⟩)) (e4 : a0.eval (.tmp 4) = .slice os m cs) (e6 : a0.eval (.tmp 6) = .slice ob zs.length cb) (hzl : zs.length ≤ 1000) (hB : B ≤ W.heap.size)
  (hrow : W.ownsRow B 3 1 (.slice ob zs.length cb) zs.length (zs.map icell))
  (hroomc : ∀ w', W.grownBy w' (Value.slice ob zs.length cb).ownBlock → w'.cell? ⟨R, 0, none⟩ = some (.slice oa es.length ca))
  (hord : ∀ w' o5 c5, W.grownBy w' (Value.slice ob zs.length cb).ownBlock → w'.ownsRow B 3 1 (.slice o5 (zs ++ zs).length c5) (zs ++ zs).length ((zs ++ zs).map icell) → Calls Tryz.prog 24 #[.slice oa es.length ca, .slice os m cs, .slice o5 (zs ++ zs).length c5] w' (IntPost w' O))
  (hend : ∀ (V : Gh) (w' w8 : World) (v : Value), (∀ k, k < 8 → ∃ v, V k = some v) → V 7 = some v → W.grownBy w8 (Value.slice ob zs.length cb).ownBlock → Below w8.heap.size w8 w' → w'.ownsRow w8.heap.size 3 1 v O.length (O.map icell) → Q .normal (actG ops V a0 ops.size) w') : (Code.region id0 ops true).wp Tryz.prog Q a0 W := by
 have hops : ops.size = 8 := by
  have := congrArg List.length htab
  simpa [opTab, tabT] using this
 have hget : ∀ k (hk : k < 8), ops[k]? = some (ops[k]'(by omega)) := fun k hk => Array.getElem?_eq_getElem (by omega)
 have hdst : ∀ k t, (tabT[k]?).map (·.1) = some (some t) → (hk : k < 8) → (ops[k]'(by omega)).dst = some t := fun k t ht hk => by
  have := opTab_at htab (hget k hk)
  rw [this] at ht
  simpa using ht
 refine wp_region_ghost2 hm hd hl (JT W (ctT R (.slice oa es.length ca) (.slice os m cs) (.slice ob zs.length cb)) B (.slice ob zs.length cb) zs O) ?_ ?_ ?_
 ·exact ⟨(fun k v c h => by cases h), fun _ => ⟨rfl, rfl, rfl, Nat.le_refl _, fun _ _ _ => rfl⟩, fun _ => hrow.drew, (fun _ v h => by cases h), (fun v h => by cases h), (fun v h => by cases h)⟩
 ·intro i o V w7 ho hVi hdep0 hcl hJ
  have hi : i < 8 := by have := (Array.getElem?_eq_some_iff.1 ho).1; omega
  have hop0 := opTab_at htab ho
  have hg := opFree_at hfree ho
  have hdep : ∀ {l : List Nat}, depT[i]? = some l → ∀ k ∈ l, ∃ v, V k = some v := fun hl => opDep_at hdp ho hdep0 hl
  have hlate : ∀ k, i ∈ (depT[k]?).getD [] → V k = none := fun k hk => by
   cases hv : V k with
   | none => rfl
   | some v =>
    exfalso
    cases hl : depT[k]? with
    | none => rw [hl] at hk; simp at hk
    | some l =>
     rw [hl] at hk
     have hk24 : k < 8 := by have := (List.getElem?_eq_some_iff.1 hl).1; simpa [depT] using this
     obtain ⟨u, hu⟩ := opDep_at hdp (hget k hk24) (hcl k _ (hget k hk24) (by rw [hv]; rfl)) hl i (by simpa using hk)
     rw [hVi] at hu
     cases hu
  clear hdep0 hcl
  have hcases : i = 0 ∨ i = 1 ∨ i = 2 ∨ i = 3 ∨ i = 4 ∨ i = 5 ∨ i = 6 ∨ i = 7 := by omega
  rcases hcases with rfl | rfl | rfl | rfl | rfl | rfl | rfl | rfl
  ·have hop : o.op = .fieldAddr 41 (.tmp 3) 0 := by (have h := hop0; simp only [tabT, List.getElem?_cons_zero, List.getElem?_cons_succ, Option.some.injEq, Prod.mk.injEq] at h; exact h.2.symm)
   replace hdep := hdep (l := depT.getD 0 []) (by rfl)
   have E3 := (eval_other (V := V) (a := a0) ops.size (noDst_of n3)).trans e3
   refine gop ho hg ?_ ⟨_, rfl, hJ.put rfl (by decide) (by decide) (by decide)⟩
   obtain ⟨dst, op, ty, pos, after, guard⟩ := o
   simp only at hop
   subst hop
   generalize actG ops V a0 ops.size = A at E3 ⊢
   clear hJ hget hdst hend hdep hlate hroomc hord
   simp only [Act.eval, Array.getD_eq_getD_getElem?] at E3
   go_simp
  ·have hop : o.op = .load 24 (.tmp 57) := by (have h := hop0; simp only [tabT, List.getElem?_cons_zero, List.getElem?_cons_succ, Option.some.injEq, Prod.mk.injEq] at h; exact h.2.symm)
   replace hdep := hdep (l := depT.getD 1 []) (by rfl)
   obtain ⟨v0, g0⟩ := hdep 0 (by simp [depT])
   have E57 : (actG ops V a0 ops.size).eval (.tmp 57) = v0 := eval_done hd (hget 0 (by omega)) (hdst 0 57 (by simp [tabT]) (by omega)) g0 (by omega) _ (by omega)
   obtain rfl : v0 = _ := hJ.pt 0 v0 _ g0 rfl
   have hn6 : V 6 = none := hlate 6 (by simp [depT])
   have k1 := hroomc _ (hJ.gr hn6)
   refine gop ho hg ?_ ⟨_, rfl, hJ.put rfl (by decide) (by decide) (by decide)⟩
   obtain ⟨dst, op, ty, pos, after, guard⟩ := o
   simp only at hop
   subst hop
   generalize actG ops V a0 ops.size = A at E57 ⊢
   clear hJ hget hdst hend hdep hlate hroomc hord
   simp only [Act.eval, Array.getD_eq_getD_getElem?] at E57
   go_simp
  ·have hop : o.op = .move (.tmp 4) := by (have h := hop0; simp only [tabT, List.getElem?_cons_zero, List.getElem?_cons_succ, Option.some.injEq, Prod.mk.injEq] at h; exact h.2.symm)
   replace hdep := hdep (l := depT.getD 2 []) (by rfl)
   have E4 := (eval_other (V := V) (a := a0) ops.size (noDst_of n4)).trans e4
   refine gop ho hg ?_ ⟨_, rfl, hJ.put rfl (by decide) (by decide) (by decide)⟩
   obtain ⟨dst, op, ty, pos, after, guard⟩ := o
   simp only at hop
   subst hop
   generalize actG ops V a0 ops.size = A at E4 ⊢
   clear hJ hget hdst hend hdep hlate hroomc hord
   simp only [Act.eval, Array.getD_eq_getD_getElem?] at E4
   go_simp
  ·have hop : o.op = .move (.tmp 6) := by (have h := hop0; simp only [tabT, List.getElem?_cons_zero, List.getElem?_cons_succ, Option.some.injEq, Prod.mk.injEq] at h; exact h.2.symm)
   replace hdep := hdep (l := depT.getD 3 []) (by rfl)
   have E6 := (eval_other (V := V) (a := a0) ops.size (noDst_of n6)).trans e6
   refine gop ho hg ?_ ⟨_, rfl, hJ.put rfl (by decide) (by decide) (by decide)⟩
   obtain ⟨dst, op, ty, pos, after, guard⟩ := o
   simp only at hop
   subst hop
   generalize actG ops V a0 ops.size = A at E6 ⊢
   clear hJ hget hdst hend hdep hlate hroomc hord
   simp only [Act.eval, Array.getD_eq_getD_getElem?] at E6
   go_simp
  ·have hop : o.op = .move (.tmp 6) := by (have h := hop0; simp only [tabT, List.getElem?_cons_zero, List.getElem?_cons_succ, Option.some.injEq, Prod.mk.injEq] at h; exact h.2.symm)
   replace hdep := hdep (l := depT.getD 4 []) (by rfl)
   have E6 := (eval_other (V := V) (a := a0) ops.size (noDst_of n6)).trans e6
   refine gop ho hg ?_ ⟨_, rfl, hJ.put rfl (by decide) (by decide) (by decide)⟩
   obtain ⟨dst, op, ty, pos, after, guard⟩ := o
   simp only at hop
   subst hop
   generalize actG ops V a0 ops.size = A at E6 ⊢
   clear hJ hget hdst hend hdep hlate hroomc hord
   simp only [Act.eval, Array.getD_eq_getD_getElem?] at E6
   go_simp
  ·have hop : o.op = .call { callee := .builtin .append, args := #[.tmp 60, .tmp 61], argTypes := #[32, 32] } := by (have h := hop0; simp only [tabT, List.getElem?_cons_zero, List.getElem?_cons_succ, Option.some.injEq, Prod.mk.injEq] at h; exact h.2.symm)
   replace hdep := hdep (l := depT.getD 5 []) (by rfl)
   obtain ⟨v3, g3⟩ := hdep 3 (by simp [depT])
   obtain ⟨v4, g4⟩ := hdep 4 (by simp [depT])
   have E60 : (actG ops V a0 ops.size).eval (.tmp 60) = v3 := eval_done hd (hget 3 (by omega)) (hdst 3 60 (by simp [tabT]) (by omega)) g3 (by omega) _ (by omega)
   have E61 : (actG ops V a0 ops.size).eval (.tmp 61) = v4 := eval_done hd (hget 4 (by omega)) (hdst 4 61 (by simp [tabT]) (by omega)) g4 (by omega) _ (by omega)
   obtain rfl : v3 = _ := hJ.pt 3 v3 _ g3 rfl
   obtain rfl : v4 = _ := hJ.pt 4 v4 _ g4 rfl
   have hn6 : V 6 = none := hlate 6 (by simp [depT])
   have hr0 := hJ.r0 hVi
   obtain ⟨v', w', hr, k1, k2, k3⟩ := run_append_src (P := Tryz.prog) (ty := o.type) (t := 32) (by decide) Tryz.underlying32 infoIz rfl hr0 (own_src hr0 (by simp [Value.oneCell', icell])) (Nat.le_trans hB (hJ.gr hn6).size) (by unfold maxLen; omega) (by omega)
   refine gop ho hg (v := v') ?_ ⟨_, rfl, ⟨hJ.pt.set (fun c hc => by cases hc), fun _ => grown_trans (hJ.gr hn6) k2, fun h' => ?_, fun _ v hv => ?_, fun v hv => ?_, fun v hv => ?_⟩⟩
   ·obtain ⟨dst, op, ty, pos, after, guard⟩ := o
    simp only at hop
    subst hop
    simp only [execOp, resolve, invoke, builtin, Sem.run_bind, Sem.run_pure, Result.andThen_ok, List.map_toArray, List.map_cons, List.map_nil, E60, E61, hr]
   ·rw [Gh.set_self] at h'; cases h'
   ·rw [Gh.set_self] at hv
    cases hv
    rw [List.length_append, List.map_append]
    exact k1
   ·rw [Gh.set_ne V _ (by decide), hn6] at hv; cases hv
   ·rw [Gh.set_ne V _ (by decide)] at hv
    have := hJ.m7 v hv
    rw [hn6] at this; cases this
  ·have hop : o.op = .call { callee := .value (.func 24), args := #[.tmp 58, .tmp 59, .tmp 62], argTypes := #[24, 28, 32] } := by (have h := hop0; simp only [tabT, List.getElem?_cons_zero, List.getElem?_cons_succ, Option.some.injEq, Prod.mk.injEq] at h; exact h.2.symm)
   replace hdep := hdep (l := depT.getD 6 []) (by rfl)
   obtain ⟨v1, g1⟩ := hdep 1 (by simp [depT])
   obtain ⟨v2, g2⟩ := hdep 2 (by simp [depT])
   obtain ⟨v5, g5⟩ := hdep 5 (by simp [depT])
   have E58 : (actG ops V a0 ops.size).eval (.tmp 58) = v1 := eval_done hd (hget 1 (by omega)) (hdst 1 58 (by simp [tabT]) (by omega)) g1 (by omega) _ (by omega)
   have E59 : (actG ops V a0 ops.size).eval (.tmp 59) = v2 := eval_done hd (hget 2 (by omega)) (hdst 2 59 (by simp [tabT]) (by omega)) g2 (by omega) _ (by omega)
   have E62 : (actG ops V a0 ops.size).eval (.tmp 62) = v5 := eval_done hd (hget 5 (by omega)) (hdst 5 62 (by simp [tabT]) (by omega)) g5 (by omega) _ (by omega)
   obtain rfl : v1 = _ := hJ.pt 1 v1 _ g1 rfl
   obtain rfl : v2 = _ := hJ.pt 2 v2 _ g2 rfl
   have hr5 := hJ.r5 hVi v5 g5
   obtain ⟨o5, c5, rfl⟩ := row_form hr5
   have hgr := hJ.gr hVi
   have HC := hide (hord w7 o5 c5 hgr hr5)
   refine gop_call ho hg (f := 24) (args := #[.slice oa es.length ca, .slice os m cs, .slice o5 (zs ++ zs).length c5]) (w' := w7) ?_ (HC.out.mono ?_)
   ·obtain ⟨dst, op, ty, pos, after, guard⟩ := o
    simp only at hop
    subst hop
    generalize actG ops V a0 ops.size = A at E58 E59 E62 ⊢
    clear hJ hget hdst hend hdep hlate hroomc hord HC hgr hr5
    simp only [Act.eval, Array.getD_eq_getD_getElem?] at E58 E59 E62
    go_simp
   ·rintro r w8 ⟨v, rfl, ho8, hb8⟩
    refine ⟨_, rfl, _, rfl, ⟨hJ.pt.set (fun c hc => by cases hc), fun h' => ?_, fun h' => ?_, fun h' => ?_, fun u hu => ?_, fun u hu => ?_⟩⟩
    ·rw [Gh.set_self] at h'; cases h'
    ·rw [Gh.set_ne V _ (by decide), g5] at h'; cases h'
    ·rw [Gh.set_self] at h'; cases h'
    ·rw [Gh.set_self] at hu
     cases hu
     exact ⟨w7, hgr, hb8, ho8⟩
    ·rw [Gh.set_ne V _ (by decide)] at hu
     have := hJ.m7 u hu
     rw [hVi] at this; cases this
  ·have hop : o.op = .assign (.tmp 63) := by (have h := hop0; simp only [tabT, List.getElem?_cons_zero, List.getElem?_cons_succ, Option.some.injEq, Prod.mk.injEq] at h; exact h.2.symm)
   replace hdep := hdep (l := depT.getD 7 []) (by rfl)
   obtain ⟨v5, g5⟩ := hdep 5 (by simp [depT])
   obtain ⟨v6, g6⟩ := hdep 6 (by simp [depT])
   have E63 : (actG ops V a0 ops.size).eval (.tmp 63) = v6 := eval_done hd (hget 6 (by omega)) (hdst 6 63 (by simp [tabT]) (by omega)) g6 (by omega) _ (by omega)
   refine gop ho hg (w' := w7) ?_ ⟨v6, rfl, ⟨hJ.pt.set (fun c hc => by cases hc), fun h' => ?_, fun h' => ?_, fun h' => ?_, fun u hu => ?_, fun u hu => ?_⟩⟩
   ·obtain ⟨dst, op, ty, pos, after, guard⟩ := o
    simp only at hop
    subst hop
    generalize actG ops V a0 ops.size = A at E63 ⊢
    clear hJ hget hdst hend hdep hlate hroomc hord
    simp only [Act.eval, Array.getD_eq_getD_getElem?] at E63
    go_simp
   ·rw [Gh.set_ne V _ (by decide), g6] at h'; cases h'
   ·rw [Gh.set_ne V _ (by decide), g5] at h'; cases h'
   ·rw [Gh.set_ne V _ (by decide), g6] at h'; cases h'
   ·rw [Gh.set_ne V _ (by decide)] at hu
    exact hJ.r6 u hu
   ·rw [Gh.set_self] at hu
    cases hu
    rw [Gh.set_ne V _ (by decide)]
    exact g6
 ·intro V w7 hall hJ
  have hall' : ∀ k, k < 8 → ∃ v, V k = some v := fun k hk => Option.isSome_iff_exists.1 (hall k (by omega))
  obtain ⟨v7, g7⟩ := hall' 7 (by omega)
  obtain ⟨w8, h1, h2, h3⟩ := hJ.r6 v7 (hJ.m7 v7 g7)
  exact hend V w7 w8 v7 hall' g7 h1 h2 h3

end Go.Proofs.YtnkjjbpmdghcbaaGreat
