/-
  The law FnKnown: its walk (made by wip/tools/gen12m.py).
-/
import Derived.Test.YtmifhdoaknbkbaaPkWalk12g
import Derived.Test.YtmifhdoaknbkbaaSameEv
import Derived.Test.YtmifhdoaknbkbaaPkDraw1
namespace Go.Proofs.Ytmifhdoaknbkbaa
open Go.RowKit P1 P3 P5 P9 P11 P12 P14 P15 K
set_option linter.unusedVariables false
set_option linter.unusedSimpArgs false

theorem evFind_nodup : ∀ {es : List EvV} {j : Nat} {e : EvV}, (es.map (·.id)).Nodup → es[j]? = some e → evFind es e.id = some e
  | x :: r, 0, e, hn, he => by
    simp at he
    subst he
    unfold evFind
    rw [if_pos rfl]
  | x :: r, j + 1, e, hn, he => by
    simp only [List.getElem?_cons_succ] at he
    rw [List.map_cons, List.nodup_cons] at hn
    unfold evFind
    rw [if_neg (fun h => hn.1 (by rw [h]; exact List.mem_map.2 ⟨e, List.mem_of_getElem? he, rfl⟩))]
    exact evFind_nodup hn.2 he

theorem known_at {es : List EvV} {sts : List St} (h : Drawn es sts) {j : Nat} {e : EvV} (he : es[j]? = some e) : evKn es e.id = (e, true) := evKn_some (evFind_nodup h.inv.nod he)
theorem known_no {es : List EvV} {sts : List St} (h : Drawn es sts) : evKn es 999 = (noEv, false) := by
  refine evKn_none ?_
  cases hf : evFind es 999 with
  | none => rfl
  | some e =>
    obtain ⟨h1, h2⟩ := evFind_mem hf
    have := h.ids e h1
    omega

def ctK (R : Nat) (ve : Value) (j : Int) (b q : Nat) (id : Int) : Nat → Option Value
  | 0 => some (.pointer (some ⟨R, 0, none⟩))
  | 1 => some ve
  | 2 => some (.pointer (some ⟨R, 0, none⟩))
  | 3 => some ve
  | 4 => some (.int .i64 j)
  | 5 => some (.pointer (some ⟨b, q, none⟩))
  | 6 => some (.pointer (some ⟨b, q, none⟩))
  | 7 => some (.int .i64 id)
  | _ => none

/-- What holds where an event is asked for by its Id. -/
structure JK (W : World) (ct : Nat → Option Value) (e : EvV) (V : Gh) (w : World) : Prop where
  pt : PT ct V
  bel : Below W.heap.size W w
  k8 : ∀ v, V 8 = some v → ∃ ol cl oq cq, v = .tuple #[evv e (.slice ol e.levels.length cl) (.slice oq e.prev.length cq), .bool true] ∧ w.ownsRow W.heap.size 3 1 (.slice ol e.levels.length cl) e.levels.length (e.levels.map icell) ∧ w.ownsRow W.heap.size 3 1 (.slice oq e.prev.length cq) e.prev.length (e.prev.map icell)
  m9 : ∀ v, V 9 = some v → V 8 = some v
  x10 : ∀ v, V 10 = some v → ∃ t, V 8 = some (.tuple #[v, t])
  x11 : ∀ v, V 11 = some v → ∃ t, V 8 = some (.tuple #[t, v])
  b12 : ∀ v, V 12 = some v → ∃ b, v = .pointer (some ⟨b, 0, none⟩) ∧ W.heap.size ≤ b ∧ (V 13 = none → EB w b 0 0 0 0 0 0 (.slice none 0 0) (.slice none 0 0) []) ∧ (V 13 ≠ none → ∃ ol cl oq cq t, V 8 = some (.tuple #[evv e (.slice ol e.levels.length cl) (.slice oq e.prev.length cq), t]) ∧ EB w b e.id e.kind e.sender e.user e.member e.depth (.slice ol e.levels.length cl) (.slice oq e.prev.length cq) e.text)
  x14 : ∀ v, V 14 = some v → V 11 = some v

section
variable {W : World} {ct : Nat → Option Value} {e : EvV} {V : Gh} {w w' : World}

theorem JK.on (h : JK W ct e V w) (hb : Below w.heap.size w w') : JK W ct e V w' := by
  refine ⟨h.pt, h.bel.trans (hb.mono h.bel.size), fun v hv => ?_, h.m9, h.x10, h.x11, fun v hv => ?_, h.x14⟩
  · obtain ⟨ol, cl, oq, cq, q1, q2, q3⟩ := h.k8 v hv
    exact ⟨ol, cl, oq, cq, q1, own_below q2 hb, own_below q3 hb⟩
  · obtain ⟨b, q1, q2, q3, q4⟩ := h.b12 v hv
    refine ⟨b, q1, q2, fun hn => (q3 hn).on hb (q3 hn).lt, fun hn => ?_⟩
    obtain ⟨ol, cl, oq, cq, t, r1, r2⟩ := q4 hn
    exact ⟨ol, cl, oq, cq, t, r1, r2.on hb r2.lt⟩

theorem JK.put (h : JK W ct e V w) {i : Nat} {v : Value} (hi : V i = none) (hc : ∀ c, ct i = some c → v = c)
    (a8 : i = 8 → ∃ ol cl oq cq, v = .tuple #[evv e (.slice ol e.levels.length cl) (.slice oq e.prev.length cq), .bool true] ∧ w.ownsRow W.heap.size 3 1 (.slice ol e.levels.length cl) e.levels.length (e.levels.map icell) ∧ w.ownsRow W.heap.size 3 1 (.slice oq e.prev.length cq) e.prev.length (e.prev.map icell))
    (a9 : i = 9 → V 8 = some v) (a10 : i = 10 → ∃ t, V 8 = some (.tuple #[v, t])) (a11 : i = 11 → ∃ t, V 8 = some (.tuple #[t, v]))
    (a12 : i = 12 → ∃ b, v = .pointer (some ⟨b, 0, none⟩) ∧ W.heap.size ≤ b ∧ EB w b 0 0 0 0 0 0 (.slice none 0 0) (.slice none 0 0) [] ∧ V 13 = none) (a13 : i ≠ 13) (a14 : i = 14 → V 11 = some v) : JK W ct e (V.set i v) w := by
  refine ⟨h.pt.set hc, h.bel, fun u hu => ?_, fun u hu => ?_, fun u hu => ?_, fun u hu => ?_, fun u hu => ?_, fun u hu => ?_⟩
  · by_cases e8 : 8 = i
    · subst e8; rw [Gh.set_self] at hu; cases hu; exact a8 rfl
    · rw [Gh.set_ne V v e8] at hu; exact h.k8 u hu
  · by_cases e9 : 9 = i
    · subst e9; rw [Gh.set_self] at hu; cases hu; exact gh_keep hi (a9 rfl)
    · rw [Gh.set_ne V v e9] at hu; exact gh_keep hi (h.m9 u hu)
  · by_cases e9 : 10 = i
    · subst e9; rw [Gh.set_self] at hu; cases hu; obtain ⟨t, ht⟩ := a10 rfl; exact ⟨t, gh_keep hi ht⟩
    · rw [Gh.set_ne V v e9] at hu; obtain ⟨t, ht⟩ := h.x10 u hu; exact ⟨t, gh_keep hi ht⟩
  · by_cases e9 : 11 = i
    · subst e9; rw [Gh.set_self] at hu; cases hu; obtain ⟨t, ht⟩ := a11 rfl; exact ⟨t, gh_keep hi ht⟩
    · rw [Gh.set_ne V v e9] at hu; obtain ⟨t, ht⟩ := h.x11 u hu; exact ⟨t, gh_keep hi ht⟩
  · by_cases e9 : 12 = i
    · subst e9
      rw [Gh.set_self] at hu
      cases hu
      obtain ⟨b, q1, q2, q3, q4⟩ := a12 rfl
      refine ⟨b, q1, q2, fun _ => q3, fun hn => ?_⟩
      rw [Gh.set_ne V _ (by decide), q4] at hn
      exact absurd rfl hn
    · rw [Gh.set_ne V v e9] at hu
      obtain ⟨b, q1, q2, q3, q4⟩ := h.b12 u hu
      refine ⟨b, q1, q2, fun hn => ?_, fun hn => ?_⟩
      · rw [Gh.set_ne V v (Ne.symm a13)] at hn; exact q3 hn
      · rw [Gh.set_ne V v (Ne.symm a13)] at hn
        obtain ⟨ol, cl, oq, cq, t, r1, r2⟩ := q4 hn
        exact ⟨ol, cl, oq, cq, t, gh_keep hi r1, r2⟩
  · by_cases e9 : 14 = i
    · subst e9; rw [Gh.set_self] at hu; cases hu; exact gh_keep hi (a14 rfl)
    · rw [Gh.set_ne V v e9] at hu; exact gh_keep hi (h.x14 u hu)

theorem JK.s13 (h : JK W ct e V w) {t v : Value} {b : Nat} {ol oq : Option Addr} {cl cq : Nat} (hi : V 13 = none) (h8 : V 8 = some (.tuple #[evv e (.slice ol e.levels.length cl) (.slice oq e.prev.length cq), t])) (hct : ct 13 = none) (h12 : V 12 = some (.pointer (some ⟨b, 0, none⟩))) (hb : EB w b 0 0 0 0 0 0 (.slice none 0 0) (.slice none 0 0) []) (hbW : W.heap.size ≤ b) (hg : w.grownBy w' (some b)) (hb' : EB w' b e.id e.kind e.sender e.user e.member e.depth (.slice ol e.levels.length cl) (.slice oq e.prev.length cq) e.text) : JK W ct e (V.set 13 v) w' := by
  refine ⟨h.pt.set (fun c hc => by rw [hct] at hc; cases hc), h.bel.grown hg h.bel.size (fun q hq => by cases hq; exact hbW), fun u hu => ?_, fun u hu => ?_, fun u hu => ?_, fun u hu => ?_, fun u hu => ?_, fun u hu => ?_⟩
  · rw [Gh.set_ne V _ (by decide)] at hu
    obtain ⟨ol, cl, oq, cq, q1, q2, q3⟩ := h.k8 u hu
    exact ⟨ol, cl, oq, cq, q1, own_off q2 hg hb (by decide), own_off q3 hg hb (by decide)⟩
  · rw [Gh.set_ne V _ (by decide)] at hu; exact gh_keep hi (h.m9 u hu)
  · rw [Gh.set_ne V _ (by decide)] at hu; obtain ⟨t, ht⟩ := h.x10 u hu; exact ⟨t, gh_keep hi ht⟩
  · rw [Gh.set_ne V _ (by decide)] at hu; obtain ⟨t, ht⟩ := h.x11 u hu; exact ⟨t, gh_keep hi ht⟩
  · rw [Gh.set_ne V _ (by decide), h12] at hu
    cases hu
    refine ⟨b, rfl, hbW, fun hn => ?_, fun _ => ⟨ol, cl, oq, cq, t, gh_keep hi h8, hb'⟩⟩
    rw [Gh.set_self] at hn
    cases hn
  · rw [Gh.set_ne V _ (by decide)] at hu; exact gh_keep hi (h.x14 u hu)
end

def tabK : List (Option Tmp × Op) := [(some 21, .fieldAddr 37 (.tmp 3) 0), (some 22, .load 33 (.tmp 21)), (some 23, .fieldAddr 37 (.tmp 3) 0), (some 24, .load 33 (.tmp 23)), (some 25, .move (.tmp 4)), (some 26, .indexAddr 33 (.tmp 24) (.tmp 25)), (some 27, .fieldAddr 40 (.tmp 26) 0), (some 28, .load 3 (.tmp 27)), (some 29, .call { callee := .value (.func 23), args := #[.tmp 22, .tmp 28], argTypes := #[33, 3] }), (some 20, .move (.tmp 29)), (some 30, .extract (.tmp 20) 0), (some 31, .extract (.tmp 20) 1), (some 5, .alloc 40), (none, .store 40 (.tmp 5) (.tmp 30)), (some 6, .assign (.tmp 31))]
def depK : List (List Nat) := [[], [0], [], [2], [], [3, 4], [5], [6], [1, 7], [8], [9], [9], [], [8, 10, 12], [8, 11, 13]]

set_option maxHeartbeats 4000000 in
theorem known_region {id : Nat} {ops : Array Oper} {Q : Exit → Act → World → Prop} {a0 : Act} {W : World} (hm : Try.prog.follows .mixedOrders = true) (htab : opTab ops = tabK) (hdp : depHas ops depK = true) (hfree : opFree ops = true) (hd : dstsOk ops = true) (hl : lowOk2 ops = true) (n3 : noDst ops 3 = true) (n4 : noDst ops 4 = true)
    {R j b q : Nat} {oa : Option Addr} {ca : Nat} {es : List EvV} {e : EvV}
    (hsz : 58 ≤ a0.tmps.size) (e3 : a0.eval (.tmp 3) = .pointer (some ⟨R, 0, none⟩)) (e4 : a0.eval (.tmp 4) = .int .i64 (j : Int)) (hfine : FineE es) (hkn : evKn es e.id = (e, true))
    (hidx : ∀ wx, (Instr.indexAt 33 (.slice oa es.length ca) (.int .i64 (j : Int))).run Try.prog wx = .ok (.pointer (some ⟨b, q, none⟩)) wx)
    (hroomc : ∀ w', Below W.heap.size W w' → w'.cell? ⟨R, 0, none⟩ = some (.slice oa es.length ca)) (hidc : ∀ w', Below W.heap.size W w' → w'.cell? ⟨b, q, none⟩ = some (.int .i64 e.id)) (hev : ∀ w', Below W.heap.size W w' → EvsAt w' oa es.length ca es)
    (hend : ∀ (V : Gh) (w' : World) (be : Nat) (ol : Option Addr) (cl : Nat) (oq : Option Addr) (cq : Nat), (∀ k, k < 15 → ∃ v, V k = some v) → V 14 = some (.bool true) → V 12 = some (.pointer (some ⟨be, 0, none⟩)) → EB w' be e.id e.kind e.sender e.user e.member e.depth (.slice ol e.levels.length cl) (.slice oq e.prev.length cq) e.text → w'.ownsRow W.heap.size 3 1 (.slice ol e.levels.length cl) e.levels.length (e.levels.map icell) → w'.ownsRow W.heap.size 3 1 (.slice oq e.prev.length cq) e.prev.length (e.prev.map icell) → Below W.heap.size W w' → Q .normal (actG ops V a0 ops.size) w') : (Code.region id ops true).wp Try.prog Q a0 W := by
  have hops : ops.size = 15 := by
    have := congrArg List.length htab
    simpa [opTab, tabK] using this
  have hget : ∀ k (hk : k < 15), ops[k]? = some (ops[k]'(by omega)) := fun k hk => Array.getElem?_eq_getElem (by omega)
  have hdst : ∀ k t, (tabK[k]?).map (·.1) = some (some t) → (hk : k < 15) → (ops[k]'(by omega)).dst = some t := fun k t ht hk => by
    have := opTab_at htab (hget k hk)
    rw [this] at ht
    simpa using ht
  refine wp_region_ghost2 hm hd hl (JK W (ctK R (.slice oa es.length ca) (j : Int) b q e.id) e) ?_ ?_ ?_
  · refine ⟨(fun k v c h => by cases h), (Below.refl _ _).drew, (fun v h => by cases h), (fun v h => by cases h), (fun v h => by cases h), (fun v h => by cases h), (fun v h => by cases h), (fun v h => by cases h)⟩
  · intro i o V w7 ho hVi hdep0 hcl hJ
    have hi : i < 15 := by have := (Array.getElem?_eq_some_iff.1 ho).1; omega
    have hop0 := opTab_at htab ho
    have hg := opFree_at hfree ho
    have hdep : ∀ {l : List Nat}, depK[i]? = some l → ∀ k ∈ l, ∃ v, V k = some v := fun hl => opDep_at hdp ho hdep0 hl
    have hlate : ∀ k, i ∈ (depK[k]?).getD [] → V k = none := fun k hk => by
      cases hv : V k with
      | none => rfl
      | some v =>
        exfalso
        cases hl : depK[k]? with
        | none => rw [hl] at hk; simp at hk
        | some l =>
          rw [hl] at hk
          have hk24 : k < 15 := by have := (List.getElem?_eq_some_iff.1 hl).1; simpa [depK] using this
          obtain ⟨u, hu⟩ := opDep_at hdp (hget k hk24) (hcl k _ (hget k hk24) (by rw [hv]; rfl)) hl i (by simpa using hk)
          rw [hVi] at hu
          cases hu
    clear hdep0 hcl
    have hcases : i = 0 ∨ i = 1 ∨ i = 2 ∨ i = 3 ∨ i = 4 ∨ i = 5 ∨ i = 6 ∨ i = 7 ∨ i = 8 ∨ i = 9 ∨ i = 10 ∨ i = 11 ∨ i = 12 ∨ i = 13 ∨ i = 14 := by omega
    rcases hcases with rfl | rfl | rfl | rfl | rfl | rfl | rfl | rfl | rfl | rfl | rfl | rfl | rfl | rfl | rfl
    · have hop : o.op = .fieldAddr 37 (.tmp 3) 0 := by (have h := hop0; simp only [tabK, List.getElem?_cons_zero, List.getElem?_cons_succ, Option.some.injEq, Prod.mk.injEq] at h; exact h.2.symm)
      replace hdep := hdep (l := depK.getD 0 []) (by rfl)
      have E3 := (eval_other (V := V) (a := a0) ops.size (noDst_of n3)).trans e3
      refine gop ho hg ?_ ⟨_, rfl, hJ.put hVi (fun c hc => by cases hc; rfl) (fun h => by omega) (fun h => by omega) (fun h => by omega) (fun h => by omega) (fun h => by omega) (by decide) (fun h => by omega)⟩
      obtain ⟨dst, op, ty, pos, after, guard⟩ := o
      simp only at hop
      subst hop
      generalize actG ops V a0 ops.size = A at E3 ⊢
      clear hJ hget hdst hend hdep hlate hroomc hidc hev hfine
      simp only [Act.eval, Array.getD_eq_getD_getElem?] at E3
      go_simp
    · have hop : o.op = .load 33 (.tmp 21) := by (have h := hop0; simp only [tabK, List.getElem?_cons_zero, List.getElem?_cons_succ, Option.some.injEq, Prod.mk.injEq] at h; exact h.2.symm)
      replace hdep := hdep (l := depK.getD 1 []) (by rfl)
      obtain ⟨v0, g0⟩ := hdep 0 (by simp [depK])
      have E21 : (actG ops V a0 ops.size).eval (.tmp 21) = v0 := eval_done hd (hget 0 (by omega)) (hdst 0 21 (by simp [tabK]) (by omega)) g0 (by omega) _ (by omega)
      obtain rfl : v0 = _ := hJ.pt 0 v0 _ g0 rfl
      have r0 := hroomc _ hJ.bel
      refine gop ho hg ?_ ⟨_, rfl, hJ.put hVi (fun c hc => by cases hc; rfl) (fun h => by omega) (fun h => by omega) (fun h => by omega) (fun h => by omega) (fun h => by omega) (by decide) (fun h => by omega)⟩
      obtain ⟨dst, op, ty, pos, after, guard⟩ := o
      simp only at hop
      subst hop
      generalize actG ops V a0 ops.size = A at E21 ⊢
      clear hJ hget hdst hend hdep hlate hroomc hidc hev hfine
      simp only [Act.eval, Array.getD_eq_getD_getElem?] at E21
      go_simp
    · have hop : o.op = .fieldAddr 37 (.tmp 3) 0 := by (have h := hop0; simp only [tabK, List.getElem?_cons_zero, List.getElem?_cons_succ, Option.some.injEq, Prod.mk.injEq] at h; exact h.2.symm)
      replace hdep := hdep (l := depK.getD 2 []) (by rfl)
      have E3 := (eval_other (V := V) (a := a0) ops.size (noDst_of n3)).trans e3
      refine gop ho hg ?_ ⟨_, rfl, hJ.put hVi (fun c hc => by cases hc; rfl) (fun h => by omega) (fun h => by omega) (fun h => by omega) (fun h => by omega) (fun h => by omega) (by decide) (fun h => by omega)⟩
      obtain ⟨dst, op, ty, pos, after, guard⟩ := o
      simp only at hop
      subst hop
      generalize actG ops V a0 ops.size = A at E3 ⊢
      clear hJ hget hdst hend hdep hlate hroomc hidc hev hfine
      simp only [Act.eval, Array.getD_eq_getD_getElem?] at E3
      go_simp
    · have hop : o.op = .load 33 (.tmp 23) := by (have h := hop0; simp only [tabK, List.getElem?_cons_zero, List.getElem?_cons_succ, Option.some.injEq, Prod.mk.injEq] at h; exact h.2.symm)
      replace hdep := hdep (l := depK.getD 3 []) (by rfl)
      obtain ⟨v2, g2⟩ := hdep 2 (by simp [depK])
      have E23 : (actG ops V a0 ops.size).eval (.tmp 23) = v2 := eval_done hd (hget 2 (by omega)) (hdst 2 23 (by simp [tabK]) (by omega)) g2 (by omega) _ (by omega)
      obtain rfl : v2 = _ := hJ.pt 2 v2 _ g2 rfl
      have r0 := hroomc _ hJ.bel
      refine gop ho hg ?_ ⟨_, rfl, hJ.put hVi (fun c hc => by cases hc; rfl) (fun h => by omega) (fun h => by omega) (fun h => by omega) (fun h => by omega) (fun h => by omega) (by decide) (fun h => by omega)⟩
      obtain ⟨dst, op, ty, pos, after, guard⟩ := o
      simp only at hop
      subst hop
      generalize actG ops V a0 ops.size = A at E23 ⊢
      clear hJ hget hdst hend hdep hlate hroomc hidc hev hfine
      simp only [Act.eval, Array.getD_eq_getD_getElem?] at E23
      go_simp
    · have hop : o.op = .move (.tmp 4) := by (have h := hop0; simp only [tabK, List.getElem?_cons_zero, List.getElem?_cons_succ, Option.some.injEq, Prod.mk.injEq] at h; exact h.2.symm)
      replace hdep := hdep (l := depK.getD 4 []) (by rfl)
      have E4 := (eval_other (V := V) (a := a0) ops.size (noDst_of n4)).trans e4
      refine gop ho hg ?_ ⟨_, rfl, hJ.put hVi (fun c hc => by cases hc; rfl) (fun h => by omega) (fun h => by omega) (fun h => by omega) (fun h => by omega) (fun h => by omega) (by decide) (fun h => by omega)⟩
      obtain ⟨dst, op, ty, pos, after, guard⟩ := o
      simp only at hop
      subst hop
      generalize actG ops V a0 ops.size = A at E4 ⊢
      clear hJ hget hdst hend hdep hlate hroomc hidc hev hfine
      simp only [Act.eval, Array.getD_eq_getD_getElem?] at E4
      go_simp
    · have hop : o.op = .indexAddr 33 (.tmp 24) (.tmp 25) := by (have h := hop0; simp only [tabK, List.getElem?_cons_zero, List.getElem?_cons_succ, Option.some.injEq, Prod.mk.injEq] at h; exact h.2.symm)
      replace hdep := hdep (l := depK.getD 5 []) (by rfl)
      obtain ⟨v3, g3⟩ := hdep 3 (by simp [depK])
      obtain ⟨v4, g4⟩ := hdep 4 (by simp [depK])
      have E24 : (actG ops V a0 ops.size).eval (.tmp 24) = v3 := eval_done hd (hget 3 (by omega)) (hdst 3 24 (by simp [tabK]) (by omega)) g3 (by omega) _ (by omega)
      have E25 : (actG ops V a0 ops.size).eval (.tmp 25) = v4 := eval_done hd (hget 4 (by omega)) (hdst 4 25 (by simp [tabK]) (by omega)) g4 (by omega) _ (by omega)
      obtain rfl : v3 = _ := hJ.pt 3 v3 _ g3 rfl
      obtain rfl : v4 = _ := hJ.pt 4 v4 _ g4 rfl
      have hidx1 := hidx
      refine gop ho hg ?_ ⟨_, rfl, hJ.put hVi (fun c hc => by cases hc; rfl) (fun h => by omega) (fun h => by omega) (fun h => by omega) (fun h => by omega) (fun h => by omega) (by decide) (fun h => by omega)⟩
      obtain ⟨dst, op, ty, pos, after, guard⟩ := o
      simp only at hop
      subst hop
      generalize actG ops V a0 ops.size = A at E24 E25 ⊢
      clear hJ hget hdst hend hdep hlate hroomc hidc hev hfine
      simp only [Act.eval, Array.getD_eq_getD_getElem?] at E24 E25
      go_simp
    · have hop : o.op = .fieldAddr 40 (.tmp 26) 0 := by (have h := hop0; simp only [tabK, List.getElem?_cons_zero, List.getElem?_cons_succ, Option.some.injEq, Prod.mk.injEq] at h; exact h.2.symm)
      replace hdep := hdep (l := depK.getD 6 []) (by rfl)
      obtain ⟨v5, g5⟩ := hdep 5 (by simp [depK])
      have E26 : (actG ops V a0 ops.size).eval (.tmp 26) = v5 := eval_done hd (hget 5 (by omega)) (hdst 5 26 (by simp [tabK]) (by omega)) g5 (by omega) _ (by omega)
      obtain rfl : v5 = _ := hJ.pt 5 v5 _ g5 rfl
      refine gop ho hg ?_ ⟨_, rfl, hJ.put hVi (fun c hc => by cases hc; rfl) (fun h => by omega) (fun h => by omega) (fun h => by omega) (fun h => by omega) (fun h => by omega) (by decide) (fun h => by omega)⟩
      obtain ⟨dst, op, ty, pos, after, guard⟩ := o
      simp only at hop
      subst hop
      generalize actG ops V a0 ops.size = A at E26 ⊢
      clear hJ hget hdst hend hdep hlate hroomc hidc hev hfine
      simp only [Act.eval, Array.getD_eq_getD_getElem?] at E26
      go_simp
    · have hop : o.op = .load 3 (.tmp 27) := by (have h := hop0; simp only [tabK, List.getElem?_cons_zero, List.getElem?_cons_succ, Option.some.injEq, Prod.mk.injEq] at h; exact h.2.symm)
      replace hdep := hdep (l := depK.getD 7 []) (by rfl)
      obtain ⟨v6, g6⟩ := hdep 6 (by simp [depK])
      have E27 : (actG ops V a0 ops.size).eval (.tmp 27) = v6 := eval_done hd (hget 6 (by omega)) (hdst 6 27 (by simp [tabK]) (by omega)) g6 (by omega) _ (by omega)
      obtain rfl : v6 = _ := hJ.pt 6 v6 _ g6 rfl
      have r0 := hidc _ hJ.bel
      refine gop ho hg ?_ ⟨_, rfl, hJ.put hVi (fun c hc => by cases hc; rfl) (fun h => by omega) (fun h => by omega) (fun h => by omega) (fun h => by omega) (fun h => by omega) (by decide) (fun h => by omega)⟩
      obtain ⟨dst, op, ty, pos, after, guard⟩ := o
      simp only at hop
      subst hop
      generalize actG ops V a0 ops.size = A at E27 ⊢
      clear hJ hget hdst hend hdep hlate hroomc hidc hev hfine
      simp only [Act.eval, Array.getD_eq_getD_getElem?] at E27
      go_simp
    · have hop : o.op = .call { callee := .value (.func 23), args := #[.tmp 22, .tmp 28], argTypes := #[33, 3] } := by (have h := hop0; simp only [tabK, List.getElem?_cons_zero, List.getElem?_cons_succ, Option.some.injEq, Prod.mk.injEq] at h; exact h.2.symm)
      replace hdep := hdep (l := depK.getD 8 []) (by rfl)
      obtain ⟨v1, g1⟩ := hdep 1 (by simp [depK])
      obtain ⟨v7, g7⟩ := hdep 7 (by simp [depK])
      have E22 : (actG ops V a0 ops.size).eval (.tmp 22) = v1 := eval_done hd (hget 1 (by omega)) (hdst 1 22 (by simp [tabK]) (by omega)) g1 (by omega) _ (by omega)
      have E28 : (actG ops V a0 ops.size).eval (.tmp 28) = v7 := eval_done hd (hget 7 (by omega)) (hdst 7 28 (by simp [tabK]) (by omega)) g7 (by omega) _ (by omega)
      obtain rfl : v1 = _ := hJ.pt 1 v1 _ g1 rfl
      obtain rfl : v7 = _ := hJ.pt 7 v7 _ g7 rfl
      have HC := hide (implKnown_any oa es.length ca es e.id hfine w7 (hev _ hJ.bel))
      rw [hkn] at HC
      refine gop_call ho hg (f := 23) (args := #[.slice oa es.length ca, .int .i64 e.id]) (w' := w7) ?_ (HC.out.mono ?_)
      · obtain ⟨dst, op, ty, pos, after, guard⟩ := o
        simp only at hop
        subst hop
        generalize actG ops V a0 ops.size = A at E22 E28 ⊢
        clear hJ hget hdst hend hdep hlate hroomc hidc hev hfine HC
        simp only [Act.eval, Array.getD_eq_getD_getElem?] at E22 E28
        go_simp
      · rintro r w8 ⟨vl, vp, rfl, how, hb8⟩
        obtain ⟨ol, cl, rfl⟩ := row_form how.l
        obtain ⟨oq, cq, rfl⟩ := row_form how.p
        refine ⟨_, rfl, _, rfl, (hJ.on hb8).put hVi (fun c hc => by cases hc) (fun _ => ⟨ol, cl, oq, cq, rfl, own_base how.l hJ.bel.size, own_base how.p hJ.bel.size⟩) (fun h => by omega) (fun h => by omega) (fun h => by omega) (fun h => by omega) (by decide) (fun h => by omega)⟩
    · have hop : o.op = .move (.tmp 29) := by (have h := hop0; simp only [tabK, List.getElem?_cons_zero, List.getElem?_cons_succ, Option.some.injEq, Prod.mk.injEq] at h; exact h.2.symm)
      replace hdep := hdep (l := depK.getD 9 []) (by rfl)
      obtain ⟨v8, g8⟩ := hdep 8 (by simp [depK])
      have E29 : (actG ops V a0 ops.size).eval (.tmp 29) = v8 := eval_done hd (hget 8 (by omega)) (hdst 8 29 (by simp [tabK]) (by omega)) g8 (by omega) _ (by omega)
      refine gop ho hg ?_ ⟨_, rfl, hJ.put hVi (fun c hc => by cases hc) (fun h => by omega) (fun _ => g8) (fun h => by omega) (fun h => by omega) (fun h => by omega) (by decide) (fun h => by omega)⟩
      obtain ⟨dst, op, ty, pos, after, guard⟩ := o
      simp only at hop
      subst hop
      generalize actG ops V a0 ops.size = A at E29 ⊢
      clear hJ hget hdst hend hdep hlate hroomc hidc hev hfine
      simp only [Act.eval, Array.getD_eq_getD_getElem?] at E29
      go_simp
    · have hop : o.op = .extract (.tmp 20) 0 := by (have h := hop0; simp only [tabK, List.getElem?_cons_zero, List.getElem?_cons_succ, Option.some.injEq, Prod.mk.injEq] at h; exact h.2.symm)
      replace hdep := hdep (l := depK.getD 10 []) (by rfl)
      obtain ⟨v9, g9⟩ := hdep 9 (by simp [depK])
      have E20 : (actG ops V a0 ops.size).eval (.tmp 20) = v9 := eval_done hd (hget 9 (by omega)) (hdst 9 20 (by simp [tabK]) (by omega)) g9 (by omega) _ (by omega)
      obtain ⟨ol, cl, oq, cq, hv, q2, q3⟩ := hJ.k8 v9 (hJ.m9 v9 g9)
      refine gop ho hg (v := evv e (.slice ol e.levels.length cl) (.slice oq e.prev.length cq)) ?_ ⟨_, rfl, hJ.put hVi (fun c hc => by cases hc) (fun h => by omega) (fun h => by omega) (fun _ => ⟨_, by rw [hJ.m9 v9 g9, hv]⟩) (fun h => by omega) (fun h => by omega) (by decide) (fun h => by omega)⟩
      subst hv
      clear q2 q3
      obtain ⟨dst, op, ty, pos, after, guard⟩ := o
      simp only at hop
      subst hop
      generalize actG ops V a0 ops.size = A at E20 ⊢
      clear hJ hget hdst hend hdep hlate hroomc hidc hev hfine
      simp only [Act.eval, Array.getD_eq_getD_getElem?] at E20
      go_simp
    · have hop : o.op = .extract (.tmp 20) 1 := by (have h := hop0; simp only [tabK, List.getElem?_cons_zero, List.getElem?_cons_succ, Option.some.injEq, Prod.mk.injEq] at h; exact h.2.symm)
      replace hdep := hdep (l := depK.getD 11 []) (by rfl)
      obtain ⟨v9, g9⟩ := hdep 9 (by simp [depK])
      have E20 : (actG ops V a0 ops.size).eval (.tmp 20) = v9 := eval_done hd (hget 9 (by omega)) (hdst 9 20 (by simp [tabK]) (by omega)) g9 (by omega) _ (by omega)
      obtain ⟨ol, cl, oq, cq, hv, q2, q3⟩ := hJ.k8 v9 (hJ.m9 v9 g9)
      refine gop ho hg (v := .bool true) ?_ ⟨_, rfl, hJ.put hVi (fun c hc => by cases hc) (fun h => by omega) (fun h => by omega) (fun h => by omega) (fun _ => ⟨_, by rw [hJ.m9 v9 g9, hv]⟩) (fun h => by omega) (by decide) (fun h => by omega)⟩
      subst hv
      clear q2 q3
      obtain ⟨dst, op, ty, pos, after, guard⟩ := o
      simp only at hop
      subst hop
      generalize actG ops V a0 ops.size = A at E20 ⊢
      clear hJ hget hdst hend hdep hlate hroomc hidc hev hfine
      simp only [Act.eval, Array.getD_eq_getD_getElem?] at E20
      go_simp
    · have hop : o.op = .alloc 40 := by (have h := hop0; simp only [tabK, List.getElem?_cons_zero, List.getElem?_cons_succ, Option.some.injEq, Prod.mk.injEq] at h; exact h.2.symm)
      replace hdep := hdep (l := depK.getD 12 []) (by rfl)
      have hb : Below w7.heap.size w7 (w7.alloc (.cells (evcells 0 0 0 0 0 0 (.slice none 0 0) (.slice none 0 0) []) 40)) := (Below.refl _ _).alloc (Nat.le_refl _) _
      have hz13 : V 13 = none := hlate 13 (by simp [depK])
      refine gop ho hg ?_ ⟨.pointer (some ⟨w7.heap.size, 0, none⟩), rfl, (hJ.on hb).put hVi (fun c hc => by cases hc) (fun h => by omega) (fun h => by omega) (fun h => by omega) (fun h => by omega) (fun _ => ⟨_, rfl, hJ.bel.size, EB.new _ _ _ _ _ _ _ _ _ _, hz13⟩) (by decide) (fun h => by omega)⟩
      clear hb hz13
      obtain ⟨dst, op, ty, pos, after, guard⟩ := o
      simp only at hop
      subst hop
      generalize actG ops V a0 ops.size = A
      clear hJ hget hdst hend hdep hlate hroomc hidc hev hfine
      go_simp
    · have hop : o.op = .store 40 (.tmp 5) (.tmp 30) := by (have h := hop0; simp only [tabK, List.getElem?_cons_zero, List.getElem?_cons_succ, Option.some.injEq, Prod.mk.injEq] at h; exact h.2.symm)
      replace hdep := hdep (l := depK.getD 13 []) (by rfl)
      obtain ⟨v8, g8⟩ := hdep 8 (by simp [depK])
      obtain ⟨v10, g10⟩ := hdep 10 (by simp [depK])
      obtain ⟨v12, g12⟩ := hdep 12 (by simp [depK])
      have E5 : (actG ops V a0 ops.size).eval (.tmp 5) = v12 := eval_done hd (hget 12 (by omega)) (hdst 12 5 (by simp [tabK]) (by omega)) g12 (by omega) _ (by omega)
      have E30 : (actG ops V a0 ops.size).eval (.tmp 30) = v10 := eval_done hd (hget 10 (by omega)) (hdst 10 30 (by simp [tabK]) (by omega)) g10 (by omega) _ (by omega)
      obtain ⟨b, rfl, hBb, hb0, -⟩ := hJ.b12 v12 g12
      have hb := hb0 hVi
      obtain ⟨t, ht⟩ := hJ.x10 v10 g10
      obtain ⟨ol, cl, oq, cq, hv, q2, q3⟩ := hJ.k8 _ ht
      obtain ⟨rfl, rfl⟩ : v10 = evv e (.slice ol e.levels.length cl) (.slice oq e.prev.length cq) ∧ t = .bool true := by injection hv with h; simpa using h
      obtain ⟨w8, hw8, hE8, hg8⟩ := hb.all e.id e.kind e.sender e.user e.member e.depth (.slice ol e.levels.length cl) (.slice oq e.prev.length cq) e.text
      refine gop_skip ho hg (w' := w8) ?_ ⟨_, rfl, hJ.s13 hVi ht rfl g12 hb hBb hg8 hE8⟩
      obtain ⟨k0, k1, k2, k3, k4, k5, k6, k7, k8⟩ := hb.ev
      have y0 := hb.free 0
      have y1 := hb.free 1
      have y2 := hb.free 2
      have y3 := hb.free 3
      have y4 := hb.free 4
      have y5 := hb.free 5
      have y6 := hb.free 6
      have y7 := hb.free 7
      have y8 := hb.free 8
      clear hv ht q2 q3 hE8 hg8 hb0 hb
      obtain ⟨dst, op, ty, pos, after, guard⟩ := o
      simp only at hop
      subst hop
      generalize actG ops V a0 ops.size = A at E5 E30 ⊢
      clear hJ hget hdst hend hdep hlate hroomc hidc hev hfine
      simp only [Act.eval, Array.getD_eq_getD_getElem?] at E5 E30
      go_simp
      try exact hw8
    · have hop : o.op = .assign (.tmp 31) := by (have h := hop0; simp only [tabK, List.getElem?_cons_zero, List.getElem?_cons_succ, Option.some.injEq, Prod.mk.injEq] at h; exact h.2.symm)
      replace hdep := hdep (l := depK.getD 14 []) (by rfl)
      obtain ⟨v8, g8⟩ := hdep 8 (by simp [depK])
      obtain ⟨v11, g11⟩ := hdep 11 (by simp [depK])
      obtain ⟨v13, g13⟩ := hdep 13 (by simp [depK])
      have E31 : (actG ops V a0 ops.size).eval (.tmp 31) = v11 := eval_done hd (hget 11 (by omega)) (hdst 11 31 (by simp [tabK]) (by omega)) g11 (by omega) _ (by omega)
      refine gop ho hg ?_ ⟨v11, rfl, hJ.put hVi (fun c hc => by cases hc) (fun h => by omega) (fun h => by omega) (fun h => by omega) (fun h => by omega) (fun h => by omega) (by decide) (fun _ => g11)⟩
      obtain ⟨dst, op, ty, pos, after, guard⟩ := o
      simp only at hop
      subst hop
      generalize actG ops V a0 ops.size = A at E31 ⊢
      clear hJ hget hdst hend hdep hlate hroomc hidc hev hfine
      simp only [Act.eval, Array.getD_eq_getD_getElem?] at E31
      go_simp
  · intro V w7 hall hJ
    have hall' : ∀ k, k < 15 → ∃ v, V k = some v := fun k hk => Option.isSome_iff_exists.1 (hall k (by omega))
    obtain ⟨v12, g12⟩ := hall' 12 (by omega)
    obtain ⟨v13, g13⟩ := hall' 13 (by omega)
    obtain ⟨v14, g14⟩ := hall' 14 (by omega)
    obtain ⟨b, rfl, hBb, -, hq⟩ := hJ.b12 v12 g12
    obtain ⟨ol, cl, oq, cq, t, r1, r2⟩ := hq (by rw [g13]; simp)
    obtain ⟨ol', cl', oq', cq', hv, q2, q3⟩ := hJ.k8 _ r1
    obtain ⟨t', ht'⟩ := hJ.x11 v14 (hJ.x14 v14 g14)
    rw [r1] at ht'
    injection hv with hv
    injection ht' with ht'
    injection ht' with ht'
    have h1 : (ol = ol' ∧ cl = cl' ∧ oq = oq' ∧ cq = cq') ∧ t = .bool true := by simpa [and_assoc] using hv
    obtain ⟨⟨rfl, rfl, rfl, rfl⟩, rfl⟩ := h1
    have h2 : v14 = .bool true := by
      have h3 := ht'
      simp at h3
      exact h3.2.symm
    subst h2
    exact hend V w7 b ol cl oq cq hall' g14 g12 r2 q2 q3 hJ.bel

theorem EvsR.at_ {w : World} {B : Nat} {v : Value} {es : List EvV} (h : EvsR w B v es) : ∃ oa cap, v = .slice oa es.length cap ∧ EvsAt w oa es.length cap es := by
  obtain ⟨xs, h1, h2, h3⟩ := h
  refine evsAt_of (own_src h1 h2) (fun i e he => ?_)
  obtain ⟨vl, vp, q1, q2, q3, q4, q5, q6⟩ := h3 i e he
  obtain ⟨xa, xc, rfl, hl⟩ := ints_own q2 q4
  obtain ⟨ya, yc, rfl, hq⟩ := ints_own q3 q5
  exact ⟨xa, xc, ya, yc, q1, hl, hq, q6⟩

set_option maxRecDepth 100000 in
set_option maxHeartbeats 16000000 in
theorem FnKnown_walk (a0 : Option Addr) (len0 cap0 : Nat) (z0 : List Int) (w : World) (w0 : IsRow .u8 w a0 len0 cap0 z0) :
    Calls Try.prog 6 #[.slice a0 len0 cap0] w fun e w' => e = .returned (.bool true) ∧ Below w.heap.size w w' := by
  have HC := hide (codeAt_of_row w0)
  clear w0
  by_cases hbig : 1048576 < len0
  · go_enter Try.func6, Try.ntmps6
    go_wp2_with (go_at_call 7; refine (big_yes a0 len0 cap0 hbig _).mono ?_; rintro e w1 ⟨rfl, rfl⟩)
    go_ret
    exact ⟨rfl, Below.refl _ _⟩
  · have hlen : len0 ≤ 1048576 := by omega
    go_enter Try.func6, Try.ntmps6
    go_upto_region 4 with (first
      | (go_at_call 7; refine (big_no a0 len0 cap0 hlen _).mono ?_; rintro e w1 ⟨rfl, rfl⟩)
      | (go_at_call 22; refine (drawRoom_any w.heap.size a0 len0 cap0 _ hlen (Nat.le_refl _) HC.out).mono ?_; rintro e w1 ⟨ve, vs, vg, es, sts, rfl, hrr, hD, hb1⟩; obtain ⟨oe, ce, os, cs, og, cg, rfl, rfl, rfl⟩ := hrr.form))
    obtain ⟨oe', ce', heo, hat0⟩ := hrr.e.at_
    cases heo
    have HAT := hide hat0
    have HD := hide hD
    have hn40 := hD.inv.len
    have hn1 : 0 < es.length := by
      have := hD.some_
      cases es with
      | nil => exact absurd rfl this
      | cons x r => simp
    have HFI := hide hD.inv.fine
    obtain ⟨W2, hW2⟩ : ∃ W2, w1.alloc (.cells #[.slice oe es.length ce, .slice os sts.length cs, .slice og es.length cg] 37) = W2 := ⟨_, rfl⟩
    have hb2 : Below w1.heap.size w1 W2 := by rw [← hW2]; exact (Below.refl _ _).alloc (Nat.le_refl _) _
    have hR2 : W2.heap[w1.heap.size]? = some (.cells #[.slice oe es.length ce, .slice os sts.length cs, .slice og es.length cg] 37 (0, 0)) := by rw [← hW2]; exact heap_alloc_new _ _
    have HW2 := hide hW2
    have HB2 := hide hb2
    have HR2 := hide hR2
    have HB1 := hide hb1
    clear hrr hD hat0 hb1 hb2 hR2 hW2 HC
    try rw [HW2.out]
    clear HW2
    go_wp2_with fail
    go_loopw [4] (fun i wr => ∃ (j : Nat), i = .int .i64 (j : Int) ∧ j ≤ es.length ∧ Below W2.heap.size W2 wr) (fun i _ => es.length - (intOf i).toNat)
    case atStart => exact ⟨0, rfl, Nat.zero_le _, Below.refl _ _⟩
    case round =>
      obtain ⟨j, rfl, hj, hbel⟩ := hrel
      have hsz := hbel.size
      have hs2 := HB2.out.size
      have hlR := blk_lt HR2.out
      have hRr := (hbel.block w1.heap.size hlR).trans HR2.out
      have r0 := blk_cell hRr 0 rfl
      have HB1R := hide (show Below w1.heap.size w1 wr from HB2.out.trans (hbel.mono hs2))
      have HAR := hide (HAT.out.below HB1R.out)
      have HBEL := hide hbel
      have hlr1 : w1.heap.size < wr.heap.size := by omega
      clear hbel hRr
      by_cases hlt : j < es.length
      · have j0 : (j : Int) < (es.length : Int) := by omega
        obtain ⟨e, bi, qi, xa, xc, ya, yc, he, hidx, hev⟩ := HAR.out.get Try.underlying33 infoIV j hlt
        have hkn := known_at HD.out he
        obtain ⟨f1, f2, f3⟩ := HFI.out.one (List.mem_of_getElem? he)
        have HEV := hide hev
        have hil0 := hev.lt
        clear hev he
        go_upto_region 7 with fail
        refine known_region (R := w1.heap.size) (j := j) (b := bi) (q := qi) (oa := oe) (ca := ce) (es := es) (e := e) (by kernel_rfl) (by kernel_rfl) (by kernel_rfl) (by kernel_rfl) (by kernel_rfl) (by kernel_rfl) (by kernel_rfl) (by kernel_rfl) (by simp) rfl rfl HFI.out hkn hidx ?_ ?_ ?_ ?_
        · intro wz hz; exact (hz.cell hlr1).trans r0
        · intro wz hz; exact (hz.cell hil0).trans (HEV.out.cell 0 _ rfl)
        · intro wz hz; exact HAR.out.below hz
        · intro V w3 be ol cl oq cq hall g14 g12 hE3 hol hoq hb3
          have r03 := (hb3.cell hlr1).trans r0
          have hs3 := hb3.size
          have hl3 : w1.heap.size < w3.heap.size := by omega
          obtain ⟨t0, t1, t2, t3, t4, t5, t6, t7, t8⟩ := hE3.ev
          have hbl := hE3.lt
          have hev3 := HEV.out.below hb3
          obtain ⟨s0, s1, s2, s3, s4, s5, s6, s7, s8⟩ := hev3.cs
          have hil := hev3.lt
          obtain ⟨_, _, heo, hi1⟩ := ints_own hol hev3.lev.fits
          cases heo
          obtain ⟨_, _, heo, hi2⟩ := ints_own hoq hev3.prv.fits
          cases heo
          have HSE := hide (fun w2 (h : Below w3.heap.size w3 w2) => sameEvent_yes e.id e.kind e.sender e.user e.member e.depth ol e.levels.length cl e.text oq e.prev.length cq e.levels e.prev xa ya xc yc f1 f3 w2 (hi1.below h) (hev3.lev.below h) (hi2.below h) (hev3.prv.below h))
          have HB3 := hide hb3
          obtain ⟨v0, g0'⟩ := hall 0 (by omega)
          obtain ⟨v1, g1'⟩ := hall 1 (by omega)
          obtain ⟨v2, g2'⟩ := hall 2 (by omega)
          obtain ⟨v3, g3'⟩ := hall 3 (by omega)
          obtain ⟨v4, g4'⟩ := hall 4 (by omega)
          obtain ⟨v5, g5'⟩ := hall 5 (by omega)
          obtain ⟨v6, g6'⟩ := hall 6 (by omega)
          obtain ⟨v7, g7'⟩ := hall 7 (by omega)
          obtain ⟨v8, g8'⟩ := hall 8 (by omega)
          obtain ⟨v9, g9'⟩ := hall 9 (by omega)
          obtain ⟨v10, g10'⟩ := hall 10 (by omega)
          obtain ⟨v11, g11'⟩ := hall 11 (by omega)
          obtain ⟨v13, g13'⟩ := hall 13 (by omega)
          simp only [actG, List.size_toArray, List.length_cons, List.length_nil, List.getElem?_toArray, List.getElem?_cons_zero, List.getElem?_cons_succ, g0', g1', g2', g3', g4', g5', g6', g7', g8', g9', g10', g11', g12, g13', g14, Act.put, List.setIfInBounds_toArray, List.set_cons_zero, List.set_cons_succ]
          clear g0' g1' g2' g3' g4' g5' g6' g7' g8' g9' g10' g11' g13'
          clear hall hE3 hol hoq hev3 hi1 hi2 hb3
          go_wp2_with fail
          refine wp_region_in (F := fun w' => Below w3.heap.size w3 w') (by kernel_rfl) (by kernel_rfl) (Below.refl _ _).drew ?_
          have hne : Nonempty (InW (fun w' => Below w3.heap.size w3 w')) := ⟨⟨_, Below.refl _ _⟩⟩
          have k0 : ∀ m : InW (fun w' => Below w3.heap.size w3 w'), m.w.cell? ⟨w1.heap.size, 0, none⟩ = some (.slice oe es.length ce) := fun m => (m.h.cell hl3).trans r03
          have z0 : ∀ m : InW (fun w' => Below w3.heap.size w3 w'), m.w.cell? ⟨be, 0, none⟩ = some (.int .i64 e.id) := fun m => (m.h.cell hbl).trans t0
          have z1 : ∀ m : InW (fun w' => Below w3.heap.size w3 w'), m.w.cell? ⟨be, 1, none⟩ = some (.int .i64 e.kind) := fun m => (m.h.cell hbl).trans t1
          have z2 : ∀ m : InW (fun w' => Below w3.heap.size w3 w'), m.w.cell? ⟨be, 2, none⟩ = some (.int .i64 e.sender) := fun m => (m.h.cell hbl).trans t2
          have z3 : ∀ m : InW (fun w' => Below w3.heap.size w3 w'), m.w.cell? ⟨be, 3, none⟩ = some (.int .i64 e.user) := fun m => (m.h.cell hbl).trans t3
          have z4 : ∀ m : InW (fun w' => Below w3.heap.size w3 w'), m.w.cell? ⟨be, 4, none⟩ = some (.int .i64 e.member) := fun m => (m.h.cell hbl).trans t4
          have z5 : ∀ m : InW (fun w' => Below w3.heap.size w3 w'), m.w.cell? ⟨be, 5, none⟩ = some (.slice ol e.levels.length cl) := fun m => (m.h.cell hbl).trans t5
          have z6 : ∀ m : InW (fun w' => Below w3.heap.size w3 w'), m.w.cell? ⟨be, 6, none⟩ = some (.string ⟨e.text.toArray⟩) := fun m => (m.h.cell hbl).trans t6
          have z7 : ∀ m : InW (fun w' => Below w3.heap.size w3 w'), m.w.cell? ⟨be, 7, none⟩ = some (.slice oq e.prev.length cq) := fun m => (m.h.cell hbl).trans t7
          have z8 : ∀ m : InW (fun w' => Below w3.heap.size w3 w'), m.w.cell? ⟨be, 8, none⟩ = some (.int .i64 e.depth) := fun m => (m.h.cell hbl).trans t8
          have d0 : ∀ m : InW (fun w' => Below w3.heap.size w3 w'), m.w.cell? ⟨bi, qi, none⟩ = some (.int .i64 e.id) := fun m => (m.h.cell hil).trans s0
          have d1 : ∀ m : InW (fun w' => Below w3.heap.size w3 w'), m.w.cell? ⟨bi, qi + 1, none⟩ = some (.int .i64 e.kind) := fun m => (m.h.cell hil).trans s1
          have d2 : ∀ m : InW (fun w' => Below w3.heap.size w3 w'), m.w.cell? ⟨bi, qi + 2, none⟩ = some (.int .i64 e.sender) := fun m => (m.h.cell hil).trans s2
          have d3 : ∀ m : InW (fun w' => Below w3.heap.size w3 w'), m.w.cell? ⟨bi, qi + 3, none⟩ = some (.int .i64 e.user) := fun m => (m.h.cell hil).trans s3
          have d4 : ∀ m : InW (fun w' => Below w3.heap.size w3 w'), m.w.cell? ⟨bi, qi + 4, none⟩ = some (.int .i64 e.member) := fun m => (m.h.cell hil).trans s4
          have d5 : ∀ m : InW (fun w' => Below w3.heap.size w3 w'), m.w.cell? ⟨bi, qi + 5, none⟩ = some (.slice xa e.levels.length xc) := fun m => (m.h.cell hil).trans s5
          have d6 : ∀ m : InW (fun w' => Below w3.heap.size w3 w'), m.w.cell? ⟨bi, qi + 6, none⟩ = some (.string ⟨e.text.toArray⟩) := fun m => (m.h.cell hil).trans s6
          have d7 : ∀ m : InW (fun w' => Below w3.heap.size w3 w'), m.w.cell? ⟨bi, qi + 7, none⟩ = some (.slice ya e.prev.length yc) := fun m => (m.h.cell hil).trans s7
          have d8 : ∀ m : InW (fun w' => Below w3.heap.size w3 w'), m.w.cell? ⟨bi, qi + 8, none⟩ = some (.int .i64 e.depth) := fun m => (m.h.cell hil).trans s8
          repeat (go_big_quiet_step (first
            | (go_at_call 24; (with_reducible refine (HSE.out _ (InW.h (F := fun w' => Below w3.heap.size w3 w') _)).mono ?_); rintro e' w4 ⟨rfl, hb4⟩; exact ⟨rfl, ⟨w4, Below.trans (InW.h _) (hb4.mono (Below.size (InW.h (F := fun w' => Below w3.heap.size w3 w') ‹_›)))⟩, rfl⟩)))
          refine wpQuiet_nil ?_
          intro _ hw'
          obtain ⟨nq, hw''⟩ := hw'
          subst hw''
          have hnq := nq.h
          generalize nq.w = w5 at hnq ⊢
          clear hne k0 z0 z1 z2 z3 z4 z5 z6 z7 z8 d0 d1 d2 d3 d4 d5 d6 d7 d8 t0 t1 t2 t3 t4 t5 t6 t7 t8 s0 s1 s2 s3 s4 s5 s6 s7 s8
          have HB5 := hide (HBEL.out.trans ((HB3.out.trans (hnq.mono hs3)).mono hsz))
          clear hnq
          go_wp2_with fail
          go_roundw
          case rel => exact ⟨j + 1, by go_num, by omega, HB5.out⟩
          case measure => simp [intOf]; omega
      · have j0 : ¬ ((j : Int) < (es.length : Int)) := by omega
        have hgt : (0 : Int) < (es.length : Int) := by omega
        have HKN := hide (implKnown_any oe es.length ce es 999 HFI.out wr HAR.out)
        rw [known_no HD.out] at HKN
        go_wp2_with (go_at_call 23; (with_reducible refine HKN.out.mono ?_); rintro r w3 ⟨vl, vp, rfl, how, hb3⟩; obtain ⟨ol, cl, rfl⟩ := row_form how.l; obtain ⟨oq, cq, rfl⟩ := row_form how.p; have r03 := (hb3.cell hlr1).trans r0; have hl3 := Nat.lt_of_lt_of_le hlr1 hb3.size)
        go_ret
        have hbz := (below_var (HB1R.out.trans (hb3.mono HB1R.out.size)) (.cells (evcells 0 0 0 0 0 0 (.slice ol 0 cl) (.slice oq 0 cq) []) 40)).mono HB1.out.size
        exact ⟨rfl, HB1.out.trans hbz⟩

end Go.Proofs.Ytmifhdoaknbkbaa
