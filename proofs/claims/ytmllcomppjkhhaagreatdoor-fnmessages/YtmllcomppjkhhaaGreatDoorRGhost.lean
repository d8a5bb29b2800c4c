/-
  Walks and mathematics of Ghost, Gh15.
-/
import Derived.Orders
import Derived.Deep.RegionHeld
import Derived.Test.YtmllcomppjkhhaaGreatDoorRIntsMark
namespace Go.Proofs.YtmllcomppjkhhaaGreatDoor.K
open Go

abbrev Gh := Nat → Option Value

def Gh.set (V : Gh) (i : Nat) (v : Value) : Gh := fun k => if k = i then some v else V k

theorem Gh.set_self (V : Gh) (i : Nat) (v : Value) : V.set i v i = some v := if_pos rfl

theorem Gh.set_ne (V : Gh) {i k : Nat} (v : Value) (h : k ≠ i) : V.set i v k = V k := if_neg h

def actG (ops : Array Oper) (V : Gh) (a : Act) : Nat → Act
  | 0 => a
  | n + 1 => match ops[n]?, V n with
    | some o, some v => (actG ops V a n).put o.dst v
    | _, _ => actG ops V a n

def dstsOk (ops : Array Oper) : Bool := (List.range ops.size).all fun i => (List.range ops.size).all fun j => i == j || match ops[i]?, ops[j]? with
  | some x, some y => x.dst.isNone || x.dst != y.dst
  | _, _ => true

def lowOk (ops : Array Oper) : Bool := (List.range ops.size).all fun i => match ops[i]? with
  | some x => x.after.all fun e => e.on < i
  | none => true

theorem dsts_ne {ops : Array Oper} (h : dstsOk ops = true) {i j : Nat} {x y : Oper} (hi : ops[i]? = some x) (hj : ops[j]? = some y) (hne : i ≠ j) : ∀ d, x.dst = some d → y.dst ≠ some d := by
  intro d hd hd'
  have h1 := (List.all_eq_true.1 h) i (List.mem_range.2 (Array.getElem?_eq_some_iff.1 hi).1)
  have h2 := (List.all_eq_true.1 h1) j (List.mem_range.2 (Array.getElem?_eq_some_iff.1 hj).1)
  simp [hi, hj, hd, hd', hne] at h2

theorem low_of {ops : Array Oper} (h : lowOk ops = true) {i : Nat} {x : Oper} (hi : ops[i]? = some x) : ∀ e ∈ x.after, e.on < i := by
  intro e he
  have h1 := (List.all_eq_true.1 h) i (List.mem_range.2 (Array.getElem?_eq_some_iff.1 hi).1)
  simp only [hi] at h1
  have h2 := (Array.all_eq_true_iff_forall_mem.1 h1) e he
  simpa using h2

theorem actG_set {ops : Array Oper} {V : Gh} {a : Act} (hd : dstsOk ops = true) {i : Nat} {o : Oper} (hi : ops[i]? = some o) (hV : V i = none) (v : Value) : ∀ n, actG ops (V.set i v) a n = if i < n then (actG ops V a n).put o.dst v else actG ops V a n
  | 0 => by simp [actG]
  | n + 1 => by
    have ih := actG_set (a := a) hd hi hV v n
    by_cases h1 : i = n
    · subst h1
      rw [if_pos (Nat.lt_succ_self i)]
      simp only [actG, hi, Gh.set_self, hV]
      rw [ih, if_neg (Nat.lt_irrefl i)]
    · by_cases h2 : i < n
      · rw [if_pos (Nat.lt_succ_of_lt h2)]
        rw [if_pos h2] at ih
        simp only [actG]
        rw [Gh.set_ne V v (Ne.symm h1)]
        cases hn : ops[n]? with
        | none => exact ih
        | some on =>
          cases hvn : V n with
          | none => exact ih
          | some vn =>
            simp only
            rw [ih]
            exact Act.put_comm _ _ _ (dsts_ne hd hi hn h1)
      · rw [if_neg (by omega)]
        rw [if_neg h2] at ih
        simp only [actG]
        rw [Gh.set_ne V v (Ne.symm h1), ih]

theorem actG_size {ops : Array Oper} {V : Gh} {a : Act} : ∀ n, (actG ops V a n).tmps.size = a.tmps.size
  | 0 => rfl
  | n + 1 => by
    simp only [actG]
    cases hn : ops[n]? with
    | none => exact actG_size n
    | some on =>
      cases hvn : V n with
      | none => exact actG_size n
      | some vn =>
        simp only
        unfold Act.put
        cases on.dst with
        | none => exact actG_size n
        | some d => simpa using actG_size n

theorem eval_other {ops : Array Oper} {V : Gh} {a : Act} {t : Nat} : ∀ n, (∀ (k : Nat) o, ops[k]? = some o → o.dst ≠ some t) → (actG ops V a n).eval (.tmp t) = a.eval (.tmp t)
  | 0, _ => rfl
  | n + 1, h => by
    have ih := eval_other (V := V) (a := a) n h
    simp only [actG]
    cases hn : ops[n]? with
    | none => exact ih
    | some on =>
      cases hvn : V n with
      | none => exact ih
      | some vn =>
        simp only
        rw [Act.eval_put (fun d hd e => by cases e; exact h n on hn hd)]
        exact ih

theorem eval_done {ops : Array Oper} {V : Gh} {a : Act} (hd : dstsOk ops = true) {k t : Nat} {o : Oper} {v : Value} (hk : ops[k]? = some o) (ht : o.dst = some t) (hV : V k = some v) (hs : t < a.tmps.size) : ∀ n, k < n → (actG ops V a n).eval (.tmp t) = v
  | 0, h => absurd h (Nat.not_lt_zero _)
  | n + 1, h => by
    simp only [actG]
    by_cases h1 : k = n
    · subst h1
      simp only [hk, hV]
      unfold Act.put
      rw [ht]
      simp [Act.eval, actG_size, hs]
    · have ih := eval_done (a := a) hd hk ht hV hs n (by omega)
      cases hn : ops[n]? with
      | none => exact ih
      | some on =>
        cases hvn : V n with
        | none => exact ih
        | some vn =>
          simp only
          rw [Act.eval_put (fun d hd' e => by cases e; exact dsts_ne hd hk hn h1 _ ht hd')]
          exact ih

theorem countP_lt_of {p q : Nat → Bool} {i : Nat} : ∀ {l : List Nat}, i ∈ l → (∀ k, q k = true → p k = true) → p i = true → q i = false → l.countP q < l.countP p
  | x :: r, hm, hpq, hp, hq => by
    have hle : r.countP q ≤ r.countP p := List.countP_mono_left (fun k _ => hpq k)
    rcases List.mem_cons.1 hm with rfl | hm
    · rw [List.countP_cons_of_pos hp, List.countP_cons_of_neg (by rw [hq]; decide)]
      omega
    · have ih := countP_lt_of hm hpq hp hq
      by_cases hx : q x = true
      · rw [List.countP_cons_of_pos hx, List.countP_cons_of_pos (hpq x hx)]
        omega
      · rw [List.countP_cons_of_neg hx]
        exact Nat.lt_of_lt_of_le ih (by rw [List.countP_cons]; omega)

def Closed (ops : Array Oper) (V : Gh) : Prop := ∀ (k : Nat) (o : Oper), ops[k]? = some o → (V k).isSome = true → ∀ e ∈ o.after, Region.binds .any e = true → (V e.on).isSome = true

section
variable {P : Program} {ops : Array Oper} {Q : Exit → Act → World → Prop} {a0 : Act} {J : Gh → World → Prop}

theorem wpAny_ghost (hd : dstsOk ops = true) (hl : lowOk ops = true)
    (hstep : ∀ (i : Nat) (o : Oper) (V : Gh) (w : World), ops[i]? = some o → V i = none → (∀ e ∈ o.after, Region.binds .any e = true → (V e.on).isSome = true) → Closed ops V → J V w →
      wpOp P ops Q i (fun a' w' => ∃ v, a' = (actG ops V a0 ops.size).put o.dst v ∧ J (V.set i v) w') (actG ops V a0 ops.size) w)
    (hend : ∀ (V : Gh) (w : World), (∀ k, k < ops.size → (V k).isSome = true) → J V w → Q .normal (actG ops V a0 ops.size) w) :
    ∀ (fuel : Nat) (listed : Array Bool) (V : Gh) (w : World), listed.size = ops.size → (∀ k, k < ops.size → listed[k]? = some (V k).isSome) → (List.range ops.size).countP (fun k => (V k).isNone) ≤ fuel → Closed ops V → J V w → wpAny P .any ops Q fuel listed (actG ops V a0 ops.size) w := by
  intro fuel
  induction fuel with
  | zero =>
    intro listed V w hs hk hc hcl hJ
    have hall : ∀ k, k < ops.size → (V k).isSome = true := by
      intro k hk'
      have h0 : (List.range ops.size).countP (fun k => (V k).isNone) = 0 := by omega
      have := List.countP_eq_zero.1 h0 k (List.mem_range.2 hk')
      cases hv : V k with
      | none => simp [hv] at this
      | some _ => rfl
    refine ⟨?_, hend V w hall hJ⟩
    apply List.eq_nil_iff_forall_not_mem.2
    intro j hj
    obtain ⟨h1, o, h2, -⟩ := mem_ready.1 hj
    have hj' := (Array.getElem?_eq_some_iff.1 h2).1
    have h3 := hk j hj'
    rw [hall j hj'] at h3
    rw [Array.getD_eq_getD_getElem?, h3] at h1
    cases h1
  | succ fuel ih =>
    intro listed V w hs hk hc hcl hJ
    refine ⟨fun hr => hend V w ?_ hJ, fun i hi => ?_⟩
    · intro k hk'
      induction k using Nat.strongRecOn with
      | _ k ihk =>
        cases hv : V k with
        | some _ => rfl
        | none =>
          exfalso
          obtain ⟨o, ho⟩ : ∃ o, ops[k]? = some o := ⟨_, Array.getElem?_eq_getElem hk'⟩
          have : k ∈ Region.ready .any ops listed := mem_ready.2 ⟨by rw [Array.getD_eq_getD_getElem?, hk k hk', hv]; rfl, o, ho, fun e he _ => by
            have hlt := low_of hl ho e he
            rw [Array.getD_eq_getD_getElem?, hk e.on (by omega), ihk e.on hlt (by omega)]
            rfl⟩
          rw [hr] at this
          cases this
    · obtain ⟨h1, o, h2, h3⟩ := mem_ready.1 hi
      have hi' := (Array.getElem?_eq_some_iff.1 h2).1
      have hVi : V i = none := by
        rw [Array.getD_eq_getD_getElem?, hk i hi'] at h1
        cases hv : V i with
        | none => rfl
        | some _ => rw [hv] at h1; cases h1
      have hdp : ∀ e ∈ o.after, Region.binds .any e = true → (V e.on).isSome = true := fun e he hb => by
        have h4 := h3 e he hb
        have hlt := low_of hl h2 e he
        rw [Array.getD_eq_getD_getElem?, hk e.on (by omega)] at h4
        exact h4
      refine wpOp_mono ?_ (hstep i o V w h2 hVi hdp hcl hJ)
      · rintro a' w' ⟨v, rfl, hJ'⟩
        have hmono : ∀ k, (V k).isSome = true → (V.set i v k).isSome = true := fun k hk' => by
          by_cases e : k = i
          · subst e; rw [Gh.set_self]; rfl
          · rw [Gh.set_ne V v e]; exact hk'
        have hset := actG_set (a := a0) hd h2 hVi v ops.size
        rw [if_pos hi'] at hset
        rw [← hset]
        refine ih _ _ w' (by simpa using hs) (fun k hk' => ?_) ?_ ?_ hJ'
        · by_cases e : k = i
          · subst e
            rw [Array.getElem?_setIfInBounds_self_of_lt (by omega), Gh.set_self]
            rfl
          · rw [Array.getElem?_setIfInBounds_ne (Ne.symm e), Gh.set_ne V v e]
            exact hk k hk'
        · have hlt : (List.range ops.size).countP (fun k => (V.set i v k).isNone) < (List.range ops.size).countP (fun k => (V k).isNone) := by
            refine countP_lt_of (i := i) (List.mem_range.2 hi') (fun k hk1 => ?_) ?_ ?_
            · by_cases e : k = i
              · subst e; rw [Gh.set_self] at hk1; cases hk1
              · rw [Gh.set_ne V v e] at hk1; exact hk1
            · rw [hVi]; rfl
            · rw [Gh.set_self]; rfl
          omega
        · intro k ok hk1 hk2 e he hb
          by_cases hki : k = i
          · subst hki
            rw [h2] at hk1
            cases hk1
            exact hmono _ (hdp e he hb)
          · rw [Gh.set_ne V v hki] at hk2
            exact hmono _ (hcl k ok hk1 hk2 e he hb)

theorem wp_region_ghost {id : Nat} {w : World} (hm : P.follows .mixedOrders = true) (hd : dstsOk ops = true) (hl : lowOk ops = true) (J : Gh → World → Prop) (h0 : J (fun _ => none) w.drew)
    (hstep : ∀ (i : Nat) (o : Oper) (V : Gh) (w : World), ops[i]? = some o → V i = none → (∀ e ∈ o.after, Region.binds .any e = true → (V e.on).isSome = true) → Closed ops V → J V w →
      wpOp P ops Q i (fun a' w' => ∃ v, a' = (actG ops V a0 ops.size).put o.dst v ∧ J (V.set i v) w') (actG ops V a0 ops.size) w)
    (hend : ∀ (V : Gh) (w : World), (∀ k, k < ops.size → (V k).isSome = true) → J V w → Q .normal (actG ops V a0 ops.size) w) : (Code.region id ops true).wp P Q a0 w := by
  refine wp_region_any hm ?_
  have h := wpAny_ghost (P := P) (Q := Q) (a0 := a0) hd hl hstep hend ops.size (Array.replicate ops.size false) (fun _ => none) w.drew (by simp) (fun k hk => by simp [hk]) (Nat.le_trans (List.countP_le_length) (by simp)) (fun k o _ h => by cases h) h0
  have hz : ∀ n, actG ops (fun _ => none) a0 n = a0 := by
    intro n
    induction n with
    | zero => rfl
    | succ n ih =>
      simp only [actG]
      cases ops[n]? <;> exact ih
  rw [hz] at h
  exact h

theorem gop {i : Nat} {o : Oper} {a : Act} {w w' : World} {v : Value} {K : Act → World → Prop} (ho : ops[i]? = some o) (hg : o.guard = none) (hr : (execOp a.eval o).run P w = .ok (.value v) w') (hK : K (a.put o.dst v) w') : wpOp P ops Q i K a w := by
  unfold wpOp
  simp only [ho]
  have hw : Region.wanted o (yielded ops a.tmps) = true := by simp [Region.wanted, hg]
  rw [if_pos hw]
  refine .inl ?_
  unfold Oper.wp
  rw [hr]
  exact hK

end

end Go.Proofs.YtmllcomppjkhhaaGreatDoor.K

namespace Go.Proofs.YtmllcomppjkhhaaGreatDoor
open Go.RowKit K
set_option linter.unusedVariables false
set_option linter.unusedSimpArgs false

def PT (ct : Nat → Option Value) (V : Gh) : Prop := ∀ k v c, V k = some v → ct k = some c → v = c

theorem PT.set {ct : Nat → Option Value} {V : Gh} (h : PT ct V) {i : Nat} {v : Value} (hc : ∀ c, ct i = some c → v = c) : PT ct (V.set i v) := by
  intro k u c hk hc'
  by_cases e : k = i
  · subst e
    rw [Gh.set_self] at hk
    cases hk
    exact hc c hc'
  · rw [Gh.set_ne V v e] at hk
    exact h k u c hk hc'

def opTab (ops : Array Oper) : List (Option Tmp × Op) := ops.toList.map fun o => (o.dst, o.op)

def opFree (ops : Array Oper) : Bool := ops.all fun o => o.guard.isNone

def depHas (ops : Array Oper) (T : List (List Nat)) : Bool := (List.range T.length).all fun i => ((T[i]?).getD []).all fun k => match ops[i]? with
  | some o => o.after.any fun e => Region.binds .any e && e.on == k
  | none => false

def noDst (ops : Array Oper) (t : Nat) : Bool := ops.all fun o => o.dst != some t

theorem noDst_of {ops : Array Oper} {t : Nat} (h : noDst ops t = true) : ∀ (k : Nat) o, ops[k]? = some o → o.dst ≠ some t := by
  intro k o ho hd
  have := Array.all_eq_true_iff_forall_mem.1 h o (Array.mem_of_getElem? ho)
  simp [hd] at this

theorem opTab_at {ops : Array Oper} {T : List (Option Tmp × Op)} (h : opTab ops = T) {i : Nat} {o : Oper} (ho : ops[i]? = some o) : T[i]? = some (o.dst, o.op) := by
  rw [← h]
  unfold opTab
  rw [List.getElem?_map, Array.getElem?_toList, ho]
  rfl

theorem opDep_at {ops : Array Oper} {T : List (List Nat)} (h : depHas ops T = true) {i : Nat} {o : Oper} (ho : ops[i]? = some o) {V : Gh} (hV : ∀ e ∈ o.after, Region.binds .any e = true → (V e.on).isSome = true) {l : List Nat} (hl : T[i]? = some l) : ∀ k ∈ l, ∃ v, V k = some v := by
  intro k hk
  have h1 := (List.all_eq_true.1 h) i (List.mem_range.2 (List.getElem?_eq_some_iff.1 hl).1)
  rw [hl] at h1
  have h2 := (List.all_eq_true.1 h1) k hk
  simp only [ho] at h2
  rw [← Array.any_toList] at h2
  obtain ⟨e, he, hb⟩ := List.any_eq_true.1 h2
  replace he : e ∈ o.after := by simpa using he
  simp only [Bool.and_eq_true, beq_iff_eq] at hb
  obtain ⟨hb1, rfl⟩ := hb
  exact Option.isSome_iff_exists.1 (hV e he hb1)

theorem opFree_at {ops : Array Oper} (h : opFree ops = true) {i : Nat} {o : Oper} (ho : ops[i]? = some o) : o.guard = none := by
  have := Array.all_eq_true_iff_forall_mem.1 h o (Array.mem_of_getElem? ho)
  simpa using this

theorem gop_call {P : Program} {ops : Array Oper} {Q : Exit → Act → World → Prop} {i : Nat} {o : Oper} {a : Act} {w w' : World} {f : FuncId} {args : Array Value} {K : Act → World → Prop} (ho : ops[i]? = some o) (hg : o.guard = none) (hr : (execOp a.eval o).run P w = .ok (.enter f args) w') (hc : Calls P f args w' fun e w'' => ∃ v, e = .returned v ∧ K (a.put o.dst v) w'') : wpOp P ops Q i K a w := by
  unfold wpOp
  simp only [ho]
  have hw : Region.wanted o (yielded ops a.tmps) = true := by simp [Region.wanted, hg]
  rw [if_pos hw]
  refine .inl ?_
  unfold Oper.wp
  rw [hr]
  simp only [Oper.upon]
  refine hc.mono ?_
  rintro e w'' ⟨v, rfl, hK⟩
  exact hK

end Go.Proofs.YtmllcomppjkhhaaGreatDoor
