/-
  Walks and mathematics of Gh15.
-/
import Derived.Test.YtmllcomppjkhhaaDoorQdGhost
import Derived.Test.YtmllcomppjkhhaaDoorQdIntsMark
namespace Go.Proofs.YtmllcomppjkhhaaDoor
open Go.RowKit K
set_option linter.unusedVariables false
set_option linter.unusedSimpArgs false

def PT (ct : Nat → Option Value) (V : Gh) : Prop := ∀ k v c, V k = some v → ct k = some c → v = c

theorem PT.set {ct : Nat → Option Value} {V : Gh} (h : PT ct V) {i : Nat} {v : Value} (hc : ∀ c, ct i = some c → v = c) : PT ct (V.set i v) := by
  intro k u c hk hc'
  by_cases e : k = i
  · subst e
    rw [Gh.set_self] at hk
    cases hk
    exact hc c hc'
  · rw [Gh.set_ne V v e] at hk
    exact h k u c hk hc'

def opTab (ops : Array Oper) : List (Option Tmp × Op) := ops.toList.map fun o => (o.dst, o.op)

def opFree (ops : Array Oper) : Bool := ops.all fun o => o.guard.isNone

def depHas (ops : Array Oper) (T : List (List Nat)) : Bool := (List.range T.length).all fun i => ((T[i]?).getD []).all fun k => match ops[i]? with
  | some o => o.after.any fun e => Region.binds .any e && e.on == k
  | none => false

def noDst (ops : Array Oper) (t : Nat) : Bool := ops.all fun o => o.dst != some t

theorem noDst_of {ops : Array Oper} {t : Nat} (h : noDst ops t = true) : ∀ (k : Nat) o, ops[k]? = some o → o.dst ≠ some t := by
  intro k o ho hd
  have := Array.all_eq_true_iff_forall_mem.1 h o (Array.mem_of_getElem? ho)
  simp [hd] at this

theorem opTab_at {ops : Array Oper} {T : List (Option Tmp × Op)} (h : opTab ops = T) {i : Nat} {o : Oper} (ho : ops[i]? = some o) : T[i]? = some (o.dst, o.op) := by
  rw [← h]
  unfold opTab
  rw [List.getElem?_map, Array.getElem?_toList, ho]
  rfl

theorem opDep_at {ops : Array Oper} {T : List (List Nat)} (h : depHas ops T = true) {i : Nat} {o : Oper} (ho : ops[i]? = some o) {V : Gh} (hV : ∀ e ∈ o.after, Region.binds .any e = true → (V e.on).isSome = true) {l : List Nat} (hl : T[i]? = some l) : ∀ k ∈ l, ∃ v, V k = some v := by
  intro k hk
  have h1 := (List.all_eq_true.1 h) i (List.mem_range.2 (List.getElem?_eq_some_iff.1 hl).1)
  rw [hl] at h1
  have h2 := (List.all_eq_true.1 h1) k hk
  simp only [ho] at h2
  rw [← Array.any_toList] at h2
  obtain ⟨e, he, hb⟩ := List.any_eq_true.1 h2
  replace he : e ∈ o.after := by simpa using he
  simp only [Bool.and_eq_true, beq_iff_eq] at hb
  obtain ⟨hb1, rfl⟩ := hb
  exact Option.isSome_iff_exists.1 (hV e he hb1)

theorem opFree_at {ops : Array Oper} (h : opFree ops = true) {i : Nat} {o : Oper} (ho : ops[i]? = some o) : o.guard = none := by
  have := Array.all_eq_true_iff_forall_mem.1 h o (Array.mem_of_getElem? ho)
  simpa using this

theorem gop_call {P : Program} {ops : Array Oper} {Q : Exit → Act → World → Prop} {i : Nat} {o : Oper} {a : Act} {w w' : World} {f : FuncId} {args : Array Value} {K : Act → World → Prop} (ho : ops[i]? = some o) (hg : o.guard = none) (hr : (execOp a.eval o).run P w = .ok (.enter f args) w') (hc : Calls P f args w' fun e w'' => ∃ v, e = .returned v ∧ K (a.put o.dst v) w'') : wpOp P ops Q i K a w := by
  unfold wpOp
  simp only [ho]
  have hw : Region.wanted o (yielded ops a.tmps) = true := by simp [Region.wanted, hg]
  rw [if_pos hw]
  refine .inl ?_
  unfold Oper.wp
  rw [hr]
  simp only [Oper.upon]
  refine hc.mono ?_
  rintro e w'' ⟨v, rfl, hK⟩
  exact hK

end Go.Proofs.YtmllcomppjkhhaaDoor
