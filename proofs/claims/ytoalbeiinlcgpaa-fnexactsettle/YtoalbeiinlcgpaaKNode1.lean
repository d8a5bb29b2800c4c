/-
  Walks and mathematics of Node1.
-/
import Derived.Test.YtoalbeiinlcgpaaKWalk6a
import Derived.Test.YtoalbeiinlcgpaaKPeer1
namespace Go.Proofs.Ytoalbeiinlcgpaa
open Go.RowKit P1 P9 K
set_option linter.unusedVariables false
set_option linter.unusedSimpArgs false

structure NdV where
  id : Int
  tm : Int
  vt : Int
  ro : Int
  ld : Int
  cf : List Int
  s : Int
  u : Int
  es : List EntV
  cm : Int
  ck : Int
  lm : Int
  vs : List Int
  ps : List PeerV

def cfGo : List Int → List EntV → List Int
  | c, [] => c
  | c, e :: r => cfGo (if e.kind = 2 then confZ (bl e.data) else c) r

theorem cfGo_snoc : ∀ (es : List EntV) (c : List Int) (e : EntV), cfGo c (es ++ [e]) = if e.kind = 2 then confZ (bl e.data) else cfGo c es
  | [], c, e => rfl
  | a :: r, c, e => cfGo_snoc r _ e

theorem cfGo_none : ∀ (es : List EntV) (c : List Int), (∀ e ∈ es, e.kind ≠ 2) → cfGo c es = c
  | [], c, _ => rfl
  | a :: r, c, h => by
    rw [cfGo, if_neg (h a (by simp))]
    exact cfGo_none r c fun e he => h e (by simp [he])

theorem cfGo_last {es : List EntV} {i : Nat} {e : EntV} (c : List Int) (h : es[i]? = some e) (hk : e.kind = 2) (hr : ∀ j f, i < j → es[j]? = some f → f.kind ≠ 2) : cfGo c es = confZ (bl e.data) := by
  have hi : i < es.length := (List.getElem?_eq_some_iff.1 h).1
  have he : es[i] = e := (List.getElem?_eq_some_iff.1 h).2
  have h1 : es = es.take i ++ e :: es.drop (i + 1) := by
    rw [← he, ← List.drop_eq_getElem_cons hi, List.take_append_drop]
  have h2 : ∀ (a : List EntV) (c : List Int), cfGo c (a ++ e :: es.drop (i + 1)) = confZ (bl e.data) := by
    intro a
    induction a with
    | nil =>
      intro c
      rw [List.nil_append, cfGo, if_pos hk]
      refine cfGo_none _ _ fun f hf => ?_
      obtain ⟨j, hj, hje⟩ := List.getElem_of_mem hf
      exact hr (i + 1 + j) f (by omega) (by rw [← List.getElem?_drop, List.getElem?_eq_getElem hj, hje])
    | cons b r ih => intro c; exact ih _
  rw [h1]
  exact h2 _ c

theorem okE_conf {e : EntV} (h : e.ok = true) (hk : e.kind = 2) : confOk (confZ (bl e.data)) = true := by
  simp only [EntV.ok, entryOk, Bool.and_eq_true] at h
  rcases contOk_kind h.1 with h1 | h1 | h1
  · omega
  · exact h1.2
  · omega

theorem upE_ok : ∀ (es : List EntV) (t : Int), upE t es = true → ∀ e ∈ es, e.ok = true
  | [], _, _, e, he => by simp at he
  | a :: r, t, h, e, he => by
    rw [upE_cons] at h
    simp only [Bool.and_eq_true] at h
    rcases List.mem_cons.1 he with rfl | he
    · exact h.1
    · exact upE_ok r _ h.2.2 e he

theorem cfGo_ok : ∀ (es : List EntV) (c : List Int), confOk c = true → (∀ e ∈ es, e.ok = true) → confOk (cfGo c es) = true
  | [], c, h, _ => h
  | a :: r, c, h, hr => by
    rw [cfGo]
    refine cfGo_ok r _ ?_ fun e he => hr e (by simp [he])
    by_cases hk : a.kind = 2
    · rw [if_pos hk]; exact okE_conf (hr a (by simp)) hk
    · rw [if_neg hk]; exact h

def othI (c : List Int) (id : Int) : List Int := c.filter fun z => !decide (z = id)

def prOk (last : Int) (p : PeerV) (i : Int) : Bool := (((decide (p.id = i) && (decide (1 ≤ p.nx) && decide (p.nx ≤ last + 1))) && (decide (0 ≤ p.mt) && decide (p.mt ≤ p.nx - 1))) && (decide (0 ≤ p.sn) && decide (p.sn ≤ 20000)))

def prsGo (last : Int) : List PeerV → List Int → Bool
  | p :: r, i :: t => prOk last p i && prsGo last r t
  | _, _ => true

def prsOk (last : Int) (ps : List PeerV) (o : List Int) : Bool := decide (ps.length = o.length) && prsGo last ps o

def ndCf (x : NdV) : List Int := cfGo x.cf x.es

def ndIds (x : NdV) : List Int := if x.ro = 2 then othI (ndCf x) x.id else []

def ndLast (x : NdV) : Int := x.s + x.es.length

def bt (a x b : Int) : Bool := decide (a ≤ x) && decide (x ≤ b)

def ndHd (x : NdV) : Bool := (bt 1 x.id 4 && confOk x.cf) && lgOk x.s x.u x.es

def ndNum (x : NdV) : Bool := ((((((bt (lastT x.u x.es) x.tm 100000 && bt 0 x.ro 2) && bt x.s x.cm (ndLast x)) && bt 0 x.vt 4) && bt 0 x.ld 4) && bt 0 x.ck 20) && bt 1 x.lm 20)

def ndVot (x : NdV) : Bool := riseF 1 4 none x.vs && (decide (x.vs.length = 0) || decide (x.ro = 1))

def ndPrs (x : NdV) : Bool := prsOk (ndLast x) x.ps (ndIds x)

def ndOk (x : NdV) : Bool := ndHd x && (ndNum x && (ndVot x && ndPrs x))

theorem lgOk_facts {s u : Int} {es : List EntV} (h : lgOk s u es = true) : 0 ≤ s ∧ s ≤ 1000000 ∧ 0 ≤ u ∧ u ≤ 100000 ∧ es.length ≤ 60 ∧ s + es.length ≤ 1000000 ∧ ∀ e ∈ es, e.ok = true := by
  simp only [lgOk, lgHd, Bool.and_eq_true, decide_eq_true_eq] at h
  exact ⟨h.1.1, h.1.2.1, h.1.2.2.1, h.1.2.2.2.1, h.1.2.2.2.2.1, h.1.2.2.2.2.2, upE_ok _ _ h.2⟩

theorem lastT_le : ∀ (es : List EntV) (u : Int), 0 ≤ u → u ≤ 100000 → (∀ e ∈ es, e.ok = true) → 0 ≤ lastT u es ∧ lastT u es ≤ 100000
  | [], u, h0, h1, _ => ⟨h0, h1⟩
  | a :: r, u, h0, h1, h => by
    have ha := h a (by simp)
    simp only [EntV.ok, entryOk, termOk, Bool.and_eq_true, decide_eq_true_eq] at ha
    exact lastT_le r a.term ha.2.1 ha.2.2 fun e he => h e (by simp [he])

end Go.Proofs.Ytoalbeiinlcgpaa
