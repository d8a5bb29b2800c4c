/-
  Walks and mathematics of Msg1.
-/
import Derived.Test.YtmllcomppjkhhaaDoorQbPlain1
import Derived.Test.YtmllcomppjkhhaaDoorQbWalk5e
namespace Go.Proofs.YtmllcomppjkhhaaDoor.P18
end Go.Proofs.YtmllcomppjkhhaaDoor.P18
namespace Go.Proofs.YtmllcomppjkhhaaDoor.P3
end Go.Proofs.YtmllcomppjkhhaaDoor.P3
namespace Go.Proofs.YtmllcomppjkhhaaDoor
open P1 P3 P9 P11 P12 P18
set_option linter.unusedVariables false
set_option linter.unusedSimpArgs false

structure MsgV where
  kd : Int
  fr : Int
  to : Int
  tm : Int
  ix : Int
  lt : Int
  cm : Int
  ok : Bool
  es : List EntV
  cf : List Int
  da : List UInt8
  la : Bool

def upM (tm : Int) : Int → List EntV → Bool
  | _, [] => true
  | t, e :: r => e.ok && (inR e.term t tm && upM tm e.term r)

theorem upM_cons (tm t : Int) (e : EntV) (r : List EntV) : upM tm t (e :: r) = (e.ok && (inR e.term t tm && upM tm e.term r)) := rfl

theorem upM_mem {tm : Int} : ∀ {es : List EntV} {t : Int}, upM tm t es = true → ∀ e ∈ es, e.ok = true
  | [], _, _, e, he => by simp at he
  | a :: r, t, h, e, he => by
    rw [upM_cons] at h
    simp only [Bool.and_eq_true] at h
    rcases List.mem_cons.1 he with rfl | he
    · exact h.1
    · exact upM_mem h.2.2 e he

def hdM (m : MsgV) : Bool := inR m.kd 1 6 && (inR m.fr 1 4 && (inR m.to 1 4 && (inR m.tm 0 100000 && (inR m.ix 0 1000000 && (inR m.lt 0 100000 && inR m.cm 0 1000000)))))

def partsM (m : MsgV) : Bool := if m.kd = 3 then decide (m.cf.length = 0) && (decide (m.da.length = 0) && !m.la) else if m.kd = 5 then decide (m.es.length = 0) else decide (m.es.length = 0) && (decide (m.cf.length = 0) && (decide (m.da.length = 0) && !m.la))

def entsM (m : MsgV) : Bool := decide (m.es.length ≤ 4) && upM m.tm m.lt m.es

def confM (m : MsgV) : Bool := if m.kd = 5 then confOk m.cf else true

def msgOk (m : MsgV) : Bool := hdM m && (!decide (m.fr = m.to) && (partsM m && (entsM m && (confM m && decide (m.da.length ≤ 60)))))

def restM (m : MsgV) : Bool := if m.kd = 5 then confOk m.cf && decide (m.da.length ≤ 60) else decide (m.cf.length = 0) && (decide (m.da.length = 0) && !m.la)

def msgOk2 (m : MsgV) : Bool := (inR m.kd 1 6 && (inR m.fr 1 4 && (inR m.to 1 4 && !decide (m.fr = m.to)))) && ((inR m.tm 0 100000 && (inR m.lt 0 100000 && (inR m.ix 0 1000000 && inR m.cm 0 1000000))) && ((decide (m.es.length ≤ 4) && (decide (m.es.length = 0) || decide (m.kd = 3))) && (upM m.tm m.lt m.es && restM m)))

theorem msgOk2_eq (m : MsgV) : msgOk2 m = msgOk m := by
  unfold msgOk2 msgOk hdM partsM entsM confM restM
  by_cases k5 : m.kd = 5
  · have k3 : ¬ m.kd = 3 := by omega
    rw [if_pos k5, if_neg k3, if_pos k5, if_pos k5]
    simp only [k3, decide_false, Bool.or_false]
    by_cases h0 : m.es.length = 0
    · simp only [h0, Nat.zero_le, decide_true, Bool.true_and]
      ac_rfl
    · simp [h0]
  · simp only [if_neg k5]
    by_cases k3 : m.kd = 3
    · rw [if_pos k3]
      simp only [k3, decide_true, Bool.or_true, Bool.and_true, Bool.true_and]
      rw [Bool.eq_iff_iff]
      simp only [Bool.and_eq_true, decide_eq_true_eq]
      constructor
      · rintro ⟨⟨a1, a2, a3, a4⟩, ⟨a5, a6, a7, a8⟩, a9, a10, a11, a12, a13⟩
        exact ⟨⟨a1, a2, a3, a5, a7, a6, a8⟩, a4, ⟨a11, a12, a13⟩, ⟨a9, a10⟩, by omega⟩
      · rintro ⟨⟨a1, a2, a3, a5, a7, a6, a8⟩, a4, ⟨a11, a12, a13⟩, ⟨a9, a10⟩, a14⟩
        exact ⟨⟨a1, a2, a3, a4⟩, ⟨a5, a6, a7, a8⟩, a9, a10, a11, a12, a13⟩
    · rw [if_neg k3]
      simp only [k3, decide_false, Bool.or_false, Bool.true_and]
      rw [Bool.eq_iff_iff]
      simp only [Bool.and_eq_true, decide_eq_true_eq]
      constructor
      · rintro ⟨⟨a1, a2, a3, a4⟩, ⟨a5, a6, a7, a8⟩, ⟨a9, a9'⟩, a10, a11, a12, a13⟩
        exact ⟨⟨a1, a2, a3, a5, a7, a6, a8⟩, a4, ⟨a9', a11, a12, a13⟩, ⟨a9, a10⟩, by omega⟩
      · rintro ⟨⟨a1, a2, a3, a5, a7, a6, a8⟩, a4, ⟨a9', a11, a12, a13⟩, ⟨a9, a10⟩, a14⟩
        exact ⟨⟨a1, a2, a3, a4⟩, ⟨a5, a6, a7, a8⟩, ⟨a9, a9'⟩, a10, a11, a12, a13⟩

theorem ok_entry {e : EntV} (h : e.ok = true) : 0 ≤ e.term ∧ e.term ≤ 100000 ∧ 1 ≤ e.kind ∧ e.kind ≤ 3 ∧ (bl e.data).length ≤ 120 := by
  unfold EntV.ok entryOk termOk at h
  simp only [Bool.and_eq_true, decide_eq_true_eq] at h
  have := contOk_len h.1
  omega

structure MsgIn (m : MsgV) : Prop where
  k : 1 ≤ m.kd ∧ m.kd ≤ 6
  f : 1 ≤ m.fr ∧ m.fr ≤ 4
  t : 1 ≤ m.to ∧ m.to ≤ 4
  tm : 0 ≤ m.tm ∧ m.tm ≤ 100000
  ix : 0 ≤ m.ix ∧ m.ix ≤ 1000000
  lt : 0 ≤ m.lt ∧ m.lt ≤ 100000
  cm : 0 ≤ m.cm ∧ m.cm ≤ 1000000
  es : m.es.length ≤ 4 ∧ ∀ e ∈ m.es, e.ok = true
  cf : m.cf = [] ∨ confOk m.cf = true
  da : m.da.length ≤ 60

theorem msg_in {m : MsgV} (h : msgOk m = true) : MsgIn m := by
  unfold msgOk hdM entsM partsM confM at h
  simp only [Bool.and_eq_true, inR_iff, decide_eq_true_eq] at h
  obtain ⟨⟨h1, h2, h3, h4, h5, h6, h7⟩, -, hp, ⟨h8, h9⟩, hc, hd⟩ := h
  refine ⟨h1, h2, h3, h4, h5, h6, h7, ⟨h8, upM_mem h9⟩, ?_, hd⟩
  by_cases k5 : m.kd = 5
  · rw [if_pos k5] at hc
    exact Or.inr hc
  · left
    rw [if_neg k5] at hp
    split at hp <;> (simp only [Bool.and_eq_true, decide_eq_true_eq] at hp; first | exact List.eq_nil_of_length_eq_zero hp.1 | exact List.eq_nil_of_length_eq_zero hp.2.1)

theorem MsgIn.conf {m : MsgV} (h : MsgIn m) : m.cf.length ≤ 4 ∧ ∀ z ∈ m.cf, 1 ≤ z ∧ z ≤ 4 := by
  rcases h.cf with h | h
  · rw [h]; simp
  · exact ⟨(confOk_len h).2, confOk_mem h⟩

def flB (b : Bool) : UInt8 := if b = true then 1 else 0

def entT (e : EntV) : List UInt8 := entryB 1 e.term.toNat e.kind.toNat (bl e.data)

def entsT (es : List EntV) : List UInt8 := es.flatMap fun e => shortB (entT e)

def tlB (es : List EntV) (cf : List Int) (da : List UInt8) : List UInt8 := varB es.length ++ (entsT es ++ (shortB (confB cf) ++ shortB da))

def msgB (m : MsgV) : List UInt8 := byB m.kd :: byB m.fr :: byB m.to :: (varZ m.tm ++ (varZ m.ix ++ (varZ m.lt ++ (varZ m.cm ++ (flB m.ok :: flB m.la :: tlB m.es m.cf m.da)))))

def msgText (m : MsgV) : Option (List UInt8) := if msgOk m = true then some (msgB m) else none

theorem var_len15 (n : Nat) : (varB n).length ≤ 10 := by unfold varB; exact Nat.le_trans (varF_length 9 _) (by omega)

theorem entT_len {e : EntV} (h : e.ok = true) : (entT e).length ≤ 200 := by
  have := ok_entry h
  have h1 := var_len15 1
  have h2 := var_len15 e.term.toNat
  unfold entT entryB
  simp only [List.length_cons, List.length_append]
  omega

theorem entsT_len : ∀ (es : List EntV), (∀ e ∈ es, e.ok = true) → (entsT es).length ≤ 220 * es.length
  | [], _ => by simp [entsT]
  | e :: r, h => by
    have h1 := entT_len (h e (by simp))
    have h2 := entsT_len r (fun x hx => h x (by simp [hx]))
    have h3 := var_len15 (entT e).length
    unfold entsT shortB at h2 ⊢
    simp only [List.flatMap_cons, List.length_append, List.length_cons] at h2 ⊢
    omega

end Go.Proofs.YtmllcomppjkhhaaDoor
