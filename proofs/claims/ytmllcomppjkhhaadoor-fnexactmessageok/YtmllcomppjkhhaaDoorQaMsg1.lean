/-
  Walks and mathematics of Msg1.
-/
import Derived.Test.YtmllcomppjkhhaaDoorQaPlain9
import Derived.Test.YtmllcomppjkhhaaDoorQaWalk5e
namespace Go.Proofs.YtmllcomppjkhhaaDoor.P1
end Go.Proofs.YtmllcomppjkhhaaDoor.P1
namespace Go.Proofs.YtmllcomppjkhhaaDoor.P11
end Go.Proofs.YtmllcomppjkhhaaDoor.P11
namespace Go.Proofs.YtmllcomppjkhhaaDoor.P18
end Go.Proofs.YtmllcomppjkhhaaDoor.P18
namespace Go.Proofs.YtmllcomppjkhhaaDoor.P3
end Go.Proofs.YtmllcomppjkhhaaDoor.P3
namespace Go.Proofs.YtmllcomppjkhhaaDoor
open P1 P3 P9 P11 P12 P18
set_option linter.unusedVariables false
set_option linter.unusedSimpArgs false

structure MsgV where
  kd : Int
  fr : Int
  to : Int
  tm : Int
  ix : Int
  lt : Int
  cm : Int
  ok : Bool
  es : List EntV
  cf : List Int
  da : List UInt8
  la : Bool

def upM (tm : Int) : Int → List EntV → Bool
  | _, [] => true
  | t, e :: r => e.ok && (inR e.term t tm && upM tm e.term r)

theorem upM_cons (tm t : Int) (e : EntV) (r : List EntV) : upM tm t (e :: r) = (e.ok && (inR e.term t tm && upM tm e.term r)) := rfl

def hdM (m : MsgV) : Bool := inR m.kd 1 6 && (inR m.fr 1 4 && (inR m.to 1 4 && (inR m.tm 0 100000 && (inR m.ix 0 1000000 && (inR m.lt 0 100000 && inR m.cm 0 1000000)))))

def partsM (m : MsgV) : Bool := if m.kd = 3 then decide (m.cf.length = 0) && (decide (m.da.length = 0) && !m.la) else if m.kd = 5 then decide (m.es.length = 0) else decide (m.es.length = 0) && (decide (m.cf.length = 0) && (decide (m.da.length = 0) && !m.la))

def entsM (m : MsgV) : Bool := decide (m.es.length ≤ 4) && upM m.tm m.lt m.es

def confM (m : MsgV) : Bool := if m.kd = 5 then confOk m.cf else true

def msgOk (m : MsgV) : Bool := hdM m && (!decide (m.fr = m.to) && (partsM m && (entsM m && (confM m && decide (m.da.length ≤ 60)))))

def restM (m : MsgV) : Bool := if m.kd = 5 then confOk m.cf && decide (m.da.length ≤ 60) else decide (m.cf.length = 0) && (decide (m.da.length = 0) && !m.la)

def msgOk2 (m : MsgV) : Bool := (inR m.kd 1 6 && (inR m.fr 1 4 && (inR m.to 1 4 && !decide (m.fr = m.to)))) && ((inR m.tm 0 100000 && (inR m.lt 0 100000 && (inR m.ix 0 1000000 && inR m.cm 0 1000000))) && ((decide (m.es.length ≤ 4) && (decide (m.es.length = 0) || decide (m.kd = 3))) && (upM m.tm m.lt m.es && restM m)))

theorem msgOk2_eq (m : MsgV) : msgOk2 m = msgOk m := by
  unfold msgOk2 msgOk hdM partsM entsM confM restM
  by_cases k5 : m.kd = 5
  · have k3 : ¬ m.kd = 3 := by omega
    rw [if_pos k5, if_neg k3, if_pos k5, if_pos k5]
    simp only [k3, decide_false, Bool.or_false]
    by_cases h0 : m.es.length = 0
    · simp only [h0, Nat.zero_le, decide_true, Bool.true_and]
      ac_rfl
    · simp [h0]
  · simp only [if_neg k5]
    by_cases k3 : m.kd = 3
    · rw [if_pos k3]
      simp only [k3, decide_true, Bool.or_true, Bool.and_true, Bool.true_and]
      rw [Bool.eq_iff_iff]
      simp only [Bool.and_eq_true, decide_eq_true_eq]
      constructor
      · rintro ⟨⟨a1, a2, a3, a4⟩, ⟨a5, a6, a7, a8⟩, a9, a10, a11, a12, a13⟩
        exact ⟨⟨a1, a2, a3, a5, a7, a6, a8⟩, a4, ⟨a11, a12, a13⟩, ⟨a9, a10⟩, by omega⟩
      · rintro ⟨⟨a1, a2, a3, a5, a7, a6, a8⟩, a4, ⟨a11, a12, a13⟩, ⟨a9, a10⟩, a14⟩
        exact ⟨⟨a1, a2, a3, a4⟩, ⟨a5, a6, a7, a8⟩, a9, a10, a11, a12, a13⟩
    · rw [if_neg k3]
      simp only [k3, decide_false, Bool.or_false, Bool.true_and]
      rw [Bool.eq_iff_iff]
      simp only [Bool.and_eq_true, decide_eq_true_eq]
      constructor
      · rintro ⟨⟨a1, a2, a3, a4⟩, ⟨a5, a6, a7, a8⟩, ⟨a9, a9'⟩, a10, a11, a12, a13⟩
        exact ⟨⟨a1, a2, a3, a5, a7, a6, a8⟩, a4, ⟨a9', a11, a12, a13⟩, ⟨a9, a10⟩, by omega⟩
      · rintro ⟨⟨a1, a2, a3, a5, a7, a6, a8⟩, a4, ⟨a9', a11, a12, a13⟩, ⟨a9, a10⟩, a14⟩
        exact ⟨⟨a1, a2, a3, a4⟩, ⟨a5, a6, a7, a8⟩, ⟨a9, a9'⟩, a10, a11, a12, a13⟩

end Go.Proofs.YtmllcomppjkhhaaDoor
