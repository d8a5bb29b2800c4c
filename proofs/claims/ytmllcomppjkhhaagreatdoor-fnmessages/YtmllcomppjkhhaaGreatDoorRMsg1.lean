/-
  Walks and mathematics of Msg1.
-/
import Derived.Test.YtmllcomppjkhhaaGreatDoorRPlain1
import Derived.Test.YtmllcomppjkhhaaGreatDoorRWalk5e
namespace Go.Proofs.YtmllcomppjkhhaaGreatDoor.P18
end Go.Proofs.YtmllcomppjkhhaaGreatDoor.P18
namespace Go.Proofs.YtmllcomppjkhhaaGreatDoor.P3
end Go.Proofs.YtmllcomppjkhhaaGreatDoor.P3
namespace Go.Proofs.YtmllcomppjkhhaaGreatDoor
open P1 P3 P9 P11 P12 P18
set_option linter.unusedVariables false
set_option linter.unusedSimpArgs false

structure MsgV where
  kd : Int
  fr : Int
  to : Int
  tm : Int
  ix : Int
  lt : Int
  cm : Int
  ok : Bool
  es : List EntV
  cf : List Int
  da : List UInt8
  la : Bool

def upM (tm : Int) : Int → List EntV → Bool
  | _, [] => true
  | t, e :: r => e.ok && (inR e.term t tm && upM tm e.term r)

theorem upM_cons (tm t : Int) (e : EntV) (r : List EntV) : upM tm t (e :: r) = (e.ok && (inR e.term t tm && upM tm e.term r)) := rfl

theorem upM_mem {tm : Int} : ∀ {es : List EntV} {t : Int}, upM tm t es = true → ∀ e ∈ es, e.ok = true
  | [], _, _, e, he => by simp at he
  | a :: r, t, h, e, he => by
    rw [upM_cons] at h
    simp only [Bool.and_eq_true] at h
    rcases List.mem_cons.1 he with rfl | he
    · exact h.1
    · exact upM_mem h.2.2 e he

def hdM (m : MsgV) : Bool := inR m.kd 1 6 && (inR m.fr 1 4 && (inR m.to 1 4 && (inR m.tm 0 100000 && (inR m.ix 0 1000000 && (inR m.lt 0 100000 && inR m.cm 0 1000000)))))

def partsM (m : MsgV) : Bool := if m.kd = 3 then decide (m.cf.length = 0) && (decide (m.da.length = 0) && !m.la) else if m.kd = 5 then decide (m.es.length = 0) else decide (m.es.length = 0) && (decide (m.cf.length = 0) && (decide (m.da.length = 0) && !m.la))

def entsM (m : MsgV) : Bool := decide (m.es.length ≤ 4) && upM m.tm m.lt m.es

def confM (m : MsgV) : Bool := if m.kd = 5 then confOk m.cf else true

def msgOk (m : MsgV) : Bool := hdM m && (!decide (m.fr = m.to) && (partsM m && (entsM m && (confM m && decide (m.da.length ≤ 60)))))

def restM (m : MsgV) : Bool := if m.kd = 5 then confOk m.cf && decide (m.da.length ≤ 60) else decide (m.cf.length = 0) && (decide (m.da.length = 0) && !m.la)

def msgOk2 (m : MsgV) : Bool := (inR m.kd 1 6 && (inR m.fr 1 4 && (inR m.to 1 4 && !decide (m.fr = m.to)))) && ((inR m.tm 0 100000 && (inR m.lt 0 100000 && (inR m.ix 0 1000000 && inR m.cm 0 1000000))) && ((decide (m.es.length ≤ 4) && (decide (m.es.length = 0) || decide (m.kd = 3))) && (upM m.tm m.lt m.es && restM m)))

theorem msgOk2_eq (m : MsgV) : msgOk2 m = msgOk m := by
  unfold msgOk2 msgOk hdM partsM entsM confM restM
  by_cases k5 : m.kd = 5
  · have k3 : ¬ m.kd = 3 := by omega
    rw [if_pos k5, if_neg k3, if_pos k5, if_pos k5]
    simp only [k3, decide_false, Bool.or_false]
    by_cases h0 : m.es.length = 0
    · simp only [h0, Nat.zero_le, decide_true, Bool.true_and]
      ac_rfl
    · simp [h0]
  · simp only [if_neg k5]
    by_cases k3 : m.kd = 3
    · rw [if_pos k3]
      simp only [k3, decide_true, Bool.or_true, Bool.and_true, Bool.true_and]
      rw [Bool.eq_iff_iff]
      simp only [Bool.and_eq_true, decide_eq_true_eq]
      constructor
      · rintro ⟨⟨a1, a2, a3, a4⟩, ⟨a5, a6, a7, a8⟩, a9, a10, a11, a12, a13⟩
        exact ⟨⟨a1, a2, a3, a5, a7, a6, a8⟩, a4, ⟨a11, a12, a13⟩, ⟨a9, a10⟩, by omega⟩
      · rintro ⟨⟨a1, a2, a3, a5, a7, a6, a8⟩, a4, ⟨a11, a12, a13⟩, ⟨a9, a10⟩, a14⟩
        exact ⟨⟨a1, a2, a3, a4⟩, ⟨a5, a6, a7, a8⟩, a9, a10, a11, a12, a13⟩
    · rw [if_neg k3]
      simp only [k3, decide_false, Bool.or_false, Bool.true_and]
      rw [Bool.eq_iff_iff]
      simp only [Bool.and_eq_true, decide_eq_true_eq]
      constructor
      · rintro ⟨⟨a1, a2, a3, a4⟩, ⟨a5, a6, a7, a8⟩, ⟨a9, a9'⟩, a10, a11, a12, a13⟩
        exact ⟨⟨a1, a2, a3, a5, a7, a6, a8⟩, a4, ⟨a9', a11, a12, a13⟩, ⟨a9, a10⟩, by omega⟩
      · rintro ⟨⟨a1, a2, a3, a5, a7, a6, a8⟩, a4, ⟨a9', a11, a12, a13⟩, ⟨a9, a10⟩, a14⟩
        exact ⟨⟨a1, a2, a3, a4⟩, ⟨a5, a6, a7, a8⟩, ⟨a9, a9'⟩, a10, a11, a12, a13⟩

theorem ok_entry {e : EntV} (h : e.ok = true) : 0 ≤ e.term ∧ e.term ≤ 100000 ∧ 1 ≤ e.kind ∧ e.kind ≤ 3 ∧ (bl e.data).length ≤ 120 := by
  unfold EntV.ok entryOk termOk at h
  simp only [Bool.and_eq_true, decide_eq_true_eq] at h
  have := contOk_len h.1
  omega

structure MsgIn (m : MsgV) : Prop where
  k : 1 ≤ m.kd ∧ m.kd ≤ 6
  f : 1 ≤ m.fr ∧ m.fr ≤ 4
  t : 1 ≤ m.to ∧ m.to ≤ 4
  tm : 0 ≤ m.tm ∧ m.tm ≤ 100000
  ix : 0 ≤ m.ix ∧ m.ix ≤ 1000000
  lt : 0 ≤ m.lt ∧ m.lt ≤ 100000
  cm : 0 ≤ m.cm ∧ m.cm ≤ 1000000
  es : m.es.length ≤ 4 ∧ ∀ e ∈ m.es, e.ok = true
  cf : m.cf = [] ∨ confOk m.cf = true
  da : m.da.length ≤ 60

theorem msg_in {m : MsgV} (h : msgOk m = true) : MsgIn m := by
  unfold msgOk hdM entsM partsM confM at h
  simp only [Bool.and_eq_true, inR_iff, decide_eq_true_eq] at h
  obtain ⟨⟨h1, h2, h3, h4, h5, h6, h7⟩, -, hp, ⟨h8, h9⟩, hc, hd⟩ := h
  refine ⟨h1, h2, h3, h4, h5, h6, h7, ⟨h8, upM_mem h9⟩, ?_, hd⟩
  by_cases k5 : m.kd = 5
  · rw [if_pos k5] at hc
    exact Or.inr hc
  · left
    rw [if_neg k5] at hp
    split at hp <;> (simp only [Bool.and_eq_true, decide_eq_true_eq] at hp; first | exact List.eq_nil_of_length_eq_zero hp.1 | exact List.eq_nil_of_length_eq_zero hp.2.1)

theorem MsgIn.conf {m : MsgV} (h : MsgIn m) : m.cf.length ≤ 4 ∧ ∀ z ∈ m.cf, 1 ≤ z ∧ z ≤ 4 := by
  rcases h.cf with h | h
  · rw [h]; simp
  · exact ⟨(confOk_len h).2, confOk_mem h⟩

def flB (b : Bool) : UInt8 := if b = true then 1 else 0

def entT (e : EntV) : List UInt8 := entryB 1 e.term.toNat e.kind.toNat (bl e.data)

def entsT (es : List EntV) : List UInt8 := es.flatMap fun e => shortB (entT e)

def tlB (es : List EntV) (cf : List Int) (da : List UInt8) : List UInt8 := varB es.length ++ (entsT es ++ (shortB (confB cf) ++ shortB da))

def msgB (m : MsgV) : List UInt8 := byB m.kd :: byB m.fr :: byB m.to :: (varZ m.tm ++ (varZ m.ix ++ (varZ m.lt ++ (varZ m.cm ++ (flB m.ok :: flB m.la :: tlB m.es m.cf m.da)))))

def msgText (m : MsgV) : Option (List UInt8) := if msgOk m = true then some (msgB m) else none

theorem var_len15 (n : Nat) : (varB n).length ≤ 10 := by unfold varB; exact Nat.le_trans (varF_length 9 _) (by omega)

theorem entT_len {e : EntV} (h : e.ok = true) : (entT e).length ≤ 200 := by
  have := ok_entry h
  have h1 := var_len15 1
  have h2 := var_len15 e.term.toNat
  unfold entT entryB
  simp only [List.length_cons, List.length_append]
  omega

theorem entsT_len : ∀ (es : List EntV), (∀ e ∈ es, e.ok = true) → (entsT es).length ≤ 220 * es.length
  | [], _ => by simp [entsT]
  | e :: r, h => by
    have h1 := entT_len (h e (by simp))
    have h2 := entsT_len r (fun x hx => h x (by simp [hx]))
    have h3 := var_len15 (entT e).length
    unfold entsT shortB at h2 ⊢
    simp only [List.flatMap_cons, List.length_append, List.length_cons] at h2 ⊢
    omega

def flagI (r : Lf) : Bool × Lf := (decide ((byteL r).1 = 1), if (byteL r).1 ≤ 1 then (byteL r).2 else none)

def reE (l : List UInt8) : Nat × EntV × Bool := match rdEntry l with | some (i, t, k, d) => (i, ⟨(t : Int), (k : Int), ⟨d.toArray⟩⟩, true) | none => (0, ⟨0, 0, ⟨#[]⟩⟩, false)

def entI (r : Lf) : EntV × Lf := ((reE (shL 20000 r).1).2.1, if (reE (shL 20000 r).1).2.2 = true ∧ (reE (shL 20000 r).1).1 = 1 then (shL 20000 r).2 else none)

def itE : Nat → Lf → List EntV × Lf
  | 0, r => ([], r)
  | j + 1, r => ((itE j r).1 ++ [(entI (itE j r).2).1], (entI (itE j r).2).2)

def countI (most : Nat) (r : Lf) : Nat × Lf := if (numL r).1 > most then (0, none) else numL r

def entriesI (r : Lf) : List EntV × Lf := itE (countI 4 r).1 (countI 4 r).2

def confI (r : Lf) : List Int × Lf := if (shL 20000 r).1 = [] then ([], (shL 20000 r).2) else if confOk (confZ (shL 20000 r).1) = true then (confZ (shL 20000 r).1, (shL 20000 r).2) else ([], none)

theorem itE_len : ∀ (j : Nat) (r : Lf), (itE j r).1.length = j
  | 0, _ => rfl
  | j + 1, r => by simp [itE, itE_len j r]

theorem rdEntry_some {l d : List UInt8} {i t k : Nat} (h : rdEntry l = some (i, t, k, d)) : entryB i t k d = l ∧ indexOk i = true ∧ entryOk t k d = true := by
  unfold rdEntry at h
  split at h
  · cases h
  · rename_i b r
    split at h
    · cases h
    · rename_i i' c1 h1
      split at h
      · cases h
      · rename_i t' c2 h2
        split at h
        · cases h
        · rename_i k' d' h3
          split at h
          · rename_i hc
            cases h
            exact ⟨(parts_of_read h1 h2 h3).2 hc.1, hc.2⟩
          · cases h

theorem reE_ok {l : List UInt8} (h : (reE l).2.2 = true) : (reE l).2.1.ok = true ∧ ((reE l).1 = 1 → entT (reE l).2.1 = l) := by
  unfold reE at h ⊢
  cases hr : rdEntry l with
  | none => rw [hr] at h; cases h
  | some p =>
    obtain ⟨i, t, k, d⟩ := p
    simp only
    obtain ⟨h1, h2, h3⟩ := rdEntry_some hr
    refine ⟨?_, fun hi => ?_⟩
    · unfold EntV.ok
      simp only
      exact h3
    · subst hi
      exact h1

theorem reE_of {e : EntV} (h : e.ok = true) : reE (entT e) = (1, e, true) := by
  have hin := ok_entry h
  obtain ⟨t, k, d⟩ := e
  simp only at hin
  have : rdEntry (entT ⟨t, k, d⟩) = some (1, t.toNat, k.toNat, bl d) := by
    refine rdEntry_text (i := 1) (by decide) ?_
    unfold EntV.ok at h
    simp only at h
    rw [show ((t.toNat : Nat) : Int) = t by omega, show ((k.toNat : Nat) : Int) = k by omega]
    exact h
  unfold reE
  rw [this]
  simp only [show ((t.toNat : Nat) : Int) = t by omega, show ((k.toNat : Nat) : Int) = k by omega]
  all_goals try congr 2

theorem entI_text {r : Lf} {q : List UInt8} (h : (entI r).2 = some q) : (entI r).1.ok = true ∧ r = some (shortB (entT (entI r).1) ++ q) := by
  unfold entI at h ⊢
  simp only at h ⊢
  split at h
  · rename_i hc
    obtain ⟨h1, h2⟩ := reE_ok hc.1
    refine ⟨h1, ?_⟩
    rw [h2 hc.2]
    exact shL_some h
  · cases h

theorem entI_of {e : EntV} (h : e.ok = true) (q : List UInt8) : entI (some (shortB (entT e) ++ q)) = (e, some q) := by
  have := entT_len h
  unfold entI
  rw [shL_short (by omega) (by omega) q]
  simp only
  rw [reE_of h]
  simp

theorem itE_text : ∀ (j : Nat) (r : Lf) (q : List UInt8), (itE j r).2 = some q → r = some (entsT (itE j r).1 ++ q)
  | 0, r, q, h => by simpa [itE, entsT] using h
  | j + 1, r, q, h => by
    have h1 := (entI_text (r := (itE j r).2) h).2
    have h2 := itE_text j r _ h1
    refine h2.trans ?_
    simp only [itE, entsT, List.flatMap_append, List.flatMap_cons, List.flatMap_nil, List.append_nil, List.append_assoc]

theorem itE_of : ∀ (j : Nat) (es : List EntV) (q : List UInt8), j ≤ es.length → (∀ e ∈ es, e.ok = true) → itE j (some (entsT es ++ q)) = (es.take j, some (entsT (es.drop j) ++ q))
  | 0, es, q, _, _ => by simp [itE]
  | j + 1, es, q, hj, h => by
    have ih := itE_of j es q (by omega) h
    have hlt : j < es.length := by omega
    have hz := h es[j] (List.getElem_mem _)
    simp only [itE]
    rw [ih]
    simp only
    have hd : entsT (es.drop j) ++ q = shortB (entT es[j]) ++ (entsT (es.drop (j + 1)) ++ q) := by
      rw [List.drop_eq_getElem_cons hlt]
      simp only [entsT, List.flatMap_cons, List.append_assoc]
    rw [hd, entI_of hz]
    simp only [Prod.mk.injEq, and_true]
    rw [List.take_succ_eq_append_getElem hlt]

theorem flagI_text {r : Lf} {q : List UInt8} (h : (flagI r).2 = some q) : r = some (flB (flagI r).1 :: q) := by
  unfold flagI at h ⊢
  simp only at h ⊢
  split at h
  · rename_i hc
    have h1 := byteL_some h
    refine h1.trans ?_
    congr 2
    rcases Nat.le_one_iff_eq_zero_or_eq_one.1 hc with e | e
    · rw [e]; rfl
    · rw [e]; rfl
  · cases h

theorem flagI_of (b : Bool) (q : List UInt8) : flagI (some (flB b :: q)) = (b, some q) := by
  unfold flagI
  rw [byteL_cons]
  cases b <;> rfl

theorem confB_nil15 {zs : List Int} : confB zs = [] ↔ zs = [] := by unfold confB; simp

theorem confI_text {r : Lf} {q : List UInt8} (h : (confI r).2 = some q) : r = some (shortB (confB (confI r).1) ++ q) := by
  unfold confI at h ⊢
  split at h
  · rename_i hc
    rw [if_pos hc]
    have := shL_some h
    rw [hc] at this
    exact this
  · rename_i hc
    rw [if_neg hc]
    split at h
    · rename_i ho
      rw [if_pos ho]
      simp only
      rw [confB_confZ]
      exact shL_some h
    · cases h

theorem confI_of {zs : List Int} (h : zs = [] ∨ confOk zs = true) (q : List UInt8) : confI (some (shortB (confB zs) ++ q)) = (zs, some q) := by
  rcases h with rfl | h
  · unfold confI
    rw [shL_short (by simp [confB]) (by omega) q]
    simp [confB]
  · have hl := confOk_len h
    unfold confI
    rw [shL_short (by rw [confB_length]; omega) (by omega) q]
    simp only
    rw [if_neg (by rw [confB_nil15]; rintro rfl; simp at hl), confZ_confB (confOk_mem h), if_pos h]

def msgI (l : List UInt8) : MsgV × Lf :=
  let k := byteL (some l)
  let f := byteL k.2
  let t := byteL f.2
  let tm := numL t.2
  let ix := numL tm.2
  let lt := numL ix.2
  let cm := numL lt.2
  let ok := flagI cm.2
  let la := flagI ok.2
  let es := entriesI la.2
  let cf := confI es.2
  let da := shL 20000 cf.2
  (⟨k.1, f.1, t.1, tm.1, ix.1, lt.1, cm.1, ok.1, es.1, cf.1, da.1, la.1⟩, da.2)

def zeroMsg : MsgV := ⟨0, 0, 0, 0, 0, 0, 0, false, [], [], [], false⟩

def mdR (l : List UInt8) : MsgV × Bool := if (msgI l).2 = some [] ∧ msgOk (msgI l).1 = true then ((msgI l).1, true) else (zeroMsg, false)

theorem entriesI_text {r : Lf} {q : List UInt8} (h : (entriesI r).2 = some q) : r = some (varB (entriesI r).1.length ++ (entsT (entriesI r).1 ++ q)) := by
  unfold entriesI at h ⊢
  rw [itE_len]
  have h1 := itE_text _ _ _ h
  unfold countI at h1 ⊢
  by_cases c : (numL r).1 > 4
  · rw [if_pos c] at h1; cases h1
  · rw [if_neg c] at h1 ⊢
    exact numL_some h1

theorem entriesI_of {es : List EntV} (hl : es.length ≤ 4) (h : ∀ e ∈ es, e.ok = true) (q : List UInt8) : entriesI (some (varB es.length ++ (entsT es ++ q))) = (es, some q) := by
  unfold entriesI countI
  rw [numL_var (by omega)]
  simp only
  rw [if_neg (by omega)]
  rw [itE_of _ _ _ (Nat.le_refl _) h]
  simp [entsT]

theorem msgI_text {l : List UInt8} (h : (msgI l).2 = some []) : msgB (msgI l).1 = l := by
  unfold msgI at h ⊢
  simp only at h ⊢
  have h1 := shL_some h
  rw [List.append_nil] at h1
  have h2 := confI_text h1
  have h3 := entriesI_text h2
  have h4 := flagI_text h3
  have h5 := flagI_text h4
  have h6 := numL_some h5
  have h7 := numL_some h6
  have h8 := numL_some h7
  have h9 := numL_some h8
  have h10 := byteL_some h9
  have h11 := byteL_some h10
  have h12 := byteL_some h11
  exact (Option.some.inj h12).symm

theorem byL15 {z : Int} (h : 0 ≤ z ∧ z ≤ 255) (q : List UInt8) : byteL (some (byB z :: q)) = (z.toNat, some q) := by
  rw [byteL_cons]
  have := bz_byB h
  unfold bz at this
  rw [show (byB z).toNat = z.toNat by omega]

theorem nuL15 {z : Int} (h : 0 ≤ z ∧ z ≤ 1000000) (q : List UInt8) : numL (some (varZ z ++ q)) = (z.toNat, some q) := numL_var (by omega) q

theorem msgI_of {m : MsgV} (h : MsgIn m) : msgI (msgB m) = (m, some []) := by
  obtain ⟨h1, h2, h3, h4, h5, h6, h7, h8, h9, h10⟩ := h
  obtain ⟨kd, fr, to, tm, ix, lt, cm, ok, es, cf, da, la⟩ := m
  simp only at h1 h2 h3 h4 h5 h6 h7 h8 h9 h10
  have q := shL_short (most := 20000) (x := da) (by omega) (by omega) []
  rw [List.append_nil] at q
  unfold msgI msgB tlB
  simp only [byL15 (z := kd) (by omega), byL15 (z := fr) (by omega), byL15 (z := to) (by omega), nuL15 (z := tm) (by omega), nuL15 (z := ix) (by omega), nuL15 (z := lt) (by omega), nuL15 (z := cm) (by omega), flagI_of, entriesI_of h8.1 h8.2, confI_of h9, q]
  simp only [Int.toNat_of_nonneg (show 0 ≤ kd by omega), Int.toNat_of_nonneg (show 0 ≤ fr by omega), Int.toNat_of_nonneg (show 0 ≤ to by omega), Int.toNat_of_nonneg h4.1, Int.toNat_of_nonneg h5.1, Int.toNat_of_nonneg h6.1, Int.toNat_of_nonneg h7.1]

theorem mdR_of {m : MsgV} (h : msgOk m = true) : mdR (msgB m) = (m, true) := by
  unfold mdR
  rw [msgI_of (msg_in h), if_pos ⟨rfl, h⟩]

theorem mdR_no {l : List UInt8} (h : ∀ m, msgOk m = true → msgB m ≠ l) : mdR l = (zeroMsg, false) := by
  unfold mdR
  rw [if_neg]
  rintro ⟨h1, h2⟩
  exact h _ h2 (msgI_text h1)

theorem mdR_yes {l : List UInt8} (h : (mdR l).2 = true) : msgOk (mdR l).1 = true ∧ msgB (mdR l).1 = l := by
  unfold mdR at h ⊢
  split at h
  · rename_i hc
    rw [if_pos hc]
    exact ⟨hc.2, msgI_text hc.1⟩
  · cases h

end Go.Proofs.YtmllcomppjkhhaaGreatDoor
