/-
  Walks and mathematics of Text4.
-/
import Derived.Test.YtckkfjmjcknjdaaGreatDoorRCComm1
import Derived.Test.YtckkfjmjcknjdaaGreatDoorRCWalk9n
namespace Go.Proofs.YtckkfjmjcknjdaaGreatDoor.P3
end Go.Proofs.YtckkfjmjcknjdaaGreatDoor.P3
namespace Go.Proofs.YtckkfjmjcknjdaaGreatDoor
open Go.RowKit P1 P3 P9 P11 P12 P18 K
set_option linter.unusedVariables false
set_option linter.unusedSimpArgs false

def bodyI (r : Lf) : EvV × Lf :=
  (⟨0, (byteL r).1, (byteL (byteL r).2).1, (byteL (byteL (byteL r).2).2).1, (byteL (byteL (byteL (byteL r).2).2).2).1, (lsL byteL 5 (byteL (byteL (byteL (byteL r).2).2).2).2).1, (shL 20000 (lsL byteL 5 (byteL (byteL (byteL (byteL r).2).2).2).2).2).1, [], 0⟩,
    (shL 20000 (lsL byteL 5 (byteL (byteL (byteL (byteL r).2).2).2).2).2).2)

def wholeI (r : Lf) : EvV × Lf := ((reR (shL 20000 r).1).1, if (reR (shL 20000 r).1).2 = true then (shL 20000 r).2 else none)

def tailI (op : Nat) (r : Lf) : EvV × Int × Int × Lf :=
  if op = 2 then ((bodyI r).1, 0, 0, (bodyI r).2) else if op = 3 then ((wholeI r).1, 0, 0, (wholeI r).2) else if op = 4 then (noEv, ((numL r).1 : Int), ((numL (numL r).2).1 : Int), (numL (numL r).2).2) else (noEv, 0, 0, r)

def headI (l : List UInt8) : Nat × Nat × Nat × Lf := ((byteL (some l)).1, (numL (byteL (some l)).2).1, (numL (numL (byteL (some l)).2).2).1, (numL (numL (byteL (some l)).2).2).2)

def cmdI (l : List UInt8) : CmdV × Lf :=
  (⟨((headI l).1 : Int), ((headI l).2.1 : Int), ((headI l).2.2.1 : Int), (tailI (headI l).1 (headI l).2.2.2).1, (tailI (headI l).1 (headI l).2.2.2).2.1, (tailI (headI l).1 (headI l).2.2.2).2.2.1⟩, (tailI (headI l).1 (headI l).2.2.2).2.2.2)

def zeroCmd : CmdV := ⟨0, 0, 0, noEv, 0, 0⟩

def rcR (l : List UInt8) : CmdV × Bool := if (cmdI l).2 = some [] ∧ cmdOk (cmdI l).1 = true then ((cmdI l).1, true) else (zeroCmd, false)

theorem lsL_some5 {r : Lf} {q : List UInt8} (h : (lsL byteL 5 r).2 = some q) : (numL r).1 ≤ 5 ∧ lsL byteL 5 r = itL byteL (numL r).1 (numL r).2 := by
  unfold lsL at h ⊢
  by_cases c : (numL r).1 > 5
  · rw [if_pos c] at h; cases h
  · rw [if_neg c]; exact ⟨by omega, rfl⟩

theorem bodyI_text {r : Lf} {q : List UInt8} (h : (bodyI r).2 = some q) : r = some (evBody (bodyI r).1 ++ q) := by
  unfold bodyI at h ⊢
  simp only at h ⊢
  obtain ⟨k, r1, h1⟩ : ∃ a b, byteL r = (a, b) := ⟨_, _, rfl⟩
  obtain ⟨s, r2, h2⟩ : ∃ a b, byteL r1 = (a, b) := ⟨_, _, rfl⟩
  obtain ⟨u, r3, h3⟩ : ∃ a b, byteL r2 = (a, b) := ⟨_, _, rfl⟩
  obtain ⟨m, r4, h4⟩ : ∃ a b, byteL r3 = (a, b) := ⟨_, _, rfl⟩
  obtain ⟨zl, r6, h6⟩ : ∃ a b, lsL byteL 5 r4 = (a, b) := ⟨_, _, rfl⟩
  obtain ⟨tx, r7, h7⟩ : ∃ a b, shL 20000 r6 = (a, b) := ⟨_, _, rfl⟩
  simp only [h1, h2, h3, h4, h6, h7] at h ⊢
  subst h
  have e6 : r6 = some (shortB tx ++ q) := by have := shL_some (st := r6) (r := q) (by rw [h7]); rw [h7] at this; exact this
  obtain ⟨hle, hit⟩ := lsL_some5 (r := r4) (q := shortB tx ++ q) (by rw [h6]; exact e6)
  rw [hit] at h6
  exact body_text h1 h2 h3 h4 rfl h6 h7

theorem reR_text {l : List UInt8} (h : (reR l).2 = true) : evOk (reR l).1 = true ∧ evB (reR l).1 = l := by
  unfold reR at h ⊢
  cases hr : rdEvent l with
  | none => rw [hr] at h; cases h
  | some e =>
    simp only
    have ht := rdEvent_iff.1 hr
    unfold evText at ht
    split at ht
    · rename_i hok
      exact ⟨hok, Option.some.inj ht⟩
    · cases ht

theorem reR_of {e : EvV} (h : evOk e = true) : reR (evB e) = (e, true) := by
  have : rdEvent (evB e) = some e := rdEvent_iff.2 (by unfold evText; rw [if_pos h])
  unfold reR
  rw [this]

theorem wholeI_text {r : Lf} {q : List UInt8} (h : (wholeI r).2 = some q) : evOk (wholeI r).1 = true ∧ r = some (shortB (evB (wholeI r).1) ++ q) := by
  unfold wholeI at h ⊢
  simp only at h ⊢
  split at h
  · rename_i hok
    obtain ⟨h1, h2⟩ := reR_text hok
    refine ⟨h1, ?_⟩
    rw [h2]
    exact shL_some h
  · cases h

theorem tailI_text {op : Nat} {r : Lf} {q : List UInt8} (h : (tailI op r).2.2.2 = some q) (c : CmdV) (ho : c.op = op) (he : c.ev = (tailI op r).1) (hd : c.ds = (tailI op r).2.1) (hu : c.up = (tailI op r).2.2.1) : r = some (cmdTail c ++ q) := by
  unfold cmdTail
  rw [he, hd, hu, ho]
  unfold tailI at h ⊢
  by_cases c2 : op = 2
  · rw [if_pos c2] at h
    have p2 : (op : Int) = 2 := by omega
    rw [if_pos p2, if_pos c2]
    exact bodyI_text h
  · rw [if_neg c2] at h
    have n2 : ¬ ((op : Int) = 2) := by omega
    rw [if_neg n2]
    simp only [if_neg c2]
    by_cases c3 : op = 3
    · rw [if_pos c3] at h
      have p3 : (op : Int) = 3 := by omega
      rw [if_pos p3, if_pos c3]
      exact (wholeI_text h).2
    · rw [if_neg c3] at h
      have n3 : ¬ ((op : Int) = 3) := by omega
      rw [if_neg n3]
      simp only [if_neg c3]
      by_cases c4 : op = 4
      · rw [if_pos c4] at h
        have p4 : (op : Int) = 4 := by omega
        rw [if_pos p4]
        simp only [if_pos c4]
        have h2 := numL_some (st := (numL r).2) h
        have h1 := numL_some (st := r) h2
        refine h1.trans ?_
        simp [varZ]
      · rw [if_neg c4] at h
        have n4 : ¬ ((op : Int) = 4) := by omega
        rw [if_neg n4]
        simpa using h

theorem cmdI_text {l : List UInt8} (h : (cmdI l).2 = some []) : cmdB (cmdI l).1 = l := by
  have h4 := tailI_text (op := (headI l).1) (r := (headI l).2.2.2) (q := []) h (cmdI l).1 rfl rfl rfl rfl
  rw [List.append_nil] at h4
  have h3 := numL_some (st := (numL (byteL (some l)).2).2) h4
  have h2 := numL_some (st := (byteL (some l)).2) h3
  have h1 := byteL_some (st := some l) h2
  have := Option.some.inj h1
  refine Eq.trans ?_ this.symm
  simp [cmdB, cmdI, headI, varZ]

theorem bodyI_of {e : EvV} (he : bodyOk e = true) (h0 : e.id = 0) (h1 : e.depth = 0) (h2 : e.prev = []) (q : List UInt8) : bodyI (some (evBody e ++ q)) = (e, some q) := by
  have hq := he
  unfold bodyOk at hq
  simp only [Bool.and_eq_true, inR_iff] at hq
  have hlv := lvsOk_mem hq.2.2.2.1
  obtain ⟨k, r1, g1⟩ : ∃ a b, byteL (some (evBody e ++ q)) = (a, b) := ⟨_, _, rfl⟩
  obtain ⟨s, r2, g2⟩ : ∃ a b, byteL r1 = (a, b) := ⟨_, _, rfl⟩
  obtain ⟨u, r3, g3⟩ : ∃ a b, byteL r2 = (a, b) := ⟨_, _, rfl⟩
  obtain ⟨m, r4, g4⟩ : ∃ a b, byteL r3 = (a, b) := ⟨_, _, rfl⟩
  obtain ⟨nl, r5, g5⟩ : ∃ a b, numL r4 = (a, b) := ⟨_, _, rfl⟩
  obtain ⟨zl, r6, g6⟩ : ∃ a b, lsL byteL 5 r4 = (a, b) := ⟨_, _, rfl⟩
  obtain ⟨tx, r7, g7⟩ : ∃ a b, shL 20000 r6 = (a, b) := ⟨_, _, rfl⟩
  obtain ⟨e7, e1, e2, e3, e4, e5, e6⟩ := body_read he (by omega : 24 ≤ 20000) (by omega) g1 g2 g3 g4 g5 (zl := zl) (r6 := r6) (fun hn _ => by
    have hl := hlv.2
    unfold lsL at g6
    rw [g5] at g6
    simp only at g6
    rw [if_neg (by omega)] at g6
    exact g6) g7
  unfold bodyI
  simp only [g1, g2, g3, g4, g6, g7]
  obtain ⟨id, kd, sn, us, mb, lv, x, pv, dp⟩ := e
  simp only at h0 h1 h2 e1 e2 e3 e4 e5 e6
  subst h0 h1 h2 e1 e2 e3 e4 e5 e6 e7
  rfl

theorem wholeI_of {e : EvV} (he : evOk e = true) (q : List UInt8) : wholeI (some (shortB (evB e) ++ q)) = (e, some q) := by
  have hl := evB_len (evOk_in he)
  have hl2 : (evB e).length ≤ 20000 := by
    have h := evOk_in he
    have hv : ∀ z : Int, (varZ z).length ≤ 10 := fun z => varB_length _
    have hf : ∀ zs : List Int, (zs.flatMap varZ).length ≤ 10 * zs.length := fun zs => by
      induction zs with
      | nil => simp
      | cons z r ih => simp only [List.flatMap_cons, List.length_append, List.length_cons]; have := hv z; omega
    unfold evB evBody shortB
    simp only [List.length_append, List.length_cons, List.length_map]
    have h1 := hv e.id
    have h2 := varB_length e.levels.length
    have h3 := varB_length e.text.length
    have h4 := varB_length e.prev.length
    have h5 := hf e.prev
    have h6 := hv e.depth
    have := h.many
    have := h.text
    have := h.prevs
    omega
  unfold wholeI
  rw [shL_short hl2 (by omega) q]
  simp only
  rw [reR_of he]
  simp

theorem cmdI_of {c : CmdV} (h : cmdOk c = true) : cmdI (cmdB c) = (c, some []) := by
  have hh := h
  unfold cmdOk at hh
  simp only [Bool.and_eq_true, inR_iff] at hh
  obtain ⟨ho, ht, hs, hr⟩ := hh
  have hin := cmd_in h
  have hby : ((byB c.op).toNat : Int) = c.op := bz_byB (by omega)
  have g0 : byteL (some (cmdB c)) = ((byB c.op).toNat, some (varZ c.tk ++ (varZ c.sq ++ cmdTail c))) := byteL_cons ..
  have g1 : numL (some (varZ c.tk ++ (varZ c.sq ++ cmdTail c))) = (c.tk.toNat, some (varZ c.sq ++ cmdTail c)) := numL_var (n := c.tk.toNat) (by omega) _
  have g2 : numL (some (varZ c.sq ++ cmdTail c)) = (c.sq.toNat, some (cmdTail c)) := numL_var (n := c.sq.toNat) (by omega) _
  have gh : headI (cmdB c) = ((byB c.op).toNat, c.tk.toNat, c.sq.toNat, some (cmdTail c)) := by
    unfold headI
    simp only [g0, g1, g2]
  have key : tailI (byB c.op).toNat (some (cmdTail c)) = (c.ev, c.ds, c.up, some []) := by
    unfold tailI cmdTail
    unfold rightOf at hr
    by_cases c1 : c.op = 1
    · rw [if_pos c1] at hr
      unfold openOk noDest at hr
      simp only [Bool.and_eq_true, decide_eq_true_eq] at hr
      rw [if_neg (by omega), if_neg (by omega), if_neg (by omega), if_neg (by omega), if_neg (by omega), if_neg (by omega), blankE_iff.1 hr.2.2.1, hr.2.2.2.1, hr.2.2.2.2]
    · rw [if_neg c1] at hr
      by_cases c2 : c.op = 2
      · rw [if_pos c2] at hr
        unfold sendOk noDest at hr
        simp only [Bool.and_eq_true, decide_eq_true_eq] at hr
        obtain ⟨e1, e2, e3, e4, e5, e6⟩ := hr
        have hb := bodyI_of e4 e1 e2 (List.eq_nil_of_length_eq_zero e3) []
        rw [List.append_nil] at hb
        rw [if_pos (by omega), if_pos c2, hb, e5, e6]
      · rw [if_neg c2] at hr
        by_cases c3 : c.op = 3
        · rw [if_pos c3] at hr
          unfold recvOk noDest at hr
          simp only [Bool.and_eq_true, decide_eq_true_eq] at hr
          obtain ⟨e1, e2, e5, e6⟩ := hr
          have hb := wholeI_of e1 []
          rw [List.append_nil] at hb
          rw [if_neg (by omega), if_pos (by omega), if_neg (by omega), if_pos c3, hb, e5, e6]
        · rw [if_neg c3] at hr
          by_cases c4 : c.op = 4
          · rw [if_pos c4] at hr
            unfold ackdOk at hr
            simp only [Bool.and_eq_true, inR_iff] at hr
            obtain ⟨e1, e2, e3⟩ := hr
            have d1 : numL (some (varZ c.ds ++ varZ c.up)) = (c.ds.toNat, some (varZ c.up)) := numL_var (n := c.ds.toNat) (by omega) _
            have d2 : numL (some (varZ c.up ++ [])) = (c.up.toNat, some []) := numL_var (n := c.up.toNat) (by omega) _
            rw [List.append_nil] at d2
            rw [if_neg (by omega), if_neg (by omega), if_pos (by omega), if_neg (by omega), if_neg (by omega), if_pos c4]
            simp only [d1, d2, blankE_iff.1 e3]
            rw [show ((c.ds.toNat : Nat) : Int) = c.ds by omega, show ((c.up.toNat : Nat) : Int) = c.up by omega]
          · rw [if_neg c4] at hr
            unfold membOk noDest at hr
            simp only [Bool.and_eq_true, decide_eq_true_eq] at hr
            rw [if_neg (by omega), if_neg (by omega), if_neg (by omega), if_neg (by omega), if_neg (by omega), if_neg (by omega), blankE_iff.1 hr.1, hr.2.1, hr.2.2]
  unfold cmdI
  rw [gh]
  simp only [key]
  rw [hby, show ((c.tk.toNat : Nat) : Int) = c.tk by omega, show ((c.sq.toNat : Nat) : Int) = c.sq by omega]

theorem rcR_of {c : CmdV} (h : cmdOk c = true) : rcR (cmdB c) = (c, true) := by
  unfold rcR
  rw [cmdI_of h, if_pos ⟨rfl, h⟩]

theorem rcR_no {l : List UInt8} (h : ∀ c, cmdOk c = true → cmdB c ≠ l) : rcR l = (zeroCmd, false) := by
  unfold rcR
  rw [if_neg]
  rintro ⟨h1, h2⟩
  exact h _ h2 (cmdI_text h1)

end Go.Proofs.YtckkfjmjcknjdaaGreatDoor
