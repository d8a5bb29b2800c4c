/-
  Walks and mathematics of Comm1.
-/
import Derived.Test.YtckkfjmjcknjdaaGreatDoorRCEv4
namespace Go.Proofs.YtckkfjmjcknjdaaGreatDoor.P3
end Go.Proofs.YtckkfjmjcknjdaaGreatDoor.P3
namespace Go.Proofs.YtckkfjmjcknjdaaGreatDoor.P18
open P1 P3 P9 P11 P12
set_option linter.unusedVariables false

structure CmdV where
  op : Int
  tk : Int
  sq : Int
  ev : EvV
  ds : Int
  up : Int

def noEv : EvV := ⟨0, 0, 0, 0, 0, [], [], [], 0⟩

def blankE (e : EvV) : Bool := decide (e.id = 0) && (decide (e.kind = 0) && (decide (e.sender = 0) && (decide (e.user = 0) && (decide (e.member = 0) && (decide (e.levels.length = 0) && (decide (e.text.length = 0) && (decide (e.prev.length = 0) && decide (e.depth = 0))))))))

theorem blankE_iff {e : EvV} : blankE e = true ↔ e = noEv := by
  obtain ⟨id, kd, sn, us, mb, lv, tx, pv, dp⟩ := e
  simp [blankE, noEv]

def noDest (c : CmdV) : Bool := decide (c.ds = 0) && decide (c.up = 0)

def openOk (c : CmdV) : Bool := decide (c.tk = 0) && (decide (c.sq = 0) && (blankE c.ev && noDest c))

def sendOk (c : CmdV) : Bool := decide (c.ev.id = 0) && (decide (c.ev.depth = 0) && (decide (c.ev.prev.length = 0) && (bodyOk c.ev && noDest c)))

def recvOk (c : CmdV) : Bool := evOk c.ev && (decide (c.ev.id.tmod 2 = 1) && noDest c)

def ackdOk (c : CmdV) : Bool := inR c.ds 1 2 && (inR c.up 0 1000000 && blankE c.ev)

def membOk (c : CmdV) : Bool := blankE c.ev && noDest c

def rightOf (c : CmdV) : Bool := if c.op = 1 then openOk c else if c.op = 2 then sendOk c else if c.op = 3 then recvOk c else if c.op = 4 then ackdOk c else membOk c

def cmdOk (c : CmdV) : Bool := inR c.op 1 5 && (inR c.tk 0 1000000 && (inR c.sq 0 1000000 && rightOf c))

theorem send_place {e : EvV} (h1 : e.id = 0) (h2 : e.depth = 0) (h3 : e.prev = []) :
    evOk { e with id := 2, prev := if e.kind = 1 then [] else [1] } = bodyOk e := by
  obtain ⟨id, kd, sn, us, mb, lv, tx, pv, dp⟩ := e
  simp only at h1 h2 h3
  subst h1 h2 h3
  unfold evOk
  have hb : bodyOk (⟨2, kd, sn, us, mb, lv, tx, if kd = 1 then [] else [1], 0⟩ : EvV) = bodyOk (⟨0, kd, sn, us, mb, lv, tx, [], 0⟩ : EvV) := rfl
  simp only
  rw [hb]
  have hp : prevOk (⟨2, kd, sn, us, mb, lv, tx, if kd = 1 then [] else [1], 0⟩ : EvV) = true := by
    unfold prevOk
    by_cases c : kd = 1
    · simp [c, pvOk]
    · simp [c, pvOk, inR, after]
  rw [hp]
  simp [inR]

def cmdTail (c : CmdV) : List UInt8 := if c.op = 2 then evBody c.ev else if c.op = 3 then shortB (evB c.ev) else if c.op = 4 then varZ c.ds ++ varZ c.up else []

def cmdB (c : CmdV) : List UInt8 := byB c.op :: (varZ c.tk ++ (varZ c.sq ++ cmdTail c))

def cmdText (c : CmdV) : Option (List UInt8) := if cmdOk c = true then some (cmdB c) else none

theorem body_text {most : Nat} {st : Lf} {r : List UInt8} {k s u m nl : Nat} {r1 r2 r3 r4 r5 r6 : Lf} {zl : List Int} {tx : List UInt8}
    (h1 : byteL st = (k, r1)) (h2 : byteL r1 = (s, r2)) (h3 : byteL r2 = (u, r3)) (h4 : byteL r3 = (m, r4)) (h5 : numL r4 = (nl, r5)) (h6 : itL byteL nl r5 = (zl, r6)) (h7 : shL most r6 = (tx, some r)) :
    st = some (evBody ⟨0, k, s, u, m, zl, tx, [], 0⟩ ++ r) := by
  have e8 := shL_some (st := r6) (r := r) (by rw [h7])
  rw [h7] at e8
  have e7 := it_byte_some nl r5 _ (by rw [h6]; exact e8)
  rw [h6] at e7
  have e6 := numL_some (st := r4) (by rw [h5]; exact e7)
  rw [h5] at e6
  have e5 := byteL_some (st := r3) (by rw [h4]; exact e6)
  rw [h4] at e5
  have e4 := byteL_some (st := r2) (by rw [h3]; exact e5)
  rw [h3] at e4
  have e3 := byteL_some (st := r1) (by rw [h2]; exact e4)
  rw [h2] at e3
  have e2 := byteL_some (st := st) (by rw [h1]; exact e3)
  rw [h1] at e2
  have l1 := itL_len byteL nl r5
  rw [h6] at l1
  simp only at l1
  rw [e2]
  simp [evBody, l1]

theorem body_read {e : EvV} {r : List UInt8} (he : bodyOk e = true) {most : Nat} (hm : 24 ≤ most) (hm2 : most ≤ 1000000000) {k s u m nl : Nat} {r1 r2 r3 r4 r5 r6 r7 : Lf} {zl : List Int} {tx : List UInt8}
    (h1 : byteL (some (evBody e ++ r)) = (k, r1)) (h2 : byteL r1 = (s, r2)) (h3 : byteL r2 = (u, r3)) (h4 : byteL r3 = (m, r4)) (h5 : numL r4 = (nl, r5)) (h6 : nl = e.levels.length → (∀ j, j ≤ nl → (itL byteL j r5).2 ≠ none) → itL byteL nl r5 = (zl, r6)) (h7 : shL most r6 = (tx, r7)) :
    r7 = some r ∧ e.kind = k ∧ e.sender = s ∧ e.user = u ∧ e.member = m ∧ e.levels = zl ∧ e.text = tx := by
  unfold bodyOk at he
  simp only [Bool.and_eq_true, inR_iff] at he
  obtain ⟨k1, k2, k3, k4, k5⟩ := he
  have hmm := memOk_in k3
  have hlv := lvsOk_mem k4
  have htx := txOk_len k5
  have hby : ∀ {z : Int}, 0 ≤ z ∧ z ≤ 255 → ((byB z).toNat : Int) = z := fun h => bz_byB h
  unfold evBody at h1
  simp only [List.append_assoc, List.cons_append] at h1
  rw [byteL_cons] at h1
  cases h1
  rw [byteL_cons] at h2
  cases h2
  rw [byteL_cons] at h3
  cases h3
  rw [byteL_cons] at h4
  cases h4
  rw [numL_var (by have := hlv.2; omega)] at h5
  cases h5
  have t7 := fun j (hj : j ≤ e.levels.length) => it_byte_text j e.levels (shortB e.text ++ r) hj (fun z hz => by have := hlv.1 z hz; omega)
  have h6' := h6 rfl (fun j hj => by rw [t7 j hj]; simp)
  rw [t7 _ (Nat.le_refl _)] at h6'
  simp only [List.take_length, List.drop_length, List.map_nil, List.nil_append] at h6'
  cases h6'
  rw [shL_short (by omega) hm2] at h7
  cases h7
  refine ⟨rfl, ?_, ?_, ?_, ?_, rfl, rfl⟩ <;> rw [hby (by omega)]

theorem evB_len {e : EvV} (h : EvIn e) : (evB e).length ≤ 1000000000 := by
  have hv : ∀ z : Int, (varZ z).length ≤ 10 := fun z => by
    unfold varZ varB
    exact Nat.le_trans (varF_length 9 _) (by omega)
  have hv2 : ∀ z : Nat, (varB z).length ≤ 10 := fun z => hv z
  have hf : ∀ zs : List Int, (zs.flatMap varZ).length ≤ 10 * zs.length := fun zs => by
    induction zs with
    | nil => simp
    | cons z r ih => simp only [List.flatMap_cons, List.length_append, List.length_cons]; have := hv z; omega
  unfold evB evBody shortB
  simp only [List.length_append, List.length_cons, List.length_map]
  have h1 := hv e.id
  have h2 := hv2 e.levels.length
  have h3 := hv2 e.text.length
  have h4 := hv2 e.prev.length
  have h5 := hf e.prev
  have h6 := hv e.depth
  have := h.many
  have := h.text
  have := h.prevs
  omega

theorem cmd_in {c : CmdV} (h : cmdOk c = true) : (1 ≤ c.op ∧ c.op ≤ 5) ∧ (0 ≤ c.tk ∧ c.tk ≤ 1000000) ∧ (0 ≤ c.sq ∧ c.sq ≤ 1000000) ∧ (c.op = 2 → EvIn { c.ev with id := 2, prev := if c.ev.kind = 1 then [] else [1] }) ∧ (c.op = 3 → evOk c.ev = true) ∧ (c.op = 4 → (1 ≤ c.ds ∧ c.ds ≤ 2) ∧ (0 ≤ c.up ∧ c.up ≤ 1000000)) := by
  unfold cmdOk at h
  simp only [Bool.and_eq_true, inR_iff] at h
  obtain ⟨h1, h2, h3, h4⟩ := h
  refine ⟨h1, h2, h3, fun o => ?_, fun o => ?_, fun o => ?_⟩
  · unfold rightOf at h4
    rw [if_neg (by omega), if_pos o] at h4
    unfold sendOk at h4
    simp only [Bool.and_eq_true, decide_eq_true_eq] at h4
    obtain ⟨e1, e2, e3, e4, _⟩ := h4
    have hp := send_place e1 e2 (List.eq_nil_of_length_eq_zero e3)
    rw [e4] at hp
    exact evOk_in hp
  · unfold rightOf at h4
    rw [if_neg (by omega), if_neg (by omega), if_pos o] at h4
    unfold recvOk at h4
    simp only [Bool.and_eq_true] at h4
    exact h4.1
  · unfold rightOf at h4
    rw [if_neg (by omega), if_neg (by omega), if_neg (by omega), if_pos o] at h4
    unfold ackdOk at h4
    simp only [Bool.and_eq_true, inR_iff] at h4
    exact ⟨h4.1, h4.2.1⟩

theorem cmdTail_no {c : CmdV} (h2 : c.op ≠ 2) (h3 : c.op ≠ 3) (h4 : c.op ≠ 4) : cmdTail c = [] := by
  unfold cmdTail
  rw [if_neg h2, if_neg h3, if_neg h4]

end Go.Proofs.YtckkfjmjcknjdaaGreatDoor.P18
