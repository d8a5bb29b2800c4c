/-
  Walks and mathematics of Comm1.
-/
import Derived.Test.YtckkfjmjcknjdaaGreatDoorCTEv4
namespace Go.Proofs.YtckkfjmjcknjdaaGreatDoor.P3
end Go.Proofs.YtckkfjmjcknjdaaGreatDoor.P3
namespace Go.Proofs.YtckkfjmjcknjdaaGreatDoor.P18
open P1 P3 P9 P11 P12
set_option linter.unusedVariables false

structure CmdV where
  op : Int
  tk : Int
  sq : Int
  ev : EvV
  ds : Int
  up : Int

def noEv : EvV := ⟨0, 0, 0, 0, 0, [], [], [], 0⟩

def blankE (e : EvV) : Bool := decide (e.id = 0) && (decide (e.kind = 0) && (decide (e.sender = 0) && (decide (e.user = 0) && (decide (e.member = 0) && (decide (e.levels.length = 0) && (decide (e.text.length = 0) && (decide (e.prev.length = 0) && decide (e.depth = 0))))))))

theorem blankE_iff {e : EvV} : blankE e = true ↔ e = noEv := by
  obtain ⟨id, kd, sn, us, mb, lv, tx, pv, dp⟩ := e
  simp [blankE, noEv]

def noDest (c : CmdV) : Bool := decide (c.ds = 0) && decide (c.up = 0)

def openOk (c : CmdV) : Bool := decide (c.tk = 0) && (decide (c.sq = 0) && (blankE c.ev && noDest c))

def sendOk (c : CmdV) : Bool := decide (c.ev.id = 0) && (decide (c.ev.depth = 0) && (decide (c.ev.prev.length = 0) && (bodyOk c.ev && noDest c)))

def recvOk (c : CmdV) : Bool := evOk c.ev && (decide (c.ev.id.tmod 2 = 1) && noDest c)

def ackdOk (c : CmdV) : Bool := inR c.ds 1 2 && (inR c.up 0 1000000 && blankE c.ev)

def membOk (c : CmdV) : Bool := blankE c.ev && noDest c

def rightOf (c : CmdV) : Bool := if c.op = 1 then openOk c else if c.op = 2 then sendOk c else if c.op = 3 then recvOk c else if c.op = 4 then ackdOk c else membOk c

def cmdOk (c : CmdV) : Bool := inR c.op 1 5 && (inR c.tk 0 1000000 && (inR c.sq 0 1000000 && rightOf c))

theorem send_place {e : EvV} (h1 : e.id = 0) (h2 : e.depth = 0) (h3 : e.prev = []) :
    evOk { e with id := 2, prev := if e.kind = 1 then [] else [1] } = bodyOk e := by
  obtain ⟨id, kd, sn, us, mb, lv, tx, pv, dp⟩ := e
  simp only at h1 h2 h3
  subst h1 h2 h3
  unfold evOk
  have hb : bodyOk (⟨2, kd, sn, us, mb, lv, tx, if kd = 1 then [] else [1], 0⟩ : EvV) = bodyOk (⟨0, kd, sn, us, mb, lv, tx, [], 0⟩ : EvV) := rfl
  simp only
  rw [hb]
  have hp : prevOk (⟨2, kd, sn, us, mb, lv, tx, if kd = 1 then [] else [1], 0⟩ : EvV) = true := by
    unfold prevOk
    by_cases c : kd = 1
    · simp [c, pvOk]
    · simp [c, pvOk, inR, after]
  rw [hp]
  simp [inR]

def cmdTail (c : CmdV) : List UInt8 := if c.op = 2 then evBody c.ev else if c.op = 3 then shortB (evB c.ev) else if c.op = 4 then varZ c.ds ++ varZ c.up else []

def cmdB (c : CmdV) : List UInt8 := byB c.op :: (varZ c.tk ++ (varZ c.sq ++ cmdTail c))

def cmdText (c : CmdV) : Option (List UInt8) := if cmdOk c = true then some (cmdB c) else none

theorem cmd_in {c : CmdV} (h : cmdOk c = true) : (1 ≤ c.op ∧ c.op ≤ 5) ∧ (0 ≤ c.tk ∧ c.tk ≤ 1000000) ∧ (0 ≤ c.sq ∧ c.sq ≤ 1000000) ∧ (c.op = 2 → EvIn { c.ev with id := 2, prev := if c.ev.kind = 1 then [] else [1] }) ∧ (c.op = 3 → evOk c.ev = true) ∧ (c.op = 4 → (1 ≤ c.ds ∧ c.ds ≤ 2) ∧ (0 ≤ c.up ∧ c.up ≤ 1000000)) := by
  unfold cmdOk at h
  simp only [Bool.and_eq_true, inR_iff] at h
  obtain ⟨h1, h2, h3, h4⟩ := h
  refine ⟨h1, h2, h3, fun o => ?_, fun o => ?_, fun o => ?_⟩
  · unfold rightOf at h4
    rw [if_neg (by omega), if_pos o] at h4
    unfold sendOk at h4
    simp only [Bool.and_eq_true, decide_eq_true_eq] at h4
    obtain ⟨e1, e2, e3, e4, _⟩ := h4
    have hp := send_place e1 e2 (List.eq_nil_of_length_eq_zero e3)
    rw [e4] at hp
    exact evOk_in hp
  · unfold rightOf at h4
    rw [if_neg (by omega), if_neg (by omega), if_pos o] at h4
    unfold recvOk at h4
    simp only [Bool.and_eq_true] at h4
    exact h4.1
  · unfold rightOf at h4
    rw [if_neg (by omega), if_neg (by omega), if_neg (by omega), if_pos o] at h4
    unfold ackdOk at h4
    simp only [Bool.and_eq_true, inR_iff] at h4
    exact ⟨h4.1, h4.2.1⟩

theorem cmd_cat (c : CmdV) : (([] ++ [c.op].map byB) ++ [c.tk, c.sq].flatMap varZ) ++ cmdTail c = cmdB c := by
  simp [cmdB]

theorem cmdTail_no {c : CmdV} (h2 : c.op ≠ 2) (h3 : c.op ≠ 3) (h4 : c.op ≠ 4) : cmdTail c = [] := by
  unfold cmdTail
  rw [if_neg h2, if_neg h3, if_neg h4]

end Go.Proofs.YtckkfjmjcknjdaaGreatDoor.P18
