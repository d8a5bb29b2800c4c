/-
  Walks and mathematics of Text9.
-/
import Derived.Test.YtckkfjmjcknjdaaGreatDoorRCText8
import Derived.Test.YtckkfjmjcknjdaaGreatDoorRCText7
import Derived.Test.YtckkfjmjcknjdaaGreatDoorRCText3
import Derived.Test.YtckkfjmjcknjdaaGreatDoorRCWalk9q
namespace Go.Proofs.YtckkfjmjcknjdaaGreatDoor.P3
end Go.Proofs.YtckkfjmjcknjdaaGreatDoor.P3
namespace Go.Proofs.YtckkfjmjcknjdaaGreatDoor
open Go.RowKit P1 P3 P9 P11 P12 P18 K
set_option linter.unusedVariables false
set_option linter.unusedSimpArgs false
attribute [local go_sem ↓] Go.wp_at_zero Go.wp_at_succ

def SpRd (l : List UInt8) (x : CmdV) (r : Lf) : Prop := ∀ c, cmdOk c = true → cmdB c = l → x = c ∧ r = some []

theorem SpRd.yes {l : List UInt8} {x : CmdV} (h : cmdText x = some l) : rcR l = (x, true) := by
  unfold cmdText at h
  split at h
  · rename_i hok
    have := Option.some.inj h
    rw [← this]
    exact rcR_of hok
  · cases h

theorem SpRd.no {l : List UInt8} {x : CmdV} {r : Lf} (h : SpRd l x r) (hn : ¬ (r ≠ none ∧ cmdText x = some l)) : rcR l = (zeroCmd, false) := by
  apply rcR_no
  intro c hok hc
  obtain ⟨rfl, rfl⟩ := h c hok hc
  apply hn
  refine ⟨by simp, ?_⟩
  unfold cmdText
  rw [if_pos hok, hc]

theorem head_of {c : CmdV} (h : cmdOk c = true) {op tk sq : Nat} {r1 r2 r3 : Lf} (h1 : byteL (some (cmdB c)) = (op, r1)) (h2 : numL r1 = (tk, r2)) (h3 : numL r2 = (sq, r3)) :
    (op : Int) = c.op ∧ (tk : Int) = c.tk ∧ (sq : Int) = c.sq ∧ r3 = some (cmdTail c) := by
  obtain ⟨ho, ht, hs, _⟩ := cmd_in h
  have hby : ((byB c.op).toNat : Int) = c.op := bz_byB (by omega)
  have g0 : byteL (some (cmdB c)) = ((byB c.op).toNat, some (varZ c.tk ++ (varZ c.sq ++ cmdTail c))) := byteL_cons ..
  have g1 : numL (some (varZ c.tk ++ (varZ c.sq ++ cmdTail c))) = (c.tk.toNat, some (varZ c.sq ++ cmdTail c)) := numL_var (n := c.tk.toNat) (by omega) _
  have g2 : numL (some (varZ c.sq ++ cmdTail c)) = (c.sq.toNat, some (cmdTail c)) := numL_var (n := c.sq.toNat) (by omega) _
  rw [g0] at h1
  cases h1
  rw [g1] at h2
  cases h2
  rw [g2] at h3
  cases h3
  exact ⟨hby, by omega, by omega, rfl⟩

theorem cmd_rest {c : CmdV} (h : cmdOk c = true) : (c.op = 2 → sendOk c = true) ∧ (c.op = 3 → recvOk c = true) ∧ (c.op = 4 → ackdOk c = true) ∧ (c.op ≠ 2 → c.op ≠ 3 → c.op ≠ 4 → blankE c.ev = true ∧ noDest c = true) := by
  unfold cmdOk at h
  simp only [Bool.and_eq_true, inR_iff] at h
  obtain ⟨h1, h2, h3, h4⟩ := h
  unfold rightOf at h4
  refine ⟨fun o => ?_, fun o => ?_, fun o => ?_, fun o2 o3 o4 => ?_⟩
  · rwa [if_neg (by omega), if_pos o] at h4
  · rwa [if_neg (by omega), if_neg (by omega), if_pos o] at h4
  · rwa [if_neg (by omega), if_neg (by omega), if_neg (by omega), if_pos o] at h4
  · by_cases c1 : c.op = 1
    · rw [if_pos c1] at h4
      unfold openOk at h4
      simp only [Bool.and_eq_true] at h4
      exact h4.2.2
    · rw [if_neg c1, if_neg o2, if_neg o3, if_neg o4] at h4
      unfold membOk at h4
      simp only [Bool.and_eq_true] at h4
      exact h4

theorem spRd_2 {l : List UInt8} {tk sq : Nat} {r1 r2 r3 q1 q2 q3 q4 q5 : Lf} {k sn u m nl J : Nat} (h1 : byteL (some l) = (2, r1)) (h2 : numL r1 = (tk, r2)) (h3 : numL r2 = (sq, r3))
    (g1 : byteL r3 = (k, q1)) (g2 : byteL q1 = (sn, q2)) (g3 : byteL q2 = (u, q3)) (g4 : byteL q3 = (m, q4)) (g5 : numL q4 = (nl, q5)) (hJ : Stops byteL nl q5 J) :
    SpRd l ⟨2, tk, sq, ⟨0, k, sn, u, m, (itL byteL J q5).1, (shL 1048576 (itL byteL J q5).2).1, [], 0⟩, 0, 0⟩ (shL 1048576 (itL byteL J q5).2).2 := by
  intro c hok hc
  subst hc
  obtain ⟨e1, e2, e3, e4⟩ := head_of hok h1 h2 h3
  have hs := (cmd_rest hok).1 (by omega)
  unfold sendOk noDest at hs
  simp only [Bool.and_eq_true, decide_eq_true_eq] at hs
  obtain ⟨s1, s2, s3, s4, s5, s6⟩ := hs
  have s3' := List.eq_nil_of_length_eq_zero s3
  have ht : cmdTail c = evBody c.ev ++ [] := by
    unfold cmdTail
    rw [if_pos (by omega), List.append_nil]
  rw [e4, ht] at g1
  have hq := s4
  unfold bodyOk at hq
  simp only [Bool.and_eq_true, inR_iff] at hq
  have hlv := lvsOk_mem hq.2.2.2.1
  obtain ⟨zl, q6, g6⟩ : ∃ a b, itL byteL J q5 = (a, b) := ⟨_, _, rfl⟩
  obtain ⟨tx, q7, g7⟩ : ∃ a b, shL 1048576 q6 = (a, b) := ⟨_, _, rfl⟩
  obtain ⟨e7, f1, f2, f3, f4, f5, f6⟩ := body_read s4 (by omega : 24 ≤ 1048576) (by omega) g1 g2 g3 g4 g5 (zl := zl) (r6 := q6) (fun hn hall => by
    have hl := hlv.2
    have hJn : J = nl := by
      rcases hJ.2.2 with j3 | j3 | j3
      · exact j3
      · have := hJ.1; omega
      · exact absurd j3 (hall J hJ.1)
    rw [← hJn]
    exact g6) g7
  simp only [g6, g7]
  obtain ⟨op, ctk, csq, ⟨id, kd, ssn, us, mb, lv, x, pv, dp⟩, ds, up⟩ := c
  simp only at e1 e2 e3 s1 s2 s3' s5 s6 f1 f2 f3 f4 f5 f6
  subst s1 s2 s3' s5 s6 f1 f2 f3 f4 f5 f6
  exact ⟨by rw [← e1, ← e2, ← e3]; rfl, e7⟩

theorem spRd_3 {l : List UInt8} {tk sq : Nat} {r1 r2 r3 : Lf} (h1 : byteL (some l) = (3, r1)) (h2 : numL r1 = (tk, r2)) (h3 : numL r2 = (sq, r3)) :
    SpRd l ⟨3, tk, sq, (reR (shL 1048576 r3).1).1, 0, 0⟩ (shL 1048576 r3).2 := by
  intro c hok hc
  subst hc
  obtain ⟨e1, e2, e3, e4⟩ := head_of hok h1 h2 h3
  have hs := (cmd_rest hok).2.1 (by omega)
  unfold recvOk noDest at hs
  simp only [Bool.and_eq_true, decide_eq_true_eq] at hs
  obtain ⟨s4, s1, s5, s6⟩ := hs
  have ht : cmdTail c = shortB (evB c.ev) ++ [] := by
    unfold cmdTail
    rw [if_neg (by omega), if_pos (by omega), List.append_nil]
  have hl := evB_small (evOk_in s4)
  rw [e4, ht, shL_short (by omega) (by omega) []]
  simp only
  rw [reR_of s4]
  obtain ⟨op, ctk, csq, ev, ds, up⟩ := c
  simp only at e1 e2 e3 s5 s6
  subst s5 s6
  exact ⟨by rw [← e1, ← e2, ← e3]; rfl, by simp⟩

theorem spRd_4 {l : List UInt8} {tk sq d t : Nat} {r1 r2 r3 q1 q2 : Lf} (h1 : byteL (some l) = (4, r1)) (h2 : numL r1 = (tk, r2)) (h3 : numL r2 = (sq, r3)) (g1 : numL r3 = (d, q1)) (g2 : numL q1 = (t, q2)) :
    SpRd l ⟨4, tk, sq, noEv, d, t⟩ q2 := by
  intro c hok hc
  subst hc
  obtain ⟨e1, e2, e3, e4⟩ := head_of hok h1 h2 h3
  have hs := (cmd_rest hok).2.2.1 (by omega)
  unfold ackdOk at hs
  simp only [Bool.and_eq_true, inR_iff] at hs
  obtain ⟨s1, s2, s3⟩ := hs
  have ht : cmdTail c = varZ c.ds ++ (varZ c.up ++ []) := by
    unfold cmdTail
    rw [if_neg (by omega), if_neg (by omega), if_pos (by omega), List.append_nil]
  have d1 : numL (some (varZ c.ds ++ (varZ c.up ++ []))) = (c.ds.toNat, some (varZ c.up ++ [])) := numL_var (n := c.ds.toNat) (by omega) _
  have d2 : numL (some (varZ c.up ++ [])) = (c.up.toNat, some []) := numL_var (n := c.up.toNat) (by omega) _
  rw [e4, ht, d1] at g1
  cases g1
  rw [d2] at g2
  cases g2
  have s3' := blankE_iff.1 s3
  obtain ⟨op, ctk, csq, ev, ds, up⟩ := c
  simp only at e1 e2 e3 s1 s2 s3'
  subst s3'
  refine ⟨?_, rfl⟩
  rw [← e1, ← e2, ← e3]
  simp only
  rw [show ((ds.toNat : Nat) : Int) = ds by omega, show ((up.toNat : Nat) : Int) = up by omega]
  rfl

theorem spRd_o {l : List UInt8} {op tk sq : Nat} {r1 r2 r3 : Lf} (o2 : op ≠ 2) (o3 : op ≠ 3) (o4 : op ≠ 4) (h1 : byteL (some l) = (op, r1)) (h2 : numL r1 = (tk, r2)) (h3 : numL r2 = (sq, r3)) :
    SpRd l ⟨op, tk, sq, noEv, 0, 0⟩ r3 := by
  intro c hok hc
  subst hc
  obtain ⟨e1, e2, e3, e4⟩ := head_of hok h1 h2 h3
  obtain ⟨s1, s2⟩ := (cmd_rest hok).2.2.2 (by omega) (by omega) (by omega)
  unfold noDest at s2
  simp only [Bool.and_eq_true, decide_eq_true_eq] at s2
  have ht := cmdTail_no (c := c) (by omega) (by omega) (by omega)
  have s3' := blankE_iff.1 s1
  rw [e4, ht]
  obtain ⟨op, ctk, csq, ev, ds, up⟩ := c
  obtain ⟨s5, s6⟩ := s2
  simp only at e1 e2 e3 s3' s5 s6
  subst s3' s5 s6
  exact ⟨by rw [← e1, ← e2, ← e3], rfl⟩

structure CmS (w W : World) (g E : Nat) (s : ByteArray) (r : Lf) (cs : Array Value) : Prop where
  c : RdL W g s r
  x : XS E cs 31 W
  z : XS w.heap.size #[.int .i64 0, .int .i64 0, .int .i64 0, .int .i64 0, .int .i64 0, .int .i64 0, .int .i64 0, .int .i64 0, .slice none 0 0, .string ⟨#[]⟩, .slice none 0 0, .int .i64 0, .int .i64 0, .int .i64 0] 31 W
  low : Below w.heap.size w W
  hg : w.heap.size < g
  hE : g < E

theorem CmS.step {w W W' : World} {g E : Nat} {s : ByteArray} {r r' : Lf} {cs : Array Value} (h : CmS w W g E s r cs) (hc : RdL W' g s r') (hg : W.grownBy W' (some g)) : CmS w W' g E s r' cs :=
  ⟨hc, h.x.kept hg (fun q => by have := Option.some.inj q; have := h.hE; omega), h.z.kept hg (fun q => by have := Option.some.inj q; have := h.hg; omega), h.low.grown hg h.low.size (fun j hj => by cases hj; have := h.hg; omega), h.hg, h.hE⟩

theorem CmS.put {w W W' : World} {g E : Nat} {s : ByteArray} {r : Lf} {cs cs' : Array Value} (h : CmS w W g E s r cs) (hx : XS E cs' 31 W') (hg : W.grownBy W' (some E)) : CmS w W' g E s r cs' :=
  ⟨h.c.kept (hg.block g h.c.lt (fun q => by have := Option.some.inj q; have := h.hE; omega)), hx, h.z.kept hg (fun q => by have := Option.some.inj q; have := h.hg; have := h.hE; omega), h.low.grown hg h.low.size (fun j hj => by cases hj; have := h.hg; have := h.hE; omega), h.hg, h.hE⟩

theorem CmS.on {w W W' : World} {g E : Nat} {s : ByteArray} {r : Lf} {cs : Array Value} (h : CmS w W g E s r cs) (hb : Below W.heap.size W W') : CmS w W' g E s r cs :=
  ⟨h.c.kept (hb.block g h.c.lt), h.x.on hb, h.z.on hb, h.low.trans (hb.mono h.low.size), h.hg, h.hE⟩

theorem CmS.body {w W W' : World} {g E : Nat} {s : ByteArray} {r r' : Lf} {cs cs' : Array Value} (h : CmS w W g E s r cs) (hc : RdL W' g s r') (hx : XS E cs' 31 W') (hg : Grown2 W W' g E) : CmS w W' g E s r' cs' := by
  have h1 := h.hg
  have h2 := h.hE
  have h3 := h.low.size
  refine ⟨hc, hx, (hg.block _ h.z.lt (by omega) (by omega)).trans h.z, ⟨hg.os.trans h.low.os, hg.tape.trans h.low.tape, hg.output.trans h.low.output, Nat.le_trans h3 hg.size, fun j hj => (hg.block j (by omega) (by omega) (by omega)).trans (h.low.block j hj)⟩, h1, h2⟩

end Go.Proofs.YtckkfjmjcknjdaaGreatDoor
