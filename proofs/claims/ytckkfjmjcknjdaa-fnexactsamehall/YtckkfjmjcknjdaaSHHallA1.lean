/-
  Walks and mathematics of HallA1.
-/
import Derived.Test.YtckkfjmjcknjdaaSHSess1
import Derived.Test.YtckkfjmjcknjdaaSHOuts2
import Derived.Test.YtckkfjmjcknjdaaSHOpenEvent
namespace Go.Proofs.Ytckkfjmjcknjdaa.P1
end Go.Proofs.Ytckkfjmjcknjdaa.P1
namespace Go.Proofs.Ytckkfjmjcknjdaa.P11
end Go.Proofs.Ytckkfjmjcknjdaa.P11
namespace Go.Proofs.Ytckkfjmjcknjdaa.P14
end Go.Proofs.Ytckkfjmjcknjdaa.P14
namespace Go.Proofs.Ytckkfjmjcknjdaa.P3
end Go.Proofs.Ytckkfjmjcknjdaa.P3
namespace Go.Proofs.Ytckkfjmjcknjdaa.P5
end Go.Proofs.Ytckkfjmjcknjdaa.P5
namespace Go.Proofs.Ytckkfjmjcknjdaa
open Go.RowKit Go.Deep Go.ChangeShapes Go.WideShapes P1 P3 P5 P9 P11 P12 P14 K
set_option linter.unusedVariables false
set_option linter.unusedSimpArgs false

section
variable {H : Type} {enc : TypeId × Value → H} {W : World}

theorem ints_trod {fuel : Nat} {cs : List Value} {x : DataW H × List MemPlace} (h : DataW.trod enc Try.prog W 0 (fun _ => true) true fuel 46 cs = some x) :
    ∃ (oa : Option Addr) (n cap : Nat) (zs : List Int), cs = [.slice oa n cap] ∧ IntsAt W oa n cap zs := by
  rcases open_ints Try.underlying46 Try.underlying3 (by kernel_rfl) h with ⟨hcs, _⟩ | ⟨x, l, c, zs, hcs, _, hl, hm, hz, _, hcell, hwz⟩
  · exact ⟨none, 0, 0, [], hcs, ints_nil W⟩
  · exact ⟨some x, l, c, zs.take l, hcs, ints_of hl hm (by simpa using hz) hcell hwz⟩

set_option maxRecDepth 100000 in
theorem out_trod {fuel : Nat} {cs : List Value} {x : DataW H × List MemPlace} (h : DataW.trod enc Try.prog W 0 (fun _ => true) true fuel 80 cs = some x) :
    ∃ (r : OutR) (zs : List Int), cs = ocells r ∧ r.n = zs.length ∧ IntsAt W r.oa r.n r.cap zs := by
  have ce : Try.prog.cellsOf 80 = 3 := by kernel_rfl
  obtain ⟨xs, n, _, _, hlen, hxl, hff⟩ := DataW.trod_struct Try.underlying80 h
  rw [ce] at hlen
  obtain ⟨v0, v1, v2, rfl⟩ : ∃ a b c, cs = [a, b, c] := by
    match cs, hlen with
    | [a, b, c], _ => exact ⟨a, b, c, rfl⟩
  have g0 := hff 0 _ rfl
  have g1 := hff 1 _ rfl
  have g2 := hff 2 _ rfl
  have cI : Try.prog.cellsOf 3 = 1 := by kernel_rfl
  have cL : Try.prog.cellsOf 46 = 1 := by kernel_rfl
  match xs, hxl with
  | [y0, y1, y2], _ =>
    simp [cI, cL] at g0 g1 g2
    obtain ⟨k0, e0, _, m0⟩ := DataW.trod_int Try.underlying3 g0
    obtain ⟨k1, e1, _, m1⟩ := DataW.trod_int Try.underlying3 g1
    obtain ⟨oa, n, cap, zs, e2, hat⟩ := ints_trod g2
    cases e0; cases e1; cases e2
    exact ⟨⟨k0, k1, oa, n, cap⟩, zs, rfl, hat.len.symm, hat⟩

theorem open_outs {fuel : Nat} {cs : List Value} {x : DataW H × List MemPlace} (h : DataW.trod enc Try.prog W 0 (fun _ => true) true fuel 40 cs = some x) :
    ∃ (oa : Option Addr) (n cap : Nat) (os : List OutX), cs = [.slice oa n cap] ∧ OutsAt W oa n cap os ∧ ∀ x ∈ os, ∀ z ∈ x.ids, (Lit.int .i64 z).wf = true := by
  have ce : Try.prog.cellsOf 80 = 3 := by kernel_rfl
  rcases open_slice Try.underlying40 h with h0 | ⟨a, len, cap, m, n, D, Pl, rfl, hb, hl, hm, hmm, _, hx⟩
  · exact ⟨none, 0, 0, [], h0.1, ⟨rfl, [], RowsAt.nil W none 0 (by unfold maxLen; omega), fun i r x hr => by simp at hr⟩, fun s hs => by simp at hs⟩
  · have each : ∀ i, i < len → ∃ q : OutR × List Int, (∀ j, j < 3 → W.cell? (a.add (i * 3 + j)) = (ocells q.1)[j]?) ∧ q.1.n = q.2.length ∧ IntsAt W q.1.oa q.1.n q.1.cap q.2 := by
      intro i hi
      obtain ⟨cs', h1, h2⟩ := hx i (by rw [hmm]; simp; omega)
      rw [ce] at h1
      obtain ⟨_, _, hcell⟩ := World.cells?_some h1
      obtain ⟨r, zs, rfl, hn, hat⟩ := out_trod h2
      refine ⟨(r, zs), fun j hj => ?_, hn, hat⟩
      have := hcell j (by omega)
      rw [add_add] at this
      exact this
    have : Inhabited (OutR × List Int) := ⟨(⟨0, 0, none, 0, 0⟩, [])⟩
    obtain ⟨F, hF⟩ := choose_lt each
    have hsp : 0 < len → a.spot = none := fun h0 => by
      have q1 := (hF 0 h0).1 0 (by omega)
      have q2 : W.cell? a = some (.int .i64 (F 0).1.d) := by simpa [Addr.add, ocells] using q1
      exact cell_spot q2
    refine ⟨some a, len, cap, (List.range len).map fun i => ⟨(F i).1.d, (F i).1.a, (F i).2⟩, rfl, ⟨by simp, (List.range len).map fun i => (F i).1, ⟨by simp, hl, hm, fun i r hr => ?_⟩, fun i r x hr hx => ?_⟩, fun s hs => ?_⟩
    · have hi : i < len := by simpa using (List.getElem?_eq_some_iff.1 hr).1
      have hfe : (F i).1 = r := by simpa [hi] using hr
      obtain ⟨k1, _, _⟩ := hF i hi
      have hs := hsp (by omega)
      obtain ⟨b, o, sp⟩ := a
      simp only at hs
      subst hs
      subst hfe
      refine ⟨b, o, rfl, fun j u hu => ?_⟩
      have hj : j < 3 := by have := (List.getElem?_eq_some_iff.1 hu).1; simpa [ocells_length] using this
      have := k1 j hj
      rw [Addr.add_mid, hu] at this
      rw [← this, Nat.add_assoc]
    · have hi : i < len := by simpa using (List.getElem?_eq_some_iff.1 hr).1
      have hfe : (F i).1 = r := by simpa [hi] using hr
      have hxe : (⟨(F i).1.d, (F i).1.a, (F i).2⟩ : OutX) = x := by simpa [hi] using hx
      obtain ⟨_, k2, k3⟩ := hF i hi
      subst hfe hxe
      exact ⟨rfl, rfl, k2, k3⟩
    · obtain ⟨i, hi, rfl⟩ := List.mem_map.1 hs
      exact (hF i (by simpa using hi)).2.2.fits

theorem open_sessions {fuel : Nat} {cs : List Value} {x : DataW H × List MemPlace} (h : DataW.trod enc Try.prog W 0 (fun _ => true) true fuel 35 cs = some x) :
    ∃ (oa : Option Addr) (n cap : Nat) (ps : List SesV), cs = [.slice oa n cap] ∧ SessAt W oa n cap ps ∧ ∀ f ∈ ps, SesWide f := by
  rcases open_sess (tS := 9) (tI := 3) Try.underlying35 Try.underlying76 Try.underlying9 Try.underlying3 rfl rfl rfl rfl rfl rfl (by kernel_rfl) (by kernel_rfl) (by kernel_rfl) h with h0 | ⟨a, len, cap, F, rfl, hl, hm, hF⟩
  · exact ⟨none, 0, 0, [], h0, RowsAt.nil W none 0 (by unfold maxLen; omega), fun f hf => by simp at hf⟩
  · obtain ⟨h1, h2⟩ := sessAt_of_fn hl hm hF
    exact ⟨some a, len, cap, _, rfl, h1, h2⟩

theorem room_trod {fuel : Nat} {c0 c1 c2 : Value} {x : DataW H × List MemPlace} (h : DataW.trod enc Try.prog W 0 (fun _ => true) true fuel 39 [c0, c1, c2] = some x) :
    ∃ (oa : Option Addr) (n cap : Nat) (es : List EvV) (so : Option Addr) (sn sc : Nat) (ss : List (List (Int × Int))) (go : Option Addr) (gn gc : Nat) (gs : List Bool), c0 = .slice oa n cap ∧ c1 = .slice so sn sc ∧ c2 = .slice go gn gc ∧ EvsAt W oa n cap es ∧ (∀ e ∈ es, (Lit.int .i64 e.id).wf = true) ∧ StsAt W so sn sc ss ∧ (∀ s ∈ ss, ∀ y ∈ s, WideI y) ∧ BoolsAt W go gn gc gs := by
  obtain ⟨xs, n, _, _, _, hxl, hff⟩ := DataW.trod_struct Try.underlying39 h
  have k1 : Try.prog.cellsOf 36 = 1 := by kernel_rfl
  have k2 : Try.prog.cellsOf 37 = 1 := by kernel_rfl
  have k3 : Try.prog.cellsOf 25 = 1 := by kernel_rfl
  have g0 := hff 0 _ rfl
  have g1 := hff 1 _ rfl
  have g2 := hff 2 _ rfl
  match xs, hxl with
  | [y0, y1, y2], _ =>
    simp [k1, k2, k3] at g0 g1 g2
    obtain ⟨oa, n0, cap0, es, e0, hev⟩ := open_events (tS := 9) (tI := 3) (tL := 46) Try.underlying36 Try.underlying96 Try.underlying9 Try.underlying3 Try.underlying46 rfl rfl rfl rfl rfl rfl rfl rfl rfl rfl rfl rfl rfl rfl rfl rfl rfl rfl (by kernel_rfl) (by kernel_rfl) (by kernel_rfl) (by kernel_rfl) g0
    obtain ⟨so, sn, sc, ss, e1, hst, hsw⟩ := open_states (tI := 3) Try.underlying37 Try.underlying98 Try.underlying109 Try.underlying3 rfl rfl rfl rfl (by kernel_rfl) (by kernel_rfl) (by kernel_rfl) g1
    obtain ⟨go, gn, gc, gs, e2, hgs⟩ := open_bools Try.underlying25 Try.underlying4 (by kernel_rfl) g2
    have hwd := events_wide (tI := 3) Try.underlying36 Try.underlying96 rfl Try.underlying3 rfl rfl (by kernel_rfl) (by kernel_rfl) g0 e0 hev
    cases e0; cases e1; cases e2
    exact ⟨_, _, _, es, _, _, _, ss, _, _, _, gs, rfl, rfl, rfl, hev, hwd, hst, hsw, hgs⟩
end

abbrev hallv (pa : Option Addr) (pn pc : Nat) (oa : Option Addr) (n cap : Nat) (so : Option Addr) (sn sc : Nat) (go : Option Addr) (gn gc : Nat) (qa : Option Addr) (qn qc : Nat) : Value := .agg #[.slice pa pn pc, .slice oa n cap, .slice so sn sc, .slice go gn gc, .slice qa qn qc]

structure HallAt (w : World) (pa : Option Addr) (pn pc : Nat) (oa : Option Addr) (n cap : Nat) (so : Option Addr) (sn sc : Nat) (go : Option Addr) (gn gc : Nat) (qa : Option Addr) (qn qc : Nat) (ps : List SesV) (es : List EvV) (ss : List (List (Int × Int))) (gs : List Bool) (os : List OutX) : Prop where
  p : SessAt w pa pn pc ps
  e : EvsAt w oa n cap es
  s : StsAt w so sn sc ss
  g : BoolsAt w go gn gc gs
  o : OutsAt w qa qn qc os

theorem HallAt.below {w w' : World} {pa : Option Addr} {pn pc : Nat} {oa : Option Addr} {n cap : Nat} {so : Option Addr} {sn sc : Nat} {go : Option Addr} {gn gc : Nat} {qa : Option Addr} {qn qc : Nat} {ps : List SesV} {es : List EvV} {ss : List (List (Int × Int))} {gs : List Bool} {os : List OutX} (h : HallAt w pa pn pc oa n cap so sn sc go gn gc qa qn qc ps es ss gs os) (hb : Below w.heap.size w w') : HallAt w' pa pn pc oa n cap so sn sc go gn gc qa qn qc ps es ss gs os :=
  ⟨h.p.below hb, h.e.below hb, h.s.below hb, h.g.below hb, h.o.below hb⟩

structure HallWide (ps : List SesV) (es : List EvV) (ss : List (List (Int × Int))) (os : List OutX) : Prop where
  p : ∀ f ∈ ps, SesWide f
  e : ∀ e ∈ es, (Lit.int .i64 e.id).wf = true
  s : ∀ s ∈ ss, ∀ y ∈ s, WideI y
  o : ∀ x ∈ os, ∀ z ∈ x.ids, (Lit.int .i64 z).wf = true

set_option maxRecDepth 100000 in
theorem hall_in {H : Type} {enc : TypeId × Value → H} {W : World} {r : Reach} {b0 : Nat} {v : Value} {d : DataW H} {p : List MemPlace} (hv : Value.okWide Try.prog W r b0 42 v) (h : DataW.Trod enc Try.prog W 0 (fun _ => true) true 42 v d p) :
    ∃ (pa : Option Addr) (pn pc : Nat) (oa : Option Addr) (n cap : Nat) (so : Option Addr) (sn sc : Nat) (go : Option Addr) (gn gc : Nat) (qa : Option Addr) (qn qc : Nat) (ps : List SesV) (es : List EvV) (ss : List (List (Int × Int))) (gs : List Bool) (os : List OutX), v = hallv pa pn pc oa n cap so sn sc go gn gc qa qn qc ∧ HallAt W pa pn pc oa n cap so sn sc go gn gc qa qn qc ps es ss gs os ∧ HallWide ps es ss os := by
  have hD := Try.underlying42
  obtain ⟨cs, rfl, hsz⟩ := okWide_struct hD hv
  have cD : Try.prog.cellsOf 42 = 5 := by kernel_rfl
  have k1 : Try.prog.cellsOf 35 = 1 := by kernel_rfl
  have k2 : Try.prog.cellsOf 39 = 3 := by kernel_rfl
  have k3 : Try.prog.cellsOf 40 = 1 := by kernel_rfl
  rw [cD] at hsz
  obtain ⟨c0, c1, c2, c3, c4, rfl⟩ : ∃ a b c d e, cs = #[a, b, c, d, e] := by
    obtain ⟨l⟩ := cs
    match l, hsz with
    | [a, b, c, d, e], _ => exact ⟨a, b, c, d, e, rfl⟩
  obtain ⟨fuel, hf⟩ := h
  obtain ⟨xs, n, _, _, _, hxl, hff⟩ := DataW.trod_struct hD hf
  have g0 := hff 0 _ rfl
  have g1 := hff 1 _ rfl
  have g2 := hff 2 _ rfl
  match xs, hxl with
  | [y0, y1, y2], _ =>
    simp [k1, k2, k3, Value.cells] at g0 g1 g2
    obtain ⟨pa, pn, pc, ps, e0, hps, hpw⟩ := open_sessions g0
    obtain ⟨oa, n, cap, es, so, sn, sc, ss, go, gn, gc, gs, e1, e2, e3, hev, hwd, hst, hsw, hgs⟩ := room_trod g1
    obtain ⟨qa, qn, qc, os, e4, hos, how⟩ := open_outs g2
    cases e0; cases e1; cases e2; cases e3; cases e4
    exact ⟨_, _, _, _, _, _, _, _, _, _, _, _, _, _, _, ps, es, ss, gs, os, rfl, ⟨hps, hev, hst, hgs, hos⟩, ⟨hpw, hwd, hsw, how⟩⟩

end Go.Proofs.Ytckkfjmjcknjdaa
