/-
  Walks and mathematics of RoomArg.
-/
import Derived.Test.YtckkfjmjcknjdaaSHEvsArg
import Derived.Test.YtckkfjmjcknjdaaSHStsArg
import Derived.ChangeSlices
import Derived.WideShapes
namespace Go.Proofs.Ytckkfjmjcknjdaa.P5
end Go.Proofs.Ytckkfjmjcknjdaa.P5
namespace Go.Proofs.Ytckkfjmjcknjdaa
open Go.RowKit Go.Deep Go.ChangeShapes Go.WideShapes P5 P12 K
set_option linter.unusedVariables false

structure BoolsAt (w : World) (oa : Option Addr) (n cap : Nat) (zs : List Bool) : Prop where
  len : zs.length = n
  room : n ≤ cap
  most : cap ≤ maxLen
  at_ : ∀ (i : Nat) (z : Bool), zs[i]? = some z → ∃ b o, oa = some ⟨b, o, none⟩ ∧ w.cell? ⟨b, o + i, none⟩ = some (.bool z)

theorem BoolsAt.below {w w' : World} {oa : Option Addr} {n cap : Nat} {zs : List Bool} (h : BoolsAt w oa n cap zs) (hb : Below w.heap.size w w') : BoolsAt w' oa n cap zs :=
  ⟨h.len, h.room, h.most, fun i s hs => by
    obtain ⟨b, o, h1, h2⟩ := h.at_ i s hs
    exact ⟨b, o, h1, (hb.cell (cell_lt h2)).trans h2⟩⟩

theorem boolsAt_nil (w : World) : BoolsAt w none 0 0 [] := ⟨rfl, Nat.le_refl _, by unfold maxLen; omega, fun i e he => by simp at he⟩

theorem BoolsAt.get {w : World} {oa : Option Addr} {n cap : Nat} {zs : List Bool} (h : BoolsAt w oa n cap zs) {P : Program} {t e : TypeId} (ht : P.underlying t = some (.slice e)) (hi : (P.info? e).map (·.size) = some 1) (i : Nat) (hin : i < n) :
    ∃ z b q, zs[i]? = some z ∧ (∀ wx, (Instr.indexAt t (.slice oa n cap) (.int .i64 (i : Int))).run P wx = .ok (.pointer (some ⟨b, q, none⟩)) wx) ∧ w.cell? ⟨b, q, none⟩ = some (.bool z) := by
  obtain ⟨z, hz⟩ : ∃ z, zs[i]? = some z := ⟨_, List.getElem?_eq_getElem (by rw [h.len]; exact hin)⟩
  obtain ⟨b, o, rfl, h2⟩ := h.at_ i z hz
  refine ⟨z, b, o + i, hz, fun wx => ?_, h2⟩
  have := run_indexAt_slice wx t e 1 ht hi b o n cap i hin
  rwa [Nat.mul_one] at this

section
variable {H : Type} {enc : TypeId × Value → H} {P : Program} {w : World} {base : Nat} {held : Bool}

theorem events_wide {t e tI : TypeId} {fs : Array Field} {f0 : Field} {fuel : Nat} {cs : List Value} {x : DataW H × List MemPlace} (ht : P.underlying t = some (.slice e)) (he : P.underlying e = some (.struct fs)) (hf0 : fs[0]? = some f0)
    (hI : P.underlying tI = some (.int .i64)) (t0 : f0.type = tI) (o0 : f0.offset = 0) (ce : P.cellsOf e = 9) (cI : P.cellsOf tI = 1) (h : DataW.trod enc P w base (fun _ => true) held fuel t cs = some x)
    {oa : Option Addr} {n cap : Nat} {es : List EvV} (hcs : cs = [.slice oa n cap]) (hat : EvsAt w oa n cap es) : ∀ e ∈ es, (Lit.int .i64 e.id).wf = true := by
  intro ev hev
  obtain ⟨i, hi⟩ := List.getElem?_of_mem hev
  obtain ⟨b, o, xa, xc, ya, yc, rfl, h2⟩ := hat.at_ i ev hi
  have hin : i < n := by rw [← hat.len]; exact (List.getElem?_eq_some_iff.1 hi).1
  rcases open_slice ht h with h0 | ⟨a, len, cap', m, n', D, Pl, rfl, hb, hl, hm, hmm, _, hx⟩
  · rw [h0.1] at hcs; cases hcs
  · cases hcs
    obtain ⟨cs', h3, h4⟩ := hx i (by rw [hmm]; simp; omega)
    rw [ce] at h3
    obtain ⟨_, _, hcell⟩ := World.cells?_some h3
    obtain ⟨xs, n2, _, _, hlen, hxl, hf⟩ := DataW.trod_struct he h4
    rw [ce] at hlen
    match cs', hlen with
    | [v0, v1, v2, v3, v4, v5, v6, v7, v8], _ =>
      have g0 := hf 0 f0 hf0
      obtain ⟨y, hy⟩ : ∃ y, xs[0]? = some y := ⟨_, List.getElem?_eq_getElem (by rw [hxl]; exact (Array.getElem?_eq_some_iff.1 hf0).1)⟩
      rw [hy] at g0
      simp [o0, t0, cI] at g0
      obtain ⟨k0, e0, _, m0⟩ := DataW.trod_int hI g0
      cases e0
      have h5 := hcell 0 (by omega)
      have h6 := h2.cell 0 _ rfl
      rw [add_add, Addr.add_mid] at h5
      simp only [Nat.add_zero] at h5 h6
      rw [h6] at h5
      cases h5
      exact m0

theorem open_bools {t e : TypeId} {fuel : Nat} {cs : List Value} {x : DataW H × List MemPlace} (ht : P.underlying t = some (.slice e)) (he : P.underlying e = some .bool) (ce : P.cellsOf e = 1) (h : DataW.trod enc P w base (fun _ => true) held fuel t cs = some x) :
    ∃ (oa : Option Addr) (n cap : Nat) (zs : List Bool), cs = [.slice oa n cap] ∧ BoolsAt w oa n cap zs := by
  rcases open_slice ht h with h0 | ⟨a, len, cap, m, n, D, Pl, rfl, hb, hl, hm, hmm, _, hx⟩
  · exact ⟨none, 0, 0, [], h0.1, boolsAt_nil w⟩
  · have each : ∀ i, i < len → ∃ q : Bool, w.cell? (a.add i) = some (.bool q) := by
      intro i hi
      obtain ⟨cs', h1, h2⟩ := hx i (by rw [hmm]; simp; omega)
      rw [ce] at h1
      obtain ⟨_, _, hcell⟩ := World.cells?_some h1
      obtain ⟨y, rfl, _⟩ := DataW.trod_bool he h2
      have := hcell 0 (by omega)
      rw [add_add, Nat.mul_one, Nat.add_zero] at this
      exact ⟨y, this⟩
    obtain ⟨F, hF⟩ := choose_lt each
    refine ⟨some a, len, cap, (List.range len).map F, rfl, ⟨by simp, hl, hm, fun i x hx => ?_⟩⟩
    have hi : i < len := by simpa using (List.getElem?_eq_some_iff.1 hx).1
    have hfe : F i = x := by simpa [hi] using hx
    have k1 := hF i hi
    have hsp : a.spot = none := by
      have q2 : w.cell? a = some (.bool (F 0)) := by simpa [Addr.add] using hF 0 (by omega)
      exact cell_spot q2
    obtain ⟨b, o, sp⟩ := a
    simp only at hsp
    subst hsp
    subst hfe
    rw [Addr.add_mid] at k1
    exact ⟨b, o, rfl, k1⟩

theorem open_states {t t1 e tI : TypeId} {f0 f1 : Field} {fuel : Nat} {cs : List Value} {x : DataW H × List MemPlace} (ht : P.underlying t = some (.slice t1)) (ht1 : P.underlying t1 = some (.slice e)) (he : P.underlying e = some (.struct #[f0, f1]))
    (hI : P.underlying tI = some (.int .i64)) (y0 : f0.type = tI) (y1 : f1.type = tI) (o0 : f0.offset = 0) (o1 : f1.offset = 1)
    (ce : P.cellsOf e = 2) (cI : P.cellsOf tI = 1) (ct : P.cellsOf t1 = 1) (h : DataW.trod enc P w base (fun _ => true) held fuel t cs = some x) :
    ∃ (oa : Option Addr) (n cap : Nat) (ss : List (List (Int × Int))), cs = [.slice oa n cap] ∧ StsAt w oa n cap ss ∧ ∀ s ∈ ss, ∀ y ∈ s, WideI y := by
  rcases open_slice ht h with h0 | ⟨a, len, cap, m, n, D, Pl, rfl, hb, hl, hm, hmm, _, hx⟩
  · exact ⟨none, 0, 0, [], h0.1, stsAt_nil w, fun s hs => by simp at hs⟩
  · have each : ∀ i, i < len → ∃ q : List (Int × Int) × Option Addr × Nat, w.cell? (a.add i) = some (.slice q.2.1 q.1.length q.2.2) ∧ ItemsAt w q.2.1 q.1.length q.2.2 q.1 ∧ ∀ y ∈ q.1, WideI y := by
      intro i hi
      obtain ⟨cs', h1, h2⟩ := hx i (by rw [hmm]; simp; omega)
      rw [ct] at h1
      obtain ⟨_, _, hcell⟩ := World.cells?_some h1
      obtain ⟨xa, xn, xc, s, rfl, hat, hw⟩ := open_items ht1 he hI y0 y1 o0 o1 ce cI h2
      have hlen := hat.len
      subst hlen
      have := hcell 0 (by omega)
      rw [add_add, Nat.mul_one, Nat.add_zero] at this
      exact ⟨(s, xa, xc), this, hat, hw⟩
    have : Inhabited (List (Int × Int) × Option Addr × Nat) := ⟨([], none, 0)⟩
    obtain ⟨F, hF⟩ := choose_lt each
    refine ⟨some a, len, cap, (List.range len).map fun i => (F i).1, rfl, ⟨by simp, hl, hm, fun i x hx => ?_⟩, fun s hs => ?_⟩
    · have hi : i < len := by simpa using (List.getElem?_eq_some_iff.1 hx).1
      have hfe : (F i).1 = x := by simpa [hi] using hx
      obtain ⟨k1, k2, k3⟩ := hF i hi
      have hsp : a.spot = none := by
        have q1 := (hF 0 (by omega)).1
        have q2 : w.cell? a = some (.slice (F 0).2.1 (F 0).1.length (F 0).2.2) := by simpa [Addr.add] using q1
        exact cell_spot q2
      obtain ⟨b, o, sp⟩ := a
      simp only at hsp
      subst hsp
      subst hfe
      rw [Addr.add_mid] at k1
      exact ⟨b, o, _, _, rfl, k1, k2⟩
    · obtain ⟨i, hi, rfl⟩ := List.mem_map.1 hs
      exact (hF i (by simpa using hi)).2.2
end

end Go.Proofs.Ytckkfjmjcknjdaa
