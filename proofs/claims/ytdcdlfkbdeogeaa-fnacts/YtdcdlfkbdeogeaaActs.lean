/-
  Acts in memory: an act's cells; a slice of acts, where it lies; acts that came in as arguments.
-/
import Derived.Test.YtdcdlfkbdeogeaaPack13
import Derived.Deep.Slices
import Derived.ChangeSame
import Derived.WideShapes
namespace Go.Proofs.Ytdcdlfkbdeogeaa
open Go.RowKit Go.Deep Go.ChangeShapes Go.WideShapes P5 K
set_option linter.unusedVariables false

def acells (a : ActV) : List Value := [.int .i64 a.kind, .string ⟨a.name.toArray⟩, .string ⟨a.text.toArray⟩, .string ⟨a.to.toArray⟩]
theorem acells_length (a : ActV) : (acells a).length = 4 := rfl

def ActWide (a : ActV) : Prop := a.name.length ≤ maxLen ∧ a.text.length ≤ maxLen ∧ a.to.length ≤ maxLen ∧ (Lit.int .i64 a.kind).wf = true

/-- A slice of acts that reads as fs. -/
structure ActsAt (w : World) (oa : Option Addr) (n cap : Nat) (fs : List ActV) : Prop where
  len : fs.length = n
  room : n ≤ cap
  most : cap ≤ maxLen
  at_ : ∀ (i : Nat) (f : ActV), fs[i]? = some f → ∃ b o, oa = some ⟨b, o, none⟩ ∧ ∀ (j : Nat) u, (acells f)[j]? = some u → w.cell? ⟨b, o + i * 4 + j, none⟩ = some u

theorem ActsAt.below {w w' : World} {oa : Option Addr} {n cap : Nat} {fs : List ActV} (h : ActsAt w oa n cap fs) (hb : Below w.heap.size w w') : ActsAt w' oa n cap fs :=
  ⟨h.len, h.room, h.most, fun i f hf => by
    obtain ⟨b, o, ha, hc⟩ := h.at_ i f hf
    refine ⟨b, o, ha, fun j u hu => ?_⟩
    have h1 := hc j u hu
    rw [hb.cell (cell_lt h1)]
    exact h1⟩

theorem ActsAt.get {w : World} {oa : Option Addr} {n cap : Nat} {fs : List ActV} (h : ActsAt w oa n cap fs) {P : Program} {t e : TypeId} (ht : P.underlying t = some (.slice e)) (hi : (P.info? e).map (·.size) = some 4) (i : Nat) (hin : i < n) :
    ∃ f b q, fs[i]? = some f ∧ (∀ wx, (Instr.indexAt t (.slice oa n cap) (.int .i64 (i : Int))).run P wx = .ok (.pointer (some ⟨b, q, none⟩)) wx) ∧ b < w.heap.size ∧
      w.cell? ⟨b, q, none⟩ = some (.int .i64 f.kind) ∧ w.cell? ⟨b, q + 1, none⟩ = some (.string ⟨f.name.toArray⟩) ∧ w.cell? ⟨b, q + 2, none⟩ = some (.string ⟨f.text.toArray⟩) ∧ w.cell? ⟨b, q + 3, none⟩ = some (.string ⟨f.to.toArray⟩) := by
  obtain ⟨f, hf⟩ : ∃ f, fs[i]? = some f := ⟨_, List.getElem?_eq_getElem (by rw [h.len]; exact hin)⟩
  obtain ⟨b, o, rfl, hc⟩ := h.at_ i f hf
  refine ⟨f, b, o + i * 4, hf, fun wx => run_indexAt_slice wx t e 4 ht hi b o n cap i hin, ?_, hc 0 _ rfl, hc 1 _ rfl, hc 2 _ rfl, hc 3 _ rfl⟩
  exact cell_lt (hc 0 _ rfl)

/-- The first k of them. -/
theorem ActsAt.take {w : World} {oa : Option Addr} {n cap : Nat} {fs : List ActV} (h : ActsAt w oa n cap fs) {k : Nat} (hk : k ≤ n) : ActsAt w oa k cap (fs.take k) :=
  ⟨by rw [List.length_take, h.len]; omega, Nat.le_trans hk h.room, h.most, fun i f hf => by
    have hi : i < k := by have := (List.getElem?_eq_some_iff.1 hf).1; rw [List.length_take] at this; omega
    rw [List.getElem?_take_of_lt hi] at hf
    exact h.at_ i f hf⟩

/-- A row of acts that the call owns, as a slice of acts. -/
theorem actsAt_of_own {w : World} {base : Nat} {e : TypeId} {v : Value} {n : Nat} {fs : List ActV} (h : w.ownsRow base e 4 v n (fs.flatMap acells)) :
    ∃ oa cap, v = .slice oa n cap ∧ ActsAt w oa n cap fs := by
  have hlen : fs.length = n := by
    have := h.1
    rw [flat_length acells 4 acells_length] at this
    omega
  rcases h.2 with ⟨rfl, rfl⟩ | ⟨g, cap, cur, rfl, hb, hg, hnc, hcm, hcs, htake⟩
  · have : fs = [] := List.eq_nil_of_length_eq_zero hlen
    subst this
    exact ⟨none, 0, rfl, ⟨rfl, Nat.le_refl _, by unfold maxLen; omega, fun i f hf => by simp at hf⟩⟩
  · refine ⟨some ⟨g, 0, none⟩, cap, rfl, ⟨hlen, hnc, hcm, fun i f hf => ⟨g, 0, rfl, fun j u hu => ?_⟩⟩⟩
    have hi : i < fs.length := (List.getElem?_eq_some_iff.1 hf).1
    have hfe : fs[i] = f := (List.getElem?_eq_some_iff.1 hf).2
    have hj : j < 4 := by simpa [acells] using (List.getElem?_eq_some_iff.1 hu).1
    have h3 := flat_get acells 4 acells_length fs i j hi hj
    rw [hfe, hu] at h3
    rw [Nat.zero_add]
    rw [h.cellAt (i * 4 + j) (by omega), h3]

section
variable {H : Type} {enc : TypeId × Value → H} {P : Program} {w : World} {base : Nat} {spare : Nat → Bool} {held : Bool}

/-- One struct of a number and three texts. -/
theorem act_of_trod {e tS tI : TypeId} {f0 f1 f2 f3 : Field} {fuel : Nat} {cs : List Value} {x : DataW H × List MemPlace} (he : P.underlying e = some (.struct #[f0, f1, f2, f3]))
    (hS : P.underlying tS = some .string) (hI : P.underlying tI = some (.int .i64)) (t0 : f0.type = tI) (t1 : f1.type = tS) (t2 : f2.type = tS) (t3 : f3.type = tS) (o0 : f0.offset = 0) (o1 : f1.offset = 1) (o2 : f2.offset = 2) (o3 : f3.offset = 3)
    (ce : P.cellsOf e = 4) (cS : P.cellsOf tS = 1) (cI : P.cellsOf tI = 1) (h : DataW.trod enc P w base spare held fuel e cs = some x) :
    ∃ f : ActV, cs = acells f ∧ ActWide f := by
  obtain ⟨xs, n, _, _, hlen, hxl, hf⟩ := DataW.trod_struct he h
  rw [ce] at hlen
  match xs, hxl, cs, hlen with
  | [y0, y1, y2, y3], _, [v0, v1, v2, v3], _ =>
    have g0 := hf 0 f0 rfl
    have g1 := hf 1 f1 rfl
    have g2 := hf 2 f2 rfl
    have g3 := hf 3 f3 rfl
    simp [o0, o1, o2, o3, t0, t1, t2, t3, cS, cI] at g0 g1 g2 g3
    obtain ⟨k, e0, _, m0⟩ := DataW.trod_int hI g0
    obtain ⟨s1, e1, _, m1⟩ := DataW.trod_string hS g1
    obtain ⟨s2, e2, _, m2⟩ := DataW.trod_string hS g2
    obtain ⟨s3, e3, _, m3⟩ := DataW.trod_string hS g3
    cases e0; cases e1; cases e2; cases e3
    exact ⟨⟨k, s1.data.toList, s2.data.toList, s3.data.toList⟩, rfl, m1, m2, m3, m0⟩

/-- A slice of such structs that came in. -/
theorem open_acts {t e tS tI : TypeId} {f0 f1 f2 f3 : Field} {fuel : Nat} {cs : List Value} {x : DataW H × List MemPlace} (ht : P.underlying t = some (.slice e)) (he : P.underlying e = some (.struct #[f0, f1, f2, f3]))
    (hS : P.underlying tS = some .string) (hI : P.underlying tI = some (.int .i64)) (t0 : f0.type = tI) (t1 : f1.type = tS) (t2 : f2.type = tS) (t3 : f3.type = tS) (o0 : f0.offset = 0) (o1 : f1.offset = 1) (o2 : f2.offset = 2) (o3 : f3.offset = 3)
    (ce : P.cellsOf e = 4) (cS : P.cellsOf tS = 1) (cI : P.cellsOf tI = 1) (h : DataW.trod enc P w base (fun _ => true) held fuel t cs = some x) :
    cs = [.slice none 0 0] ∨ ∃ (a : Addr) (len cap : Nat) (F : Nat → ActV), cs = [.slice (some a) len cap] ∧ len ≤ cap ∧ cap ≤ maxLen ∧
      ∀ i, i < len → (∀ j, j < 4 → w.cell? (a.add (i * 4 + j)) = (acells (F i))[j]?) ∧ ActWide (F i) := by
  rcases open_slice ht h with h0 | ⟨a, len, cap, m, n, D, Pl, rfl, hb, hl, hm, hmm, _, hx⟩
  · exact Or.inl h0.1
  · right
    have each : ∀ i, i < len → ∃ f : ActV, (∀ j, j < 4 → w.cell? (a.add (i * 4 + j)) = (acells f)[j]?) ∧ ActWide f := by
      intro i hi
      obtain ⟨cs', h1, h2⟩ := hx i (by rw [hmm]; simp; omega)
      rw [ce] at h1
      obtain ⟨_, _, hcell⟩ := World.cells?_some h1
      obtain ⟨f, rfl, b1⟩ := act_of_trod he hS hI t0 t1 t2 t3 o0 o1 o2 o3 ce cS cI h2
      exact ⟨f, fun j hj => by rw [← add_add]; exact hcell j hj, b1⟩
    have : Inhabited ActV := ⟨⟨0, [], [], []⟩⟩
    obtain ⟨F, hF⟩ := choose_lt each
    exact ⟨a, len, cap, F, rfl, hl, hm, hF⟩

theorem actsAt_of_fn {a : Addr} {len cap : Nat} {F : Nat → ActV} (hl : len ≤ cap) (hm : cap ≤ maxLen)
    (h : ∀ i, i < len → (∀ j, j < 4 → w.cell? (a.add (i * 4 + j)) = (acells (F i))[j]?) ∧ ActWide (F i)) :
    ActsAt w (some a) len cap ((List.range len).map F) ∧ ∀ f ∈ (List.range len).map F, ActWide f := by
  refine ⟨⟨by simp, hl, hm, fun i f hf => ?_⟩, fun f hf => ?_⟩
  · have hi : i < len := by simpa using (List.getElem?_eq_some_iff.1 hf).1
    have hfe : F i = f := by simpa [hi] using hf
    subst hfe
    have hsp : a.spot = none := by
      have h1 := (h 0 (by omega)).1 0 (by omega)
      have h2 : w.cell? a = some (.int .i64 (F 0).kind) := by simpa [Addr.add, acells] using h1
      exact cell_spot h2
    obtain ⟨b, o, s⟩ := a
    simp only at hsp
    subst hsp
    refine ⟨b, o, rfl, fun j u hu => ?_⟩
    have hj : j < 4 := by simpa [acells] using (List.getElem?_eq_some_iff.1 hu).1
    have h1 := (h i hi).1 j hj
    rw [Addr.add_mid, hu] at h1
    rw [Nat.add_assoc]
    exact h1
  · obtain ⟨i, hi, rfl⟩ := List.mem_map.1 hf
    exact (h i (by simpa using hi)).2
end

end Go.Proofs.Ytdcdlfkbdeogeaa
