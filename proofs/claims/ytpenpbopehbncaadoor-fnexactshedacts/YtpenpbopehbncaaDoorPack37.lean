/-
  What the laws of chapter 8 keep in memory: a disk or a snapshot that came in, a disk's copy, rows of acts.
  The table of halves as the rows list it.
  A disk that came in as an argument: a slice of files somewhere in memory.
-/
import Derived.Test.YtpenpbopehbncaaDoorPack25
import Derived.Test.YtpenpbopehbncaaDoorWalk8i
import Derived.Test.YtpenpbopehbncaaDoorActK
import Derived.Test.YtpenpbopehbncaaDoorPack19
import Derived.Test.YtpenpbopehbncaaDoorPack9
import Derived.LaidSub
import Derived.Stop.Joined
import Derived.LaidMore
import Derived.Test.YtpenpbopehbncaaDoorWalk3a
import Derived.WideShapes
namespace Go.Proofs.YtpenpbopehbncaaDoor
open Go.RowKit P1 P3 P5 P9 P11 K
set_option linter.unusedVariables false
set_option linter.unusedSimpArgs false

theorem own_apart8 {w : World} {b1 b2 : Nat} {e1 e2 : TypeId} {k1 k2 : Nat} {v1 v2 : Value} {n1 n2 : Nat} {xs1 xs2 : List Value} (h1 : w.ownsRow b1 e1 k1 v1 n1 xs1) (h2 : w.ownsRow b2 e2 k2 v2 n2 xs2) (hne : e1 ≠ e2) : ∀ g, v1.ownBlock = some g → v2.ownBlock ≠ some g := by
  intro g hg1 hg2
  rcases h1.2 with ⟨rfl, -⟩ | ⟨g1, c1, u1, rfl, -, hb1, -⟩
  · cases hg1
  · cases hg1
    rcases h2.2 with ⟨rfl, -⟩ | ⟨g2, c2, u2, rfl, -, hb2, -⟩
    · cases hg2
    · cases hg2
      rw [hb1] at hb2
      cases hb2
      exact hne rfl
theorem own_stays8 {w w' : World} {b1 b2 : Nat} {e1 e2 : TypeId} {k1 k2 : Nat} {v1 v2 : Value} {n1 n2 : Nat} {xs1 xs2 : List Value} (h1 : w.ownsRow b1 e1 k1 v1 n1 xs1) (h2 : w.ownsRow b2 e2 k2 v2 n2 xs2) (hne : e1 ≠ e2) (hg : w.grownBy w' v2.ownBlock) : w'.ownsRow b1 e1 k1 v1 n1 xs1 := by
  refine h1.kept hg ?_
  cases hv : v1.ownBlock with
  | none => exact Or.inl rfl
  | some g => exact Or.inr (fun e => own_apart8 h1 h2 hne g hv e.symm)

/-- A block of one type stays where a row of another type is written. -/
theorem blk_row8 {w w' : World} {b : Nat} {cs : Array Value} {ty : TypeId} {base2 : Nat} {e2 : TypeId} {k2 : Nat} {v2 : Value} {n2 : Nat} {xs2 : List Value} (h : w.heap[b]? = some (.cells cs ty (0, 0))) (ho : w.ownsRow base2 e2 k2 v2 n2 xs2) (hne : e2 ≠ ty) (hg : w.grownBy w' v2.ownBlock) : w'.heap[b]? = some (.cells cs ty (0, 0)) := by
  refine (hg.block b (blk_lt h) (fun e1 => ?_)).trans h
  rcases ho.2 with ⟨rfl, -⟩ | ⟨g, cap, cur, rfl, -, hgb, -⟩
  · cases e1
  · cases e1
    rw [hgb] at h
    cases h
    exact hne rfl

/-- A disk that came in, in its variable. -/
def LD8 (w : World) (b : Nat) (x : Value) : Prop := w.heap[b]? = some (.cells #[x] 40 (0, 0))
theorem LD8.lt {w : World} {b : Nat} {x : Value} (h : LD8 w b x) : b < w.heap.size := blk_lt h
theorem LD8.on {w w' : World} {b : Nat} {x : Value} (h : LD8 w b x) (hb : Below w.heap.size w w') : LD8 w' b x := (hb.block b h.lt).trans h
theorem LD8.cell {w : World} {b : Nat} {x : Value} (h : LD8 w b x) : w.cell? ⟨b, 0, none⟩ = some x := blk_cell h 0 rfl
theorem LD8.row {w w' : World} {b : Nat} {x : Value} {base2 : Nat} {e2 : TypeId} {k2 : Nat} {v2 : Value} {n2 : Nat} {xs2 : List Value} (h : LD8 w b x) (ho : w.ownsRow base2 e2 k2 v2 n2 xs2) (hne : e2 ≠ 40) (hg : w.grownBy w' v2.ownBlock) : LD8 w' b x := blk_row8 h ho hne hg

/-- A snapshot that came in, in its variable. -/
def LS8 (w : World) (b : Nat) (i t : Int) (x : Value) (s : List UInt8) : Prop := w.heap[b]? = some (.cells (sncells i t x s) 26 (0, 0))
theorem LS8.lt {w : World} {b : Nat} {i t : Int} {x : Value} {s : List UInt8} (h : LS8 w b i t x s) : b < w.heap.size := blk_lt h
theorem LS8.on {w w' : World} {b : Nat} {i t : Int} {x : Value} {s : List UInt8} (h : LS8 w b i t x s) (hb : Below w.heap.size w w') : LS8 w' b i t x s := (hb.block b h.lt).trans h
theorem LS8.sv {w : World} {b : Nat} {i t : Int} {x : Value} {s : List UInt8} (h : LS8 w b i t x s) : SV w b i t x s := ⟨blk_cell h 0 rfl, blk_cell h 1 rfl, blk_cell h 2 rfl, blk_cell h 3 rfl⟩
theorem LS8.row {w w' : World} {b : Nat} {i t : Int} {x : Value} {s : List UInt8} {base2 : Nat} {e2 : TypeId} {k2 : Nat} {v2 : Value} {n2 : Nat} {xs2 : List Value} (h : LS8 w b i t x s) (ho : w.ownsRow base2 e2 k2 v2 n2 xs2) (hne : e2 ≠ 26) (hg : w.grownBy w' v2.ownBlock) : LS8 w' b i t x s := blk_row8 h ho hne hg

theorem DV8.new (w : World) (x : Value) : DV8 (w.alloc (.cells #[x] 47)) w.heap.size x := heap_alloc_new _ _
theorem DV8.on' {w w' : World} {b : Nat} {x : Value} (h : DV8 w b x) (hb : Below w.heap.size w w') : DV8 w' b x := h.on hb h.lt
theorem DV8.row {w w' : World} {b : Nat} {x : Value} {base2 : Nat} {e2 : TypeId} {k2 : Nat} {v2 : Value} {n2 : Nat} {xs2 : List Value} (h : DV8 w b x) (ho : w.ownsRow base2 e2 k2 v2 n2 xs2) (hne : e2 ≠ 47) (hg : w.grownBy w' v2.ownBlock) : DV8 w' b x := blk_row8 h ho hne hg

section
variable {w w' : World} {b base top : Nat} {i t : Int} {v : Value} {s : List UInt8} {m : Nat} {zs : List Int}
/-- A row of another type written leaves a snapshot and its row. -/
theorem KS.row {base2 : Nat} {e2 : TypeId} {k2 : Nat} {v2 : Value} {n2 : Nat} {xs2 : List Value} (h : KS w b base top i t v s m zs) (ho : w.ownsRow base2 e2 k2 v2 n2 xs2) (h1 : e2 ≠ 30) (h2 : 3 ≠ e2) (hg : w.grownBy w' v2.ownBlock) : KS w' b base top i t v s m zs :=
  h.kept ho h1 hg (own_apart8 h.own ho h2)
end

/-- A row of acts, from block 'base' on, ahead of block 'top'. -/
structure AR (w : World) (base top : Nat) (va : Value) (ma : Nat) (aa : List ActV) : Prop where
  own : w.ownsRow base 79 4 va ma (aa.flatMap akc)
  up : ∀ g, va.ownBlock = some g → base ≤ g ∧ g < top
section
variable {w w' : World} {base top : Nat} {va : Value} {ma : Nat} {aa : List ActV}
theorem AR.new (h : w.ownsRow base 79 4 va ma (aa.flatMap akc)) : AR w base w.heap.size va ma aa := ⟨h, h.lt⟩
theorem AR.on (h : AR w base top va ma aa) (hb : Below w.heap.size w w') : AR w' base top va ma aa := ⟨own_below h.own hb, h.up⟩
theorem AR.row {base2 : Nat} {e2 : TypeId} {k2 : Nat} {v2 : Value} {n2 : Nat} {xs2 : List Value} (h : AR w base top va ma aa) (ho : w.ownsRow base2 e2 k2 v2 n2 xs2) (hne : 79 ≠ e2) (hg : w.grownBy w' v2.ownBlock) : AR w' base top va ma aa := ⟨own_stays8 h.own ho hne hg, h.up⟩
theorem AR.other {base2 top2 : Nat} {va2 : Value} {ma2 : Nat} {aa2 : List ActV} (h : AR w base top va ma aa) (h2 : AR w base2 top2 va2 ma2 aa2) (hle : top ≤ base2) (hg : w.grownBy w' va2.ownBlock) : AR w' base top va ma aa := by
  refine ⟨h.own.kept hg ?_, h.up⟩
  cases hv : va.ownBlock with
  | none => exact Or.inl rfl
  | some g =>
    refine Or.inr (fun e => ?_)
    have k1 := h.up g hv
    have k2 := h2.up g e.symm
    omega
theorem AR.marked (h : AR w base top va ma aa) {bs : List ActV} (ho : w'.ownsRow base 79 4 va ma (bs.flatMap akc)) : AR w' base top va ma bs := ⟨ho, h.up⟩
end

theorem nw_small (fs : List FileV) : (nwR fs).2.2.1.length ≤ 4 ∧ ∀ z ∈ (nwR fs).2.2.1, (Lit.int .i64 z).wf = true := by
  unfold nwR
  split
  · cases h : snNewest fs with
    | none => exact ⟨by simp, by simp⟩
    | some s =>
      have hk := (newest_conf h).1
      refine ⟨(confOk_len hk).2, fun y hy => ?_⟩
      obtain ⟨h1, h2⟩ := confOk_mem hk y hy
      exact wf_small (by omega) (by omega)
  · exact ⟨by simp, by simp⟩

end Go.Proofs.YtpenpbopehbncaaDoor

namespace Go.Proofs.YtpenpbopehbncaaDoor
open Go.RowKit P1 K P3
set_option linter.unusedVariables false

theorem sums_of_laid {row : List (String × DataW Unit)} {w : World} (e : row.filter (fun x => x.1 == "loop.example/g00127/impl.sumHalves") = [("loop.example/g00127/impl.sumHalves", Lib.tabData .u32 sumTab)]) (h : laidMetH Tryd.prog row w) : SumTabIs w := by
  have h1 := laidMetH.filter (fun x => x.1 == "loop.example/g00127/impl.sumHalves") h
  rw [e, MakeChecks.laidMetH_plain _ _ _ (by kernel_rfl)] at h1
  exact Lib.tabIs_of_head (rest := []) (g := 0) (by kernel_rfl) (t := 135) (by kernel_rfl) Tryd.underlying135 Tryd.underlying95 (by kernel_rfl) (by kernel_rfl) h1

end Go.Proofs.YtpenpbopehbncaaDoor

namespace Go.Proofs.YtpenpbopehbncaaDoor
open Go.RowKit Go.Deep Go.ChangeShapes Go.WideShapes P5 K
set_option linter.unusedVariables false

section
variable {H : Type} {enc : TypeId × Value → H} {P : Program} {w : World} {base : Nat} {spare : Nat → Bool} {held : Bool}

theorem open_agg1 {r : Reach} {b0 : Nat} {t : TypeId} {f0 : Field} {v : Value} {d : DataW H} {p : List MemPlace} (hs : P.underlying t = some (.struct #[f0])) (o0 : f0.offset = 0) (k0 : P.cellsOf f0.type = 1) (hC : P.cellsOf t = 1)
    (hv : Value.okWide P w r b0 t v) (h : DataW.Trod enc P w base spare held t v d p) :
    ∃ (v0 : Value) (y0 : DataW H × List MemPlace) (n : Nat), v = .agg #[v0] ∧ DataW.trod enc P w base spare held n f0.type [v0] = some y0 := by
  obtain ⟨cs, rfl, hsz⟩ := okWide_struct hs hv
  rw [hC] at hsz
  obtain ⟨c0, rfl⟩ : ∃ c, cs = #[c] := by
    obtain ⟨l⟩ := cs
    match l, hsz with
    | [c], _ => exact ⟨c, rfl⟩
  obtain ⟨fuel, hf⟩ := h
  obtain ⟨xs, n, _, _, _, hxl, hff⟩ := DataW.trod_struct hs hf
  have h0 := hff 0 f0 rfl
  match xs, hxl with
  | [y], _ =>
    simp [o0, k0, Value.cells] at h0
    exact ⟨c0, y, n, rfl, h0⟩

/-- Files that came in, at every index, as a list. -/
theorem filesAt_of_fn {a : Addr} {len cap : Nat} {F : Nat → FileV} (hl : len ≤ cap) (hm : cap ≤ maxLen)
    (h : ∀ i, i < len → (∀ j, j < 3 → w.cell? (a.add (i * 3 + j)) = (fcells (F i))[j]?) ∧ (F i).name.length ≤ maxLen ∧ (F i).text.length ≤ maxLen ∧ (Lit.int .i64 (F i).kept).wf = true) :
    FilesAt w (some a) len cap ((List.range len).map F) ∧ ∀ f ∈ (List.range len).map F, Wide f := by
  refine ⟨⟨by simp, hl, hm, fun i f hf => ?_⟩, fun f hf => ?_⟩
  · have hi : i < len := by simpa using (List.getElem?_eq_some_iff.1 hf).1
    have hfe : F i = f := by simpa [hi] using hf
    subst hfe
    have hsp : a.spot = none := by
      have h1 := (h 0 (by omega)).1 0 (by omega)
      have h2 : w.cell? a = some (.string ⟨(F 0).name.toArray⟩) := by simpa [Addr.add, fcells] using h1
      exact cell_spot h2
    obtain ⟨b, o, s⟩ := a
    simp only at hsp
    subst hsp
    refine ⟨b, o, rfl, fun j u hu => ?_⟩
    have hj : j < 3 := by simpa [fcells] using (List.getElem?_eq_some_iff.1 hu).1
    have h1 := (h i hi).1 j hj
    rw [Addr.add_mid, hu] at h1
    rw [Nat.add_assoc]
    exact h1
  · obtain ⟨i, hi, rfl⟩ := List.mem_map.1 hf
    exact (h i (by simpa using hi)).2

theorem open_disk {r : Reach} {b0 : Nat} {tD t e tS tI : TypeId} {fD f0 f1 f2 : Field} {v : Value} {d : DataW H} {p : List MemPlace} (hD : P.underlying tD = some (.struct #[fD])) (oD : fD.offset = 0) (yD : fD.type = t) (kD : P.cellsOf t = 1) (cD : P.cellsOf tD = 1)
    (ht : P.underlying t = some (.slice e)) (he : P.underlying e = some (.struct #[f0, f1, f2])) (hS : P.underlying tS = some .string) (hI : P.underlying tI = some (.int .i64)) (t0 : f0.type = tS) (t1 : f1.type = tS) (t2 : f2.type = tI) (o0 : f0.offset = 0) (o1 : f1.offset = 1) (o2 : f2.offset = 2)
    (ce : P.cellsOf e = 3) (cS : P.cellsOf tS = 1) (cI : P.cellsOf tI = 1) (hv : Value.okWide P w r b0 tD v) (h : DataW.Trod enc P w base (fun _ => true) held tD v d p) :
    ∃ (oa : Option Addr) (n cap : Nat) (fs : List FileV), v = .agg #[.slice oa n cap] ∧ FilesAt w oa n cap fs ∧ ∀ f ∈ fs, Wide f := by
  obtain ⟨v0, y0, n, rfl, h0⟩ := open_agg1 hD oD (yD ▸ kD) cD hv h
  rw [yD] at h0
  rcases open_files ht he hS hI t0 t1 t2 o0 o1 o2 ce cS cI h0 with h1 | ⟨a, len, cap, F, h1, hl, hm, hF⟩
  · cases h1
    exact ⟨none, 0, 0, [], rfl, ⟨rfl, Nat.le_refl _, by unfold maxLen; omega, fun i f hf => by simp at hf⟩, fun f hf => by simp at hf⟩
  · cases h1
    obtain ⟨h2, h3⟩ := filesAt_of_fn hl hm hF
    exact ⟨some a, len, cap, _, rfl, h2, h3⟩
end

set_option maxRecDepth 100000 in
/-- At this translation. -/
theorem disk_in {H : Type} {enc : TypeId × Value → H} {W : World} {r : Reach} {b0 : Nat} {v : Value} {d : DataW H} {p : List MemPlace} (hv : Value.okWide Tryd.prog W r b0 40 v) (h : DataW.Trod enc Tryd.prog W 0 (fun _ => true) true 40 v d p) :
    ∃ (oa : Option Addr) (n cap : Nat) (fs : List FileV), v = .agg #[.slice oa n cap] ∧ FilesAt W oa n cap fs ∧ ∀ f ∈ fs, Wide f :=
  open_disk (tD := 40) (t := 38) (e := 109) (tS := 9) (tI := 3) Tryd.underlying40 rfl rfl (by kernel_rfl) (by kernel_rfl) Tryd.underlying38 Tryd.underlying109 Tryd.underlying9 Tryd.underlying3 rfl rfl rfl rfl rfl rfl (by kernel_rfl) (by kernel_rfl) (by kernel_rfl) hv h

end Go.Proofs.YtpenpbopehbncaaDoor
