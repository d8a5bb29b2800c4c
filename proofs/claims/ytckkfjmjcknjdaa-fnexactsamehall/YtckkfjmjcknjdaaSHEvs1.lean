/-
  Walks and mathematics of Evs1.
-/
import Derived.Test.YtckkfjmjcknjdaaSHEvsArg
import Derived.Test.YtckkfjmjcknjdaaSHEv5
import Derived.Test.YtckkfjmjcknjdaaRows
import Derived.Test.YtckkfjmjcknjdaaSHKit
import Derived.Lib.ItoaNum
import Derived.Lib.ItoaMem
import Derived.Lib.ItoaLen
import Derived.WalkSmall
import Derived.Deep.RegionHeld3
import Derived.Deep.QuietTactic
import Derived.BigQuiet
import Derived.Test.YtckkfjmjcknjdaaSHApart
import Derived.Test.YtckkfjmjcknjdaaSHPlain9
namespace Go.Proofs.Ytckkfjmjcknjdaa.P1
end Go.Proofs.Ytckkfjmjcknjdaa.P1
namespace Go.Proofs.Ytckkfjmjcknjdaa.P11
end Go.Proofs.Ytckkfjmjcknjdaa.P11
namespace Go.Proofs.Ytckkfjmjcknjdaa.P14
end Go.Proofs.Ytckkfjmjcknjdaa.P14
namespace Go.Proofs.Ytckkfjmjcknjdaa.P3
end Go.Proofs.Ytckkfjmjcknjdaa.P3
namespace Go.Proofs.Ytckkfjmjcknjdaa.P5
end Go.Proofs.Ytckkfjmjcknjdaa.P5
namespace Go.Proofs.Ytckkfjmjcknjdaa
open Go.RowKit P1 P3 P5 P9 P11 P12 P14 K
set_option linter.unusedVariables false
set_option linter.unusedSimpArgs false

theorem infoLV : (Try.prog.info? 96).map (·.size) = some 9 := by kernel_rfl

theorem infoIV : (Try.prog.info? 83).map (·.size) = some 9 := by kernel_rfl

theorem infoIVz : (Try.prog.info? 83).map (fun i => (i.zero, i.size, i.bytes)) = some (some (.agg #[.int .i64 0, .int .i64 0, .int .i64 0, .int .i64 0, .int .i64 0, .slice none 0 0, .string ⟨#[]⟩, .slice none 0 0, .int .i64 0]), 9, 112) := by kernel_rfl

theorem EvAt.cs {w : World} {b o : Nat} {e : EvV} {xa : Option Addr} {xc : Nat} {ya : Option Addr} {yc : Nat} (h : EvAt w b o e xa xc ya yc) :
    w.cell? ⟨b, o, none⟩ = some (.int .i64 e.id) ∧ w.cell? ⟨b, o + 1, none⟩ = some (.int .i64 e.kind) ∧ w.cell? ⟨b, o + 2, none⟩ = some (.int .i64 e.sender) ∧ w.cell? ⟨b, o + 3, none⟩ = some (.int .i64 e.user) ∧ w.cell? ⟨b, o + 4, none⟩ = some (.int .i64 e.member) ∧
      w.cell? ⟨b, o + 5, none⟩ = some (.slice xa e.levels.length xc) ∧ w.cell? ⟨b, o + 6, none⟩ = some (.string ⟨e.text.toArray⟩) ∧ w.cell? ⟨b, o + 7, none⟩ = some (.slice ya e.prev.length yc) ∧ w.cell? ⟨b, o + 8, none⟩ = some (.int .i64 e.depth) :=
  ⟨h.cell 0 _ rfl, h.cell 1 _ rfl, h.cell 2 _ rfl, h.cell 3 _ rfl, h.cell 4 _ rfl, h.cell 5 _ rfl, h.cell 6 _ rfl, h.cell 7 _ rfl, h.cell 8 _ rfl⟩

def evw (e : EvV) : Nat := e.levels.length + e.text.length + e.prev.length

def evW (es : List EvV) : Nat := (es.map evw).sum

theorem evW_take {es : List EvV} {j : Nat} {e : EvV} (h : es[j]? = some e) : evW (es.take (j + 1)) = evW (es.take j) + evw e := by
  unfold evW
  rw [List.take_add_one, h]
  simp

theorem evW_mem : ∀ {es : List EvV} {e : EvV}, e ∈ es → evw e ≤ evW es
  | x :: r, e, h => by
    unfold evW
    rw [List.map_cons, List.sum_cons]
    rcases List.mem_cons.1 h with rfl | h
    · omega
    · have := evW_mem h
      unfold evW at this
      omega

structure FineE (es : List EvV) : Prop where
  len : es.length ≤ 1048576
  all : evW es ≤ 1048576

theorem FineE.one {es : List EvV} (h : FineE es) {e : EvV} (he : e ∈ es) : e.levels.length ≤ 1048576 ∧ e.text.length ≤ 1048576 ∧ e.prev.length ≤ 1048576 := by
  have h1 := evW_mem he
  have h2 := h.all
  unfold evw at h1
  omega

theorem own_any {w w' : World} {b1 b2 : Nat} {e : TypeId} {v1 v2 : Value} {n1 n2 : Nat} {xs1 xs2 ys2 : List Value} (h1 : w.ownsRow b1 e 1 v1 n1 xs1) (h2 : w.ownsRow b2 e 1 v2 n2 xs2) (h2' : w'.ownsRow b2 e 1 v2 n2 ys2) (hg : w.grownBy w' v2.ownBlock) : ∃ ys1, w'.ownsRow b1 e 1 v1 n1 ys1 := by
  rcases h1.2 with ⟨rfl, rfl⟩ | ⟨g, cap, cur, rfl, hb, hgb, hnc, hcm, hcs, htk⟩
  · exact ⟨[], World.ownsRow_nil _ _ _ _⟩
  · by_cases hq : v2.ownBlock = some g
    · rcases h2'.2 with ⟨rfl, -⟩ | ⟨g2, cap2, cur2, rfl, hb2, hgb2, hnc2, hcm2, hcs2, htk2⟩
      · cases hq
      · cases hq
        rcases h2.2 with ⟨he, -⟩ | ⟨g3, cap3, cur3, he, hb3, hgb3, hnc3, hcm3, hcs3, htk3⟩
        · cases he
        · cases he
          rw [hgb] at hgb3
          cases hgb3
          refine ⟨cur2.toList.take (n1 * 1), ?_, Or.inr ⟨_, cap, cur2, rfl, hb, hgb2, hnc, hcm, ?_, rfl⟩⟩
          · rw [List.length_take]
            simp only [Array.length_toList]
            omega
          · omega
    · exact ⟨xs1, h1.kept hg (Or.inr (fun e => hq e.symm))⟩

theorem setArr_size : ∀ (vs : List Value) (cs : Array Value) (o : Nat), (setArr cs o vs).size = cs.size
  | [], _, _ => rfl
  | v :: r, cs, o => by rw [setArr, setArr_size r]; simp

theorem setArr_get : ∀ (vs : List Value) (cs : Array Value) (o m : Nat), o + vs.length ≤ cs.size → (setArr cs o vs)[m]? = if o ≤ m ∧ m < o + vs.length then vs[m - o]? else cs[m]?
  | [], cs, o, m, _ => by
    rw [setArr, if_neg (by rintro ⟨h1, h2⟩; simp only [List.length_nil] at h2; omega)]
  | v :: r, cs, o, m, h => by
    simp only [List.length_cons] at h
    rw [setArr, setArr_get r _ (o + 1) m (by simp; omega)]
    by_cases h1 : o = m
    · subst h1
      rw [if_neg (by omega), if_pos (by simp), Array.getElem?_setIfInBounds_self]
      simp
      omega
    · by_cases h2 : o + 1 ≤ m ∧ m < o + 1 + r.length
      · rw [if_pos h2, if_pos (by simp; omega)]
        have : m - o = (m - (o + 1)) + 1 := by omega
        rw [this, List.getElem?_cons_succ]
      · rw [if_neg h2, if_neg (by simp; omega), Array.getElem?_setIfInBounds_ne h1]

theorem blk_all9 {w : World} {b o : Nat} {cs : Array Value} {ty : TypeId} (h : w.heap[b]? = some (.cells cs ty (0, 0))) (hs : o + 9 ≤ cs.size) (v0 v1 v2 v3 v4 v5 v6 v7 v8 : Value) :
    ∃ W', (((((((((w.setCell ⟨b, o, none⟩ v0).setCell ⟨b, o + 1, none⟩ v1).setCell ⟨b, o + 2, none⟩ v2).setCell ⟨b, o + 3, none⟩ v3).setCell ⟨b, o + 4, none⟩ v4).setCell ⟨b, o + 5, none⟩ v5).setCell ⟨b, o + 6, none⟩ v6).setCell ⟨b, o + 7, none⟩ v7).setCell ⟨b, o + 8, none⟩ v8) = W' ∧
      (∃ cs', W'.heap[b]? = some (.cells cs' ty (0, 0)) ∧ cs'.size = cs.size ∧ (∀ m, m < o ∨ o + 9 ≤ m → cs'[m]? = cs[m]?) ∧ ∀ j u, [v0, v1, v2, v3, v4, v5, v6, v7, v8][j]? = some u → cs'[o + j]? = some u) ∧ w.grownBy W' (some b) := by
  obtain ⟨h1, h2⟩ := blk_setAll [v0, v1, v2, v3, v4, v5, v6, v7, v8] w cs o h
  refine ⟨_, rfl, ⟨_, h1, setArr_size _ _ _, fun m hm => ?_, fun j u hu => ?_⟩, h2⟩
  · rw [setArr_get _ _ _ _ (by simpa using hs), if_neg (by simp; omega)]
  · have hj : j < 9 := by simpa using (List.getElem?_eq_some_iff.1 hu).1
    rw [setArr_get _ _ _ _ (by simpa using hs), if_pos (by simp; omega), Nat.add_sub_cancel_left]
    exact hu

theorem blk_nine {w : World} {b o : Nat} {cs : Array Value} {ty : TypeId} (h : w.heap[b]? = some (.cells cs ty (0, 0))) (hs : o + 9 ≤ cs.size) :
    ∃ u0 u1 u2 u3 u4 u5 u6 u7 u8, w.cell? ⟨b, o, none⟩ = some u0 ∧ w.cell? ⟨b, o + 1, none⟩ = some u1 ∧ w.cell? ⟨b, o + 2, none⟩ = some u2 ∧ w.cell? ⟨b, o + 3, none⟩ = some u3 ∧ w.cell? ⟨b, o + 4, none⟩ = some u4 ∧ w.cell? ⟨b, o + 5, none⟩ = some u5 ∧ w.cell? ⟨b, o + 6, none⟩ = some u6 ∧ w.cell? ⟨b, o + 7, none⟩ = some u7 ∧ w.cell? ⟨b, o + 8, none⟩ = some u8 :=
  ⟨_, _, _, _, _, _, _, _, _, blk_cell h o (Array.getElem?_eq_getElem (by omega)), blk_cell h (o + 1) (Array.getElem?_eq_getElem (by omega)), blk_cell h (o + 2) (Array.getElem?_eq_getElem (by omega)), blk_cell h (o + 3) (Array.getElem?_eq_getElem (by omega)), blk_cell h (o + 4) (Array.getElem?_eq_getElem (by omega)), blk_cell h (o + 5) (Array.getElem?_eq_getElem (by omega)), blk_cell h (o + 6) (Array.getElem?_eq_getElem (by omega)), blk_cell h (o + 7) (Array.getElem?_eq_getElem (by omega)), blk_cell h (o + 8) (Array.getElem?_eq_getElem (by omega))⟩

def EvIn (w : World) (lo : Nat) (cs : Array Value) (i : Nat) (e : EvV) : Prop :=
  ∃ a b, (∀ j u, (evL e (some ⟨a, 0, none⟩) e.levels.length (some ⟨b, 0, none⟩) e.prev.length)[j]? = some u → cs[i * 9 + j]? = some u) ∧
    w.ownsRow lo 3 1 (.slice (some ⟨a, 0, none⟩) e.levels.length e.levels.length) e.levels.length (e.levels.map icell) ∧
    w.ownsRow lo 3 1 (.slice (some ⟨b, 0, none⟩) e.prev.length e.prev.length) e.prev.length (e.prev.map icell)

def EvsIn (w : World) (lo g n : Nat) (es : List EvV) (j : Nat) : Prop :=
  ∃ cs, w.heap[g]? = some (.cells cs 83 (0, 0)) ∧ cs.size = n * 9 ∧ ∀ i e, i < j → es[i]? = some e → EvIn w lo cs i e

theorem EvIn.on {w w' : World} {lo : Nat} {cs : Array Value} {i : Nat} {e : EvV} (h : EvIn w lo cs i e) (hb : Below w.heap.size w w') : EvIn w' lo cs i e := by
  obtain ⟨a, b, h1, h2, h3⟩ := h
  exact ⟨a, b, h1, own_below h2 hb, own_below h3 hb⟩

theorem EvIn.set {w w' : World} {lo g : Nat} {cs cs' : Array Value} {i : Nat} {e : EvV} {cx : Array Value} (h : EvIn w lo cs i e) (hblk : w.heap[g]? = some (.cells cx 83 (0, 0))) (hg : w.grownBy w' (some g)) (hcs : ∀ j, j < 9 → cs'[i * 9 + j]? = cs[i * 9 + j]?) : EvIn w' lo cs' i e := by
  obtain ⟨a, b, h1, h2, h3⟩ := h
  have ne : ∀ {v : Value} {n : Nat} {xs : List Value}, w.ownsRow lo 3 1 v n xs → v.ownBlock ≠ some g := by
    intro v n xs ho q
    rcases ho.2 with ⟨rfl, -⟩ | ⟨g2, cap, cur, rfl, -, hgb, -⟩
    · cases q
    · cases q
      rw [hblk] at hgb
      cases hgb
  refine ⟨a, b, fun j u hu => ?_, h2.kept hg (Or.inr (fun q => ne h2 q)), h3.kept hg (Or.inr (fun q => ne h3 q))⟩
  have hj : j < 9 := by simpa [evL] using (List.getElem?_eq_some_iff.1 hu).1
  rw [hcs j hj]
  exact h1 j u hu

theorem EvsIn.at_ {w : World} {lo g n : Nat} {es : List EvV} (h : EvsIn w lo g n es n) (hn : es.length = n) (hm : n ≤ maxLen) (hf : ∀ e ∈ es, (∀ z ∈ e.levels, (Lit.int .i64 z).wf = true) ∧ (∀ z ∈ e.prev, (Lit.int .i64 z).wf = true) ∧ e.text.length ≤ maxLen) : EvsAt w (some ⟨g, 0, none⟩) n n es := by
  obtain ⟨cs, hb, hs, hin⟩ := h
  refine ⟨hn, Nat.le_refl _, hm, fun i e he => ?_⟩
  have hi : i < n := by rw [← hn]; exact (List.getElem?_eq_some_iff.1 he).1
  obtain ⟨a, b, h1, h2, h3⟩ := hin i e hi he
  obtain ⟨f1, f2, f3⟩ := hf e (List.mem_of_getElem? he)
  obtain ⟨_, _, q1, k1⟩ := intsAt_of_own h2 f1
  cases q1
  obtain ⟨_, _, q2, k2⟩ := intsAt_of_own h3 f2
  cases q2
  refine ⟨g, 0, _, _, _, _, rfl, ⟨fun j u hu => ?_, k1, k2, f3⟩⟩
  rw [Nat.zero_add]
  exact blk_cell hb _ (h1 j u hu)

structure RowS (w : World) (lo hi : Nat) (v : Value) (n : Nat) : Prop where
  own : ∃ xs, w.ownsRow lo 3 1 v n xs
  top : ∀ q, v.ownBlock = some q → q < hi

theorem RowS.on {w w' : World} {lo hi : Nat} {v : Value} {n : Nat} (h : RowS w lo hi v n) (hb : Below w.heap.size w w') : RowS w' lo hi v n := by
  obtain ⟨⟨xs, h1⟩, h2⟩ := h
  exact ⟨⟨xs, own_below h1 hb⟩, h2⟩

theorem RowS.cells {w w' : World} {lo hi g : Nat} {v : Value} {n : Nat} {cx : Array Value} (h : RowS w lo hi v n) (hblk : w.heap[g]? = some (.cells cx 83 (0, 0))) (hg : w.grownBy w' (some g)) : RowS w' lo hi v n := by
  obtain ⟨⟨xs, h1⟩, h2⟩ := h
  refine ⟨⟨xs, h1.kept hg (Or.inr (fun q => ?_))⟩, h2⟩
  rcases h1.2 with ⟨rfl, -⟩ | ⟨g2, cap, cur, rfl, -, hgb, -⟩
  · cases q
  · cases q
    rw [hblk] at hgb
    cases hgb

theorem RowS.row {w w' : World} {lo hi : Nat} {v v2 : Value} {n n2 : Nat} {xs2 ys2 : List Value} (h : RowS w lo hi v n) (h2 : w.ownsRow lo 3 1 v2 n2 xs2) (h2' : w'.ownsRow lo 3 1 v2 n2 ys2) (hg : w.grownBy w' v2.ownBlock) : RowS w' lo hi v n := by
  obtain ⟨⟨xs, h1⟩, h3⟩ := h
  exact ⟨own_any h1 h2 h2' hg, h3⟩

structure EvSh (w : World) (lo hi g : Nat) (es : List EvV) : Prop where
  lo_ : lo ≤ g
  hi_ : g < hi
  blk : ∃ cs, w.heap[g]? = some (.cells cs 83 (0, 0)) ∧ cs.size = es.length * 9 ∧ ∀ i e, es[i]? = some e → ∃ vl vp, cs[i * 9 + 5]? = some vl ∧ cs[i * 9 + 7]? = some vp ∧ RowS w lo hi vl e.levels.length ∧ RowS w lo hi vp e.prev.length

theorem EvSh.on {w w' : World} {lo hi g : Nat} {es : List EvV} (h : EvSh w lo hi g es) (hb : Below w.heap.size w w') : EvSh w' lo hi g es := by
  obtain ⟨h1, h2, cs, h3, h4, h5⟩ := h
  refine ⟨h1, h2, cs, (hb.block g (blk_lt h3)).trans h3, h4, fun i e he => ?_⟩
  obtain ⟨vl, vp, q1, q2, q3, q4⟩ := h5 i e he
  exact ⟨vl, vp, q1, q2, q3.on hb, q4.on hb⟩

theorem EvSh.cell {w : World} {lo hi g : Nat} {es : List EvV} (h : EvSh w lo hi g es) {j c : Nat} (hc : c < 9) (h5 : c ≠ 5) (h7 : c ≠ 7) (u : Value) : EvSh (w.setCell ⟨g, j * 9 + c, none⟩ u) lo hi g es := by
  obtain ⟨h1, h2, cs, h3, h4, hx⟩ := h
  refine ⟨h1, h2, _, blk_set (k := j * 9 + c) u h3, by simpa using h4, fun i e he => ?_⟩
  obtain ⟨vl, vp, q1, q2, q3, q4⟩ := hx i e he
  have hg := blk_grown w g (j * 9 + c) u
  exact ⟨vl, vp, by rw [Array.getElem?_setIfInBounds_ne (by omega)]; exact q1, by rw [Array.getElem?_setIfInBounds_ne (by omega)]; exact q2, q3.cells h3 hg, q4.cells h3 hg⟩

theorem EvSh.row {w w' : World} {lo hi g : Nat} {es : List EvV} (h : EvSh w lo hi g es) {v2 : Value} {n2 : Nat} {xs2 ys2 : List Value} (h2 : w.ownsRow lo 3 1 v2 n2 xs2) (h2' : w'.ownsRow lo 3 1 v2 n2 ys2) (hg : w.grownBy w' v2.ownBlock) : EvSh w' lo hi g es := by
  obtain ⟨h1, hh, cs, h3, h4, hx⟩ := h
  have hne : some g ≠ v2.ownBlock := by
    intro q
    rcases h2.2 with ⟨rfl, -⟩ | ⟨g2, cap, cur, rfl, -, hgb, -⟩
    · cases q
    · cases q
      rw [h3] at hgb
      cases hgb
  refine ⟨h1, hh, cs, (hg.block g (blk_lt h3) hne).trans h3, h4, fun i e he => ?_⟩
  obtain ⟨vl, vp, q1, q2, q3, q4⟩ := hx i e he
  exact ⟨vl, vp, q1, q2, q3.row h2 h2' hg, q4.row h2 h2' hg⟩

theorem EvSh.get {w : World} {lo hi g : Nat} {es : List EvV} (h : EvSh w lo hi g es) {j : Nat} {e : EvV} (he : es[j]? = some e) :
    ∃ u0 u1 u2 u3 u4 vl u6 vp u8, w.cell? ⟨g, j * 9, none⟩ = some u0 ∧ w.cell? ⟨g, j * 9 + 1, none⟩ = some u1 ∧ w.cell? ⟨g, j * 9 + 2, none⟩ = some u2 ∧ w.cell? ⟨g, j * 9 + 3, none⟩ = some u3 ∧ w.cell? ⟨g, j * 9 + 4, none⟩ = some u4 ∧ w.cell? ⟨g, j * 9 + 5, none⟩ = some vl ∧ w.cell? ⟨g, j * 9 + 6, none⟩ = some u6 ∧ w.cell? ⟨g, j * 9 + 7, none⟩ = some vp ∧ w.cell? ⟨g, j * 9 + 8, none⟩ = some u8 ∧
      (∀ m, w.frozen? ⟨g, m, none⟩ = false) ∧ RowS w lo hi vl e.levels.length ∧ RowS w lo hi vp e.prev.length := by
  obtain ⟨h1, h2, cs, h3, h4, hx⟩ := h
  obtain ⟨vl, vp, q1, q2, q3, q4⟩ := hx j e he
  have hj : j < es.length := (List.getElem?_eq_some_iff.1 he).1
  obtain ⟨u0, u1, u2, u3, u4, u5, u6, u7, u8, c0, c1, c2, c3, c4, c5, c6, c7, c8⟩ := blk_nine (o := j * 9) h3 (by omega)
  exact ⟨u0, u1, u2, u3, u4, vl, u6, vp, u8, c0, c1, c2, c3, c4, blk_cell h3 _ q1, c6, blk_cell h3 _ q2, c8, fun m => blk_free h3 m, q3, q4⟩

theorem EvsIn.sh {w : World} {lo g n : Nat} {es : List EvV} (h : EvsIn w lo g n es n) (hn : es.length = n) (hlo : lo ≤ g) : EvSh w lo w.heap.size g es := by
  obtain ⟨cs, hb, hs, hin⟩ := h
  refine ⟨hlo, blk_lt hb, cs, hb, by rw [hs, hn], fun i e he => ?_⟩
  have hi : i < n := by rw [← hn]; exact (List.getElem?_eq_some_iff.1 he).1
  obtain ⟨a, b, h1, h2, h3⟩ := hin i e hi he
  exact ⟨_, _, h1 5 _ rfl, h1 7 _ rfl, ⟨⟨_, h2⟩, fun q hq => (h2.lt q hq).2⟩, ⟨⟨_, h3⟩, fun q hq => (h3.lt q hq).2⟩⟩

end Go.Proofs.Ytckkfjmjcknjdaa
