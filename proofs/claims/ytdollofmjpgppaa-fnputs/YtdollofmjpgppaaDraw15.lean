/-
  Draws of chapter 6: DrawLogPut (made by wip/tools/gen15.py).
-/
import Derived.Test.YtdollofmjpgppaaDraw14
import Derived.Test.YtdollofmjpgppaaPlace
namespace Go.Proofs.Ytdollofmjpgppaa
open Go.RowKit P1 P9 K
attribute [local go_sem ↓] Go.wp_at_zero Go.wp_at_succ
set_option linter.unusedVariables false
set_option linter.unusedSimpArgs false

/-- The cursor and both answers' variables. -/
structure DpA (B : Nat) (a : Option Addr) (len cap : Nat) (w wr : World) : Prop where
  hB : B ≤ w.heap.size
  cur : CurAt B wr (w.heap.size + 2) a len cap
  bel : Below w.heap.size w wr
  r1 : wr.heap[w.heap.size]? = some (.cells #[.int .i64 0, .int .i64 0, .slice none 0 0] 26 (0, 0))
  r2 : wr.heap[w.heap.size + 1]? = some (.cells #[.int .i64 0, .int .i64 0, .string ⟨#[]⟩] 28 (0, 0))

/-- And the log's variable, its row. -/
structure DpL (B : Nat) (a : Option Addr) (len cap : Nat) (w : World) (b : Nat) (s u : Int) (v : Value) (es : List EntV) (wr : World) : Prop where
  da : DpA B a len cap w wr
  bl : wr.heap[b]? = some (.cells #[.int .i64 s, .int .i64 u, v] 26 (0, 0))
  own : wr.ownsRow (w.heap.size + 3) 28 3 v es.length (es.flatMap ecells)
  hb : w.heap.size + 2 < b

/-- And the entry's variable. -/
structure DpE (B : Nat) (a : Option Addr) (len cap : Nat) (w : World) (b : Nat) (s u : Int) (v : Value) (es : List EntV) (q : Nat) (e : EntV) (wr : World) : Prop where
  dl : DpL B a len cap w b s u v es wr
  be : wr.heap[q]? = some (.cells #[.int .i64 e.term, .int .i64 e.kind, .string e.data] 28 (0, 0))
  hq : b < q
  rl : ∀ g, v.ownBlock = some g → g < q

section
variable {B : Nat} {a : Option Addr} {len cap : Nat} {w : World} {b : Nat} {s u : Int} {v : Value} {es : List EntV} {q : Nat} {e : EntV} {w1 w2 : World}

theorem DpA.size (h : DpA B a len cap w w1) : w.heap.size + 2 < w1.heap.size := h.cur.lt

theorem DpA.drawn (h : DpA B a len cap w w1) (hc : CurAt B w2 (w.heap.size + 2) a len cap) (hg : w1.grownBy w2 (some (w.heap.size + 2))) : DpA B a len cap w w2 := by
  have hs := h.size
  exact ⟨h.hB, hc, h.bel.grown hg h.bel.size (fun k hk => by cases hk; omega), (hg.block _ (by omega) (fun e => by have := Option.some.inj e; omega)).trans h.r1, (hg.block _ (by omega) (fun e => by have := Option.some.inj e; omega)).trans h.r2⟩

theorem DpA.on (h : DpA B a len cap w w1) (hb : Below w1.heap.size w1 w2) : DpA B a len cap w w2 := by
  have hs := h.size
  have hB := h.hB
  exact ⟨hB, h.cur.kept (hb.mono (by omega)) (hb.block _ (by omega)), h.bel.trans (hb.mono h.bel.size), (hb.block _ (by omega)).trans h.r1, (hb.block _ (by omega)).trans h.r2⟩

theorem DpL.drawn (h : DpL B a len cap w b s u v es w1) (hc : CurAt B w2 (w.heap.size + 2) a len cap) (hg : w1.grownBy w2 (some (w.heap.size + 2))) : DpL B a len cap w b s u v es w2 :=
  ⟨h.da.drawn hc hg, (hg.block _ (blk_lt h.bl) (fun e => by have := Option.some.inj e; have := h.hb; omega)).trans h.bl, h.own.kept hg (by
    cases hv : v.ownBlock with
    | none => exact Or.inl rfl
    | some g => exact Or.inr (fun e => by have := Option.some.inj e; have := (h.own.lt g hv).1; omega)), h.hb⟩

theorem DpL.on (h : DpL B a len cap w b s u v es w1) (hb : Below w1.heap.size w1 w2) : DpL B a len cap w b s u v es w2 :=
  ⟨h.da.on hb, (hb.block _ (blk_lt h.bl)).trans h.bl, own_below h.own hb, h.hb⟩

theorem DpL.cells (h : DpL B a len cap w b s u v es w1) : w1.cell? ⟨b, 0, none⟩ = some (.int .i64 s) ∧ w1.cell? ⟨b, 1, none⟩ = some (.int .i64 u) ∧ w1.cell? ⟨b, 2, none⟩ = some v := ⟨blk_cell h.bl 0 rfl, blk_cell h.bl 1 rfl, blk_cell h.bl 2 rfl⟩

theorem DpL.var (h : DpL B a len cap w b s u v es w1) (e : EntV) : DpE B a len cap w b s u v es w1.heap.size e (w1.alloc (.cells #[.int .i64 e.term, .int .i64 e.kind, .string e.data] 28)) :=
  ⟨h.on ((Below.refl _ _).alloc (Nat.le_refl _) _), heap_alloc_new _ _, blk_lt h.bl, fun g hg => (h.own.lt g hg).2⟩

theorem DpE.drawn (h : DpE B a len cap w b s u v es q e w1) (hc : CurAt B w2 (w.heap.size + 2) a len cap) (hg : w1.grownBy w2 (some (w.heap.size + 2))) : DpE B a len cap w b s u v es q e w2 :=
  ⟨h.dl.drawn hc hg, (hg.block _ (blk_lt h.be) (fun e => by have := Option.some.inj e; have := h.dl.hb; have := h.hq; omega)).trans h.be, h.hq, h.rl⟩

theorem DpE.on (h : DpE B a len cap w b s u v es q e w1) (hb : Below w1.heap.size w1 w2) : DpE B a len cap w b s u v es q e w2 :=
  ⟨h.dl.on hb, (hb.block _ (blk_lt h.be)).trans h.be, h.hq, h.rl⟩

/-- What is held while the answers are made: both variables' cells. -/
def DpH (b : Nat) (s u : Int) (v : Value) (q : Nat) (e : EntV) (wr : World) : Prop :=
  LV wr b s u v ∧ wr.cell? ⟨q, 0, none⟩ = some (.int .i64 e.term) ∧ wr.cell? ⟨q, 1, none⟩ = some (.int .i64 e.kind) ∧ wr.cell? ⟨q, 2, none⟩ = some (.string e.data)

theorem DpE.held (h : DpE B a len cap w b s u v es q e w1) : DpH b s u v q e w1 :=
  ⟨⟨blk_cell h.dl.bl 0 rfl, blk_cell h.dl.bl 1 rfl, blk_cell h.dl.bl 2 rfl⟩, blk_cell h.be 0 rfl, blk_cell h.be 1 rfl, blk_cell h.be 2 rfl⟩

theorem DpH.cells (h : DpH b s u v q e w1) : w1.cell? ⟨b, 0, none⟩ = some (.int .i64 s) ∧ w1.cell? ⟨b, 1, none⟩ = some (.int .i64 u) ∧ w1.cell? ⟨b, 2, none⟩ = some v ∧ w1.cell? ⟨q, 0, none⟩ = some (.int .i64 e.term) ∧ w1.cell? ⟨q, 1, none⟩ = some (.int .i64 e.kind) ∧ w1.cell? ⟨q, 2, none⟩ = some (.string e.data) := ⟨h.1.c0, h.1.c1, h.1.c2, h.2.1, h.2.2.1, h.2.2.2⟩

theorem DpH.far (h : DpH b s u v q e w1) {r : Nat} (hg : w1.grownBy w2 (some r)) (h1 : b ≠ r) (h2 : q ≠ r) : DpH b s u v q e w2 := by
  have hq := cell_lt h.2.1
  have kq := hg.block q hq (fun e => h2 (Option.some.inj e))
  exact ⟨h.1.kept hg (fun e => h1 (Option.some.inj e).symm), (cell_block kq).trans h.2.1, (cell_block kq).trans h.2.2.1, (cell_block kq).trans h.2.2.2⟩

/-- Another entry put into its variable. -/
theorem DpE.setE (h : DpE B a len cap w b s u v es q e w1) (e' : EntV) : DpE B a len cap w b s u v es q e' (((w1.setCell ⟨q, 0, none⟩ (.int .i64 e'.term)).setCell ⟨q, 1, none⟩ (.int .i64 e'.kind)).setCell ⟨q, 2, none⟩ (.string e'.data)) := by
  have hs := h.dl.da.size
  have hb := h.dl.hb
  have hq := h.hq
  have hB := h.dl.da.hB
  have hg : w1.grownBy (((w1.setCell ⟨q, 0, none⟩ (.int .i64 e'.term)).setCell ⟨q, 1, none⟩ (.int .i64 e'.kind)).setCell ⟨q, 2, none⟩ (.string e'.data)) (some q) := grown_trans (grown_trans (set_grown _ _ _ _) (set_grown _ _ _ _)) (set_grown _ _ _ _)
  have hblk : ∀ i, i < w1.heap.size → i ≠ q → _ := fun i hi hne => hg.block i hi (fun e => hne (Option.some.inj e))
  have hl := blk_lt h.dl.bl
  refine ⟨⟨⟨hB, h.dl.da.cur.kept ((Below.refl B w1).grown hg (by omega) (fun k hk => by cases hk; omega)) (hblk _ (by omega) (by omega)), h.dl.da.bel.grown hg h.dl.da.bel.size (fun k hk => by cases hk; omega), (hblk _ (by omega) (by omega)).trans h.dl.da.r1, (hblk _ (by omega) (by omega)).trans h.dl.da.r2⟩, (hblk _ hl (by omega)).trans h.dl.bl, ?_, hb⟩, ?_, hq, h.rl⟩
  · exact own_setOther (own_setOther (own_setOther h.dl.own (fun g hg => by have := h.rl g hg; omega)) (fun g hg => by have := h.rl g hg; omega)) (fun g hg => by have := h.rl g hg; omega)
  · have k2 := blk_set (k := 2) (.string e'.data) (blk_set (k := 1) (.int .i64 e'.kind) (blk_set (k := 0) (.int .i64 e'.term) h.be))
    simpa using k2

/-- Both answers stored. -/
theorem DpE.fin (h : DpE B a len cap w b s u v es q e w1) :
    ∀ x y, x = (((w1.setCell ⟨w.heap.size, 0, none⟩ (.int .i64 s)).setCell ⟨w.heap.size, 1, none⟩ (.int .i64 u)).setCell ⟨w.heap.size, 2, none⟩ v) →
      y = (((x.setCell ⟨w.heap.size + 1, 0, none⟩ (.int .i64 e.term)).setCell ⟨w.heap.size + 1, 1, none⟩ (.int .i64 e.kind)).setCell ⟨w.heap.size + 1, 2, none⟩ (.string e.data)) →
      DpH b s u v q e x ∧ DpH b s u v q e y ∧ x.heap[w.heap.size + 1]? = some (.cells #[.int .i64 0, .int .i64 0, .string ⟨#[]⟩] 28 (0, 0)) ∧ y.heap[w.heap.size]? = some (.cells #[.int .i64 s, .int .i64 u, v] 26 (0, 0)) ∧ y.heap[w.heap.size + 1]? = some (.cells #[.int .i64 e.term, .int .i64 e.kind, .string e.data] 28 (0, 0)) ∧
      y.ownsRow w.heap.size 28 3 v es.length (es.flatMap ecells) ∧ Below w.heap.size w y := by
  intro x y hx hy
  have hs := h.dl.da.size
  have hb := h.dl.hb
  have hq := h.hq
  have hg1 : w1.grownBy x (some w.heap.size) := by rw [hx]; exact grown_trans (grown_trans (set_grown _ _ _ _) (set_grown _ _ _ _)) (set_grown _ _ _ _)
  have hg2 : x.grownBy y (some (w.heap.size + 1)) := by rw [hy]; exact grown_trans (grown_trans (set_grown _ _ _ _) (set_grown _ _ _ _)) (set_grown _ _ _ _)
  have sx := hg1.size
  have hx1 : x.heap[w.heap.size]? = some (.cells #[.int .i64 s, .int .i64 u, v] 26 (0, 0)) := by
    rw [hx]
    have k2 := blk_set (k := 2) v (blk_set (k := 1) (.int .i64 u) (blk_set (k := 0) (.int .i64 s) h.dl.da.r1))
    simpa using k2
  have hx2 := (hg1.block (w.heap.size + 1) (by omega) (fun e => by have := Option.some.inj e; omega)).trans h.dl.da.r2
  have hhx := h.held.far hg1 (by omega) (by omega)
  refine ⟨hhx, hhx.far hg2 (by omega) (by omega), hx2, (hg2.block _ (by omega) (fun e => by have := Option.some.inj e; omega)).trans hx1, ?_, ?_, ?_⟩
  · rw [hy]
    have k2 := blk_set (k := 2) (.string e.data) (blk_set (k := 1) (.int .i64 e.kind) (blk_set (k := 0) (.int .i64 e.term) hx2))
    simpa using k2
  · have hk1 : x.ownsRow (w.heap.size + 3) 28 3 v es.length (es.flatMap ecells) := h.dl.own.kept hg1 (by
      cases hv : v.ownBlock with
      | none => exact Or.inl rfl
      | some g => exact Or.inr (fun e => by have := Option.some.inj e; have := (h.dl.own.lt g hv).1; omega))
    have hk2 : y.ownsRow (w.heap.size + 3) 28 3 v es.length (es.flatMap ecells) := hk1.kept hg2 (by
      cases hv : v.ownBlock with
      | none => exact Or.inl rfl
      | some g => exact Or.inr (fun e => by have := Option.some.inj e; have := (h.dl.own.lt g hv).1; omega))
    exact own_base hk2 (by omega)
  · exact (h.dl.da.bel.grown hg1 h.dl.da.bel.size (fun k hk => by cases hk; exact Nat.le_refl _)).grown hg2 (by omega) (fun k hk => by cases hk; omega)
end

/-- A log, an index and an entry drawn. -/
def DlPost (w : World) (r : Ending) (w' : World) : Prop :=
  ∃ (s u : Int) (v : Value) (es : List EntV) (ix : Int) (e : EntV), es.length ≤ 70 ∧ (∀ f ∈ es, f.data.size ≤ 1000) ∧ e.data.size ≤ 1000 ∧ r = .returned (.tuple #[lgv s u v, .int .i64 ix, .agg #[.int .i64 e.term, .int .i64 e.kind, .string e.data]]) ∧ w'.ownsRow w.heap.size 28 3 v es.length (es.flatMap ecells) ∧ Below w.heap.size w w'

set_option maxRecDepth 100000 in
set_option maxHeartbeats 8000000 in
theorem drawLogPut_any (B : Nat) (a : Option Addr) (len cap : Nat) (w : World) (hlen : len ≤ 1048576) (hB : B ≤ w.heap.size) (hcode : CodeAt B w a len) :
    Calls Try.prog 5 #[.slice a len cap] w (DlPost w) := by
  obtain ⟨W0, hW0⟩ : ∃ W0, W0 = ((w.alloc (.cells #[.int .i64 0, .int .i64 0, .slice none 0 0] 26)).alloc (.cells #[.int .i64 0, .int .i64 0, .string ⟨#[]⟩] 28)) := ⟨_, rfl⟩
  have hb0 : Below w.heap.size w W0 := by rw [hW0]; exact ((Below.refl _ _).alloc (Nat.le_refl _) _).alloc (by simp) _
  have hr1 : W0.heap[w.heap.size]? = some (.cells #[.int .i64 0, .int .i64 0, .slice none 0 0] 26 (0, 0)) := by rw [hW0]; exact (((Below.refl _ _).alloc (Nat.le_refl _) _).block _ (by simp)).trans (heap_alloc_new _ _)
  have hr2 : W0.heap[w.heap.size + 1]? = some (.cells #[.int .i64 0, .int .i64 0, .string ⟨#[]⟩] 28 (0, 0)) := by
    rw [hW0]
    have h := heap_alloc_new (w.alloc (.cells #[.int .i64 0, .int .i64 0, .slice none 0 0] 26)) (.cells #[.int .i64 0, .int .i64 0, .string ⟨#[]⟩] 28)
    rwa [show (w.alloc (.cells #[.int .i64 0, .int .i64 0, .slice none 0 0] 26)).heap.size = w.heap.size + 1 by simp] at h
  have hs0 : W0.heap.size = w.heap.size + 2 := by rw [hW0]; simp
  have HC := hide (hcode.below (hb0.mono hB))
  clear hcode
  go_enter Try.func5, Try.ntmps5
  go_wp2_with fail
  rw [← hW0]
  refine (l01New_any B a len cap _ hlen (by omega) HC.out).mono ?_
  rintro r w1 ⟨rfl, hc1, hb1⟩
  rw [hs0] at hc1
  have HA1 : Hid (DpA B a len cap w w1) := hide ⟨hB, hc1, hb0.trans (hb1.mono (by omega)), (hb1.block _ (by omega)).trans hr1, (hb1.block _ (by omega)).trans hr2⟩
  rw [hs0]
  clear hb1 hc1 hb0 hr1 hr2 HC
  go_wp2_with fail
  have s1 := HA1.out.size
  refine (l06Any_any B (w.heap.size + 2) a len cap _ (by omega) HA1.out.cur).mono ?_
  rintro r w2 ⟨s, u, v, es, hel, hew, rfl, hc2, hg2, ho2⟩
  obtain ⟨ov, cv, rfl⟩ := own_form3 ho2
  have HA2 := hide (HA1.out.drawn hc2 hg2)
  have HD2 : Hid (DpL B a len cap w w2.heap.size s u (.slice ov es.length cv) es (w2.alloc (.cells #[.int .i64 s, .int .i64 u, .slice ov es.length cv] 26))) := hide ⟨HA2.out.on ((Below.refl _ _).alloc (Nat.le_refl _) _), heap_alloc_new _ _, (own_base ho2 (by omega)).alloc _, HA2.out.size⟩
  have HEW := hide hew
  clear hc2 hg2 ho2 HA1 hew s1
  go_wp2_with fail
  generalize w2.alloc (Obj.cells #[Value.int IntKind.i64 s, Value.int IntKind.i64 u, Value.slice ov es.length cv] 26) = w3 at HD2 ⊢
  obtain ⟨b, hb⟩ : ∃ b, b = w2.heap.size := ⟨_, rfl⟩
  rw [← hb] at HD2 ⊢
  clear hb HA2 hs0 hW0
  obtain ⟨_, _, heq, hat3⟩ := entsAt_own HD2.out.own
  cases heq
  have HAT3 := hide hat3
  clear hat3
  refine (specLogLast_any s u _ _ _ es _ HAT3.out).mono ?_
  rintro r w4 ⟨rfl, hb4⟩
  have HD4 := hide (HD2.out.on hb4)
  clear hb4 HD2 HAT3
  generalize lastI s es.length = LI
  generalize lastT u es = LT
  go_wp2_with fail
  refine (l01Below_any B (w.heap.size + 2) a len cap 2 (by decide) (by decide) _ HD4.out.da.cur).mono ?_
  rintro r w5 ⟨x, hx, rfl, hc5, hg5⟩
  have HD5 := hide (HD4.out.drawn hc5 hg5)
  clear hc5 hg5 HD4
  go_wp2_with fail
  have s5 := HD5.out.da.size
  refine (l05Right_any B (w.heap.size + 2) a len cap _ _ (by omega) HD5.out.da.cur).mono ?_
  rintro r w6 ⟨et, ek, ez, hez, rfl, hc6, hg6⟩
  have HD6 := hide (HD5.out.drawn hc6 hg6)
  have HE6 := hide (HD6.out.var (EntV.mk et ek ez))
  have HPL := hide (l01Place_any B (w.heap.size + 2) a len cap (es.length + 2) (by omega) (by omega))
  have e2 : ((es.length + 2 : Nat) : Int) = (es.length : Int) + 2 := by omega
  rw [e2] at HPL
  have hwr : IntKind.i64.wrap ((es.length : Int) + 2) = (es.length : Int) + 2 := by rw [IntKind.wrap_i64]; omega
  clear hc6 hg6 HD5 s5 e2
  go_wp2_with fail
  generalize w6.alloc (Obj.cells #[Value.int IntKind.i64 et, Value.int IntKind.i64 ek, Value.string ez] 28) = w7 at HE6 ⊢
  obtain ⟨q, hq⟩ : ∃ q, q = w6.heap.size := ⟨_, rfl⟩
  rw [← hq] at HE6 ⊢
  clear hq HD6
  refine (l01Once_any B (w.heap.size + 2) a len cap 8 (by decide) (by decide) _ HE6.out.dl.da.cur).mono ?_
  rintro r w8 ⟨o8, rfl, hc8, hg8⟩
  have HE8 := hide (HE6.out.drawn hc8 hg8)
  clear hc8 hg8 HE6
  cases o8 with
  | true =>
    go_wp2_with fail
    have s8 := HE8.out.dl.da.size
    refine (l05Any_any B (w.heap.size + 2) a len cap _ (by omega) HE8.out.dl.da.cur).mono ?_
    rintro r w9 ⟨at', ak, az, haz, rfl, hc9, hg9⟩
    have HE9 := hide (HE8.out.drawn hc9 hg9)
    have HEA := hide (HE9.out.setE (EntV.mk at' ak az))
    have HEZ := hide (show (EntV.mk at' ak az).data.size ≤ 1000 by show az.size ≤ 1000; omega)
    have q0 := blk_cell HE9.out.be 0 rfl
    have q1 := blk_cell HE9.out.be 1 rfl
    have q2 := blk_cell HE9.out.be 2 rfl
    have f0 := blk_free HE9.out.be 0
    have f1 := blk_free HE9.out.be 1
    have f2 := blk_free HE9.out.be 2
    simp only [List.getElem_toArray, List.getElem_cons_zero, List.getElem_cons_succ] at q0 q1 q2
    clear hc9 hg9 HE8 s8
    go_wp2_with fail
    generalize (((w9.setCell ⟨q, 0, none⟩ (Value.int IntKind.i64 at')).setCell ⟨q, 1, none⟩ (Value.int IntKind.i64 ak)).setCell ⟨q, 2, none⟩ (Value.string az)) = wa at HEA ⊢
    clear HE9 q0 q1 q2 f0 f1 f2
    have HDs := hide (HEA.out.on (Below.refl _ _).drew)
    clear HEA
    refine wp_region_held_drew (S := DpH b s u (.slice ov es.length cv) q (EntV.mk at' ak az)) (by kernel_rfl) HDs.out.held (fun hHeld => ?_)
    generalize wa.drew = xs at HDs hHeld ⊢
    refine wpAnyH_take (i := 0) (v := ?_) rfl (by kernel_rfl) (by kernel_rfl) (by kernel_rfl) (fun _ _ _ h => h) (Or.inl ⟨by rfl, ?_⟩) (by assumption) ?_; rotate_left
    · (intro wz hSw; obtain ⟨z0, z1, z2, z3, z4, z5⟩ := DpH.cells hSw; clear hSw; go_simp; first | done | with_reducible rfl)
    try simp only [Act.put, List.getElem_toArray, List.getElem_cons_zero, List.getElem_cons_succ, List.setIfInBounds_toArray, List.set_cons_zero, List.set_cons_succ]
    refine wpAnyH_take (i := 1) (v := ?_) rfl (by kernel_rfl) (by kernel_rfl) (by kernel_rfl) (fun _ _ _ h => h) (Or.inl ⟨by rfl, ?_⟩) (by assumption) ?_; rotate_left
    · (intro wz hSw; obtain ⟨z0, z1, z2, z3, z4, z5⟩ := DpH.cells hSw; clear hSw; go_simp; first | done | with_reducible rfl)
    try simp only [Act.put, List.getElem_toArray, List.getElem_cons_zero, List.getElem_cons_succ, List.setIfInBounds_toArray, List.set_cons_zero, List.set_cons_succ]
    refine wpAnyH_take (i := 2) (v := ?_) rfl (by kernel_rfl) (by kernel_rfl) (by kernel_rfl) (fun _ _ _ h => h) (Or.inl ⟨by rfl, ?_⟩) (by assumption) ?_; rotate_left
    · (intro wz hSw; obtain ⟨z0, z1, z2, z3, z4, z5⟩ := DpH.cells hSw; clear hSw; go_simp; first | done | with_reducible rfl)
    try simp only [Act.put, List.getElem_toArray, List.getElem_cons_zero, List.getElem_cons_succ, List.setIfInBounds_toArray, List.set_cons_zero, List.set_cons_succ]
    refine wpAnyH_take (i := 3) (v := ?_) rfl (by kernel_rfl) (by kernel_rfl) (by kernel_rfl) (fun _ _ _ h => h) (Or.inl ⟨by rfl, ?_⟩) (by assumption) ?_; rotate_left
    · (intro wz hSw; obtain ⟨z0, z1, z2, z3, z4, z5⟩ := DpH.cells hSw; clear hSw; go_simp; first | done | with_reducible rfl)
    try simp only [Act.put, List.getElem_toArray, List.getElem_cons_zero, List.getElem_cons_succ, List.setIfInBounds_toArray, List.set_cons_zero, List.set_cons_succ]
    refine wpAnyH_take (i := 4) (v := ?_) rfl (by kernel_rfl) (by kernel_rfl) (by kernel_rfl) (fun _ _ _ h => h) (Or.inl ⟨by rfl, ?_⟩) (by assumption) ?_; rotate_left
    · (intro wz hSw; obtain ⟨z0, z1, z2, z3, z4, z5⟩ := DpH.cells hSw; clear hSw; go_simp; first | done | with_reducible rfl)
    try simp only [Act.put, List.getElem_toArray, List.getElem_cons_zero, List.getElem_cons_succ, List.setIfInBounds_toArray, List.set_cons_zero, List.set_cons_succ]
    refine wpAnyH_take (i := 5) (v := ?_) rfl (by kernel_rfl) (by kernel_rfl) (by kernel_rfl) (fun _ _ _ h => h) (Or.inl ⟨by rfl, ?_⟩) (by assumption) ?_; rotate_left
    · (intro wz hSw; obtain ⟨z0, z1, z2, z3, z4, z5⟩ := DpH.cells hSw; clear hSw; go_simp; first | done | with_reducible rfl)
    try simp only [Act.put, List.getElem_toArray, List.getElem_cons_zero, List.getElem_cons_succ, List.setIfInBounds_toArray, List.set_cons_zero, List.set_cons_succ]
    refine wpAnyH_take (i := 6) (v := ?_) rfl (by kernel_rfl) (by kernel_rfl) (by kernel_rfl) (fun _ _ _ h => h) (Or.inl ⟨by rfl, ?_⟩) (by assumption) ?_; rotate_left
    · (intro wz hSw; obtain ⟨z0, z1, z2, z3, z4, z5⟩ := DpH.cells hSw; clear hSw; go_simp; first | done | with_reducible rfl)
    try simp only [Act.put, List.getElem_toArray, List.getElem_cons_zero, List.getElem_cons_succ, List.setIfInBounds_toArray, List.set_cons_zero, List.set_cons_succ]
    refine wpAnyH_take (i := 7) (v := ?_) rfl (by kernel_rfl) (by kernel_rfl) (by kernel_rfl) (fun _ _ _ h => h) (Or.inl ⟨by rfl, ?_⟩) (by assumption) ?_; rotate_left
    · (intro wz hSw; obtain ⟨z0, z1, z2, z3, z4, z5⟩ := DpH.cells hSw; clear hSw; go_simp; first | done | with_reducible rfl)
    try simp only [Act.put, List.getElem_toArray, List.getElem_cons_zero, List.getElem_cons_succ, List.setIfInBounds_toArray, List.set_cons_zero, List.set_cons_succ]
    refine wpAnyH_take (i := 10) (v := ?_) rfl (by kernel_rfl) (by kernel_rfl) (by kernel_rfl) (fun _ _ _ h => h) (Or.inl ⟨by rfl, ?_⟩) (by assumption) ?_; rotate_left
    · (intro wz hSw; obtain ⟨z0, z1, z2, z3, z4, z5⟩ := DpH.cells hSw; clear hSw; go_simp; first | done | with_reducible rfl)
    try simp only [Act.put, List.getElem_toArray, List.getElem_cons_zero, List.getElem_cons_succ, List.setIfInBounds_toArray, List.set_cons_zero, List.set_cons_succ]
    refine wpAnyH_ready (rs := [8]) (by kernel_rfl) (by simp) ?_
    refine AllReadyH.cons rfl (fun K hK => ?_) ?_
    · rw [if_pos (by rfl)]
      go_simp
      go_at_call 17
      refine (HPL.out _ (Nat.le_trans HDs.out.dl.da.hB HDs.out.dl.da.bel.size) HDs.out.dl.da.cur).mono ?_
      rintro r x8 ⟨ix, -, -, rfl, hc8, hg8⟩
      have HD8 := hide (HDs.out.drawn hc8 hg8)
      clear hc8 hg8
      try go_simp
      refine hK.out _ _ ?_ (fun hHeld => ?_)
      · exact HD8.out.held
      clear hK K
      try simp only [Act.put, List.getElem_toArray, List.getElem_cons_zero, List.getElem_cons_succ, List.setIfInBounds_toArray, List.set_cons_zero, List.set_cons_succ]
      refine wpAnyH_take (i := 9) (v := ?_) rfl (by kernel_rfl) (by kernel_rfl) (by kernel_rfl) (fun _ _ _ h => h) (Or.inl ⟨by rfl, ?_⟩) (by assumption) ?_; rotate_left
      · (intro wz hSw; obtain ⟨z0, z1, z2, z3, z4, z5⟩ := DpH.cells hSw; clear hSw; go_simp; first | done | with_reducible rfl)
      try simp only [Act.put, List.getElem_toArray, List.getElem_cons_zero, List.getElem_cons_succ, List.setIfInBounds_toArray, List.set_cons_zero, List.set_cons_succ]
      refine wpAnyH_ready (rs := [11]) (by kernel_rfl) (by simp) ?_
      refine AllReadyH.cons rfl (fun K hK => ?_) ?_
      · have q0 := blk_cell HD8.out.dl.da.r1 0 rfl
        have q1 := blk_cell HD8.out.dl.da.r1 1 rfl
        have q2 := blk_cell HD8.out.dl.da.r1 2 rfl
        have f0 := blk_free HD8.out.dl.da.r1 0
        have f1 := blk_free HD8.out.dl.da.r1 1
        have f2 := blk_free HD8.out.dl.da.r1 2
        simp only [List.getElem_toArray, List.getElem_cons_zero, List.getElem_cons_succ] at q0 q1 q2
        obtain ⟨xx, hxx⟩ : ∃ xx, xx = (((x8.setCell ⟨w.heap.size, 0, none⟩ (Value.int IntKind.i64 s)).setCell ⟨w.heap.size, 1, none⟩ (Value.int IntKind.i64 u)).setCell ⟨w.heap.size, 2, none⟩ (Value.slice ov es.length cv)) := ⟨_, rfl⟩
        obtain ⟨yy, hyy⟩ : ∃ yy, yy = (((xx.setCell ⟨w.heap.size + 1, 0, none⟩ (Value.int IntKind.i64 at')).setCell ⟨w.heap.size + 1, 1, none⟩ (Value.int IntKind.i64 ak)).setCell ⟨w.heap.size + 1, 2, none⟩ (Value.string az)) := ⟨_, rfl⟩
        have HF := hide (HD8.out.fin xx yy hxx hyy)
        have HYY := hide hyy
        rw [if_pos (by rfl)]
        go_simp
        rw [← hxx]
        refine hK.out _ _ ?_ (fun hHeld => ?_)
        · exact HF.out.1
        clear hK K
        try simp only [Act.put, List.getElem_toArray, List.getElem_cons_zero, List.getElem_cons_succ, List.setIfInBounds_toArray, List.set_cons_zero, List.set_cons_succ]
        clear q0 q1 q2 f0 f1 f2 hxx hyy
        refine wpAnyH_ready (rs := [12]) (by kernel_rfl) (by simp) ?_
        refine AllReadyH.cons rfl (fun K hK => ?_) ?_
        · rw [if_pos (by rfl)]
          go_simp
          refine hK.out _ _ ?_ (fun hHeld => ?_)
          · exact HF.out.1
          clear hK K
          try simp only [Act.put, List.getElem_toArray, List.getElem_cons_zero, List.getElem_cons_succ, List.setIfInBounds_toArray, List.set_cons_zero, List.set_cons_succ]
          refine wpAnyH_ready (rs := [13]) (by kernel_rfl) (by simp) ?_
          refine AllReadyH.cons rfl (fun K hK => ?_) ?_
          · have q0 := blk_cell HF.out.2.2.1 0 rfl
            have q1 := blk_cell HF.out.2.2.1 1 rfl
            have q2 := blk_cell HF.out.2.2.1 2 rfl
            have f0 := blk_free HF.out.2.2.1 0
            have f1 := blk_free HF.out.2.2.1 1
            have f2 := blk_free HF.out.2.2.1 2
            simp only [List.getElem_toArray, List.getElem_cons_zero, List.getElem_cons_succ] at q0 q1 q2
            rw [if_pos (by rfl)]
            go_simp
            rw [← HYY.out]
            refine hK.out _ _ ?_ (fun hHeld => ?_)
            · exact HF.out.2.1
            clear hK K
            try simp only [Act.put, List.getElem_toArray, List.getElem_cons_zero, List.getElem_cons_succ, List.setIfInBounds_toArray, List.set_cons_zero, List.set_cons_succ]
            clear q0 q1 q2 f0 f1 f2
            refine wpAnyH_done (by kernel_rfl) ?_ _
            clear hHeld
            obtain ⟨-, -, -, hy1, hy2, hy3, hy4⟩ := HF.out
            have j0 : yy.cell? ⟨w.heap.size, 0, none⟩ = some (.int .i64 s) := blk_cell hy1 0 rfl
            have j1 : yy.cell? ⟨w.heap.size, 1, none⟩ = some (.int .i64 u) := blk_cell hy1 1 rfl
            have j2 : yy.cell? ⟨w.heap.size, 2, none⟩ = some (.slice ov es.length cv) := blk_cell hy1 2 rfl
            have j3 : yy.cell? ⟨w.heap.size + 1, 0, none⟩ = some (.int .i64 at') := blk_cell hy2 0 rfl
            have j4 : yy.cell? ⟨w.heap.size + 1, 1, none⟩ = some (.int .i64 ak) := blk_cell hy2 1 rfl
            have j5 : yy.cell? ⟨w.heap.size + 1, 2, none⟩ = some (.string az) := blk_cell hy2 2 rfl
            clear HYY
            try go_wp2_with fail
            refine bodyPost_ret (v := .tuple #[lgv s u (.slice ov es.length cv), .int .i64 _, .agg #[.int .i64 at', .int .i64 ak, .string az]]) (by simp [results, Try.results5, go_sem, j0, j1, j2, j3, j4, j5]; rfl) rfl ⟨s, u, _, es, _, EntV.mk at' ak az, hel, HEW.out, HEZ.out, rfl, hy3, hy4⟩
          exact AllReadyH.nil
        exact AllReadyH.nil
      exact AllReadyH.nil
    exact AllReadyH.nil
  | false =>
    have HEZ := hide (show (EntV.mk et ek ez).data.size ≤ 1000 by show ez.size ≤ 1000; omega)
    go_wp2_with fail
    have HDs := hide (HE8.out.on (Below.refl _ _).drew)
    clear HE8
    refine wp_region_held_drew (S := DpH b s u (.slice ov es.length cv) q (EntV.mk et ek ez)) (by kernel_rfl) HDs.out.held (fun hHeld => ?_)
    generalize w8.drew = xs at HDs hHeld ⊢
    refine wpAnyH_take (i := 0) (v := ?_) rfl (by kernel_rfl) (by kernel_rfl) (by kernel_rfl) (fun _ _ _ h => h) (Or.inl ⟨by rfl, ?_⟩) (by assumption) ?_; rotate_left
    · (intro wz hSw; obtain ⟨z0, z1, z2, z3, z4, z5⟩ := DpH.cells hSw; clear hSw; go_simp; first | done | with_reducible rfl)
    try simp only [Act.put, List.getElem_toArray, List.getElem_cons_zero, List.getElem_cons_succ, List.setIfInBounds_toArray, List.set_cons_zero, List.set_cons_succ]
    refine wpAnyH_take (i := 1) (v := ?_) rfl (by kernel_rfl) (by kernel_rfl) (by kernel_rfl) (fun _ _ _ h => h) (Or.inl ⟨by rfl, ?_⟩) (by assumption) ?_; rotate_left
    · (intro wz hSw; obtain ⟨z0, z1, z2, z3, z4, z5⟩ := DpH.cells hSw; clear hSw; go_simp; first | done | with_reducible rfl)
    try simp only [Act.put, List.getElem_toArray, List.getElem_cons_zero, List.getElem_cons_succ, List.setIfInBounds_toArray, List.set_cons_zero, List.set_cons_succ]
    refine wpAnyH_take (i := 2) (v := ?_) rfl (by kernel_rfl) (by kernel_rfl) (by kernel_rfl) (fun _ _ _ h => h) (Or.inl ⟨by rfl, ?_⟩) (by assumption) ?_; rotate_left
    · (intro wz hSw; obtain ⟨z0, z1, z2, z3, z4, z5⟩ := DpH.cells hSw; clear hSw; go_simp; first | done | with_reducible rfl)
    try simp only [Act.put, List.getElem_toArray, List.getElem_cons_zero, List.getElem_cons_succ, List.setIfInBounds_toArray, List.set_cons_zero, List.set_cons_succ]
    refine wpAnyH_take (i := 3) (v := ?_) rfl (by kernel_rfl) (by kernel_rfl) (by kernel_rfl) (fun _ _ _ h => h) (Or.inl ⟨by rfl, ?_⟩) (by assumption) ?_; rotate_left
    · (intro wz hSw; obtain ⟨z0, z1, z2, z3, z4, z5⟩ := DpH.cells hSw; clear hSw; go_simp; first | done | with_reducible rfl)
    try simp only [Act.put, List.getElem_toArray, List.getElem_cons_zero, List.getElem_cons_succ, List.setIfInBounds_toArray, List.set_cons_zero, List.set_cons_succ]
    refine wpAnyH_take (i := 4) (v := ?_) rfl (by kernel_rfl) (by kernel_rfl) (by kernel_rfl) (fun _ _ _ h => h) (Or.inl ⟨by rfl, ?_⟩) (by assumption) ?_; rotate_left
    · (intro wz hSw; obtain ⟨z0, z1, z2, z3, z4, z5⟩ := DpH.cells hSw; clear hSw; go_simp; first | done | with_reducible rfl)
    try simp only [Act.put, List.getElem_toArray, List.getElem_cons_zero, List.getElem_cons_succ, List.setIfInBounds_toArray, List.set_cons_zero, List.set_cons_succ]
    refine wpAnyH_take (i := 5) (v := ?_) rfl (by kernel_rfl) (by kernel_rfl) (by kernel_rfl) (fun _ _ _ h => h) (Or.inl ⟨by rfl, ?_⟩) (by assumption) ?_; rotate_left
    · (intro wz hSw; obtain ⟨z0, z1, z2, z3, z4, z5⟩ := DpH.cells hSw; clear hSw; go_simp; first | done | with_reducible rfl)
    try simp only [Act.put, List.getElem_toArray, List.getElem_cons_zero, List.getElem_cons_succ, List.setIfInBounds_toArray, List.set_cons_zero, List.set_cons_succ]
    refine wpAnyH_take (i := 6) (v := ?_) rfl (by kernel_rfl) (by kernel_rfl) (by kernel_rfl) (fun _ _ _ h => h) (Or.inl ⟨by rfl, ?_⟩) (by assumption) ?_; rotate_left
    · (intro wz hSw; obtain ⟨z0, z1, z2, z3, z4, z5⟩ := DpH.cells hSw; clear hSw; go_simp; first | done | with_reducible rfl)
    try simp only [Act.put, List.getElem_toArray, List.getElem_cons_zero, List.getElem_cons_succ, List.setIfInBounds_toArray, List.set_cons_zero, List.set_cons_succ]
    refine wpAnyH_take (i := 7) (v := ?_) rfl (by kernel_rfl) (by kernel_rfl) (by kernel_rfl) (fun _ _ _ h => h) (Or.inl ⟨by rfl, ?_⟩) (by assumption) ?_; rotate_left
    · (intro wz hSw; obtain ⟨z0, z1, z2, z3, z4, z5⟩ := DpH.cells hSw; clear hSw; go_simp; first | done | with_reducible rfl)
    try simp only [Act.put, List.getElem_toArray, List.getElem_cons_zero, List.getElem_cons_succ, List.setIfInBounds_toArray, List.set_cons_zero, List.set_cons_succ]
    refine wpAnyH_take (i := 10) (v := ?_) rfl (by kernel_rfl) (by kernel_rfl) (by kernel_rfl) (fun _ _ _ h => h) (Or.inl ⟨by rfl, ?_⟩) (by assumption) ?_; rotate_left
    · (intro wz hSw; obtain ⟨z0, z1, z2, z3, z4, z5⟩ := DpH.cells hSw; clear hSw; go_simp; first | done | with_reducible rfl)
    try simp only [Act.put, List.getElem_toArray, List.getElem_cons_zero, List.getElem_cons_succ, List.setIfInBounds_toArray, List.set_cons_zero, List.set_cons_succ]
    refine wpAnyH_ready (rs := [8]) (by kernel_rfl) (by simp) ?_
    refine AllReadyH.cons rfl (fun K hK => ?_) ?_
    · rw [if_pos (by rfl)]
      go_simp
      go_at_call 17
      refine (HPL.out _ (Nat.le_trans HDs.out.dl.da.hB HDs.out.dl.da.bel.size) HDs.out.dl.da.cur).mono ?_
      rintro r x8 ⟨ix, -, -, rfl, hc8, hg8⟩
      have HD8 := hide (HDs.out.drawn hc8 hg8)
      clear hc8 hg8
      try go_simp
      refine hK.out _ _ ?_ (fun hHeld => ?_)
      · exact HD8.out.held
      clear hK K
      try simp only [Act.put, List.getElem_toArray, List.getElem_cons_zero, List.getElem_cons_succ, List.setIfInBounds_toArray, List.set_cons_zero, List.set_cons_succ]
      refine wpAnyH_take (i := 9) (v := ?_) rfl (by kernel_rfl) (by kernel_rfl) (by kernel_rfl) (fun _ _ _ h => h) (Or.inl ⟨by rfl, ?_⟩) (by assumption) ?_; rotate_left
      · (intro wz hSw; obtain ⟨z0, z1, z2, z3, z4, z5⟩ := DpH.cells hSw; clear hSw; go_simp; first | done | with_reducible rfl)
      try simp only [Act.put, List.getElem_toArray, List.getElem_cons_zero, List.getElem_cons_succ, List.setIfInBounds_toArray, List.set_cons_zero, List.set_cons_succ]
      refine wpAnyH_ready (rs := [11]) (by kernel_rfl) (by simp) ?_
      refine AllReadyH.cons rfl (fun K hK => ?_) ?_
      · have q0 := blk_cell HD8.out.dl.da.r1 0 rfl
        have q1 := blk_cell HD8.out.dl.da.r1 1 rfl
        have q2 := blk_cell HD8.out.dl.da.r1 2 rfl
        have f0 := blk_free HD8.out.dl.da.r1 0
        have f1 := blk_free HD8.out.dl.da.r1 1
        have f2 := blk_free HD8.out.dl.da.r1 2
        simp only [List.getElem_toArray, List.getElem_cons_zero, List.getElem_cons_succ] at q0 q1 q2
        obtain ⟨xx, hxx⟩ : ∃ xx, xx = (((x8.setCell ⟨w.heap.size, 0, none⟩ (Value.int IntKind.i64 s)).setCell ⟨w.heap.size, 1, none⟩ (Value.int IntKind.i64 u)).setCell ⟨w.heap.size, 2, none⟩ (Value.slice ov es.length cv)) := ⟨_, rfl⟩
        obtain ⟨yy, hyy⟩ : ∃ yy, yy = (((xx.setCell ⟨w.heap.size + 1, 0, none⟩ (Value.int IntKind.i64 et)).setCell ⟨w.heap.size + 1, 1, none⟩ (Value.int IntKind.i64 ek)).setCell ⟨w.heap.size + 1, 2, none⟩ (Value.string ez)) := ⟨_, rfl⟩
        have HF := hide (HD8.out.fin xx yy hxx hyy)
        have HYY := hide hyy
        rw [if_pos (by rfl)]
        go_simp
        rw [← hxx]
        refine hK.out _ _ ?_ (fun hHeld => ?_)
        · exact HF.out.1
        clear hK K
        try simp only [Act.put, List.getElem_toArray, List.getElem_cons_zero, List.getElem_cons_succ, List.setIfInBounds_toArray, List.set_cons_zero, List.set_cons_succ]
        clear q0 q1 q2 f0 f1 f2 hxx hyy
        refine wpAnyH_ready (rs := [12]) (by kernel_rfl) (by simp) ?_
        refine AllReadyH.cons rfl (fun K hK => ?_) ?_
        · rw [if_pos (by rfl)]
          go_simp
          refine hK.out _ _ ?_ (fun hHeld => ?_)
          · exact HF.out.1
          clear hK K
          try simp only [Act.put, List.getElem_toArray, List.getElem_cons_zero, List.getElem_cons_succ, List.setIfInBounds_toArray, List.set_cons_zero, List.set_cons_succ]
          refine wpAnyH_ready (rs := [13]) (by kernel_rfl) (by simp) ?_
          refine AllReadyH.cons rfl (fun K hK => ?_) ?_
          · have q0 := blk_cell HF.out.2.2.1 0 rfl
            have q1 := blk_cell HF.out.2.2.1 1 rfl
            have q2 := blk_cell HF.out.2.2.1 2 rfl
            have f0 := blk_free HF.out.2.2.1 0
            have f1 := blk_free HF.out.2.2.1 1
            have f2 := blk_free HF.out.2.2.1 2
            simp only [List.getElem_toArray, List.getElem_cons_zero, List.getElem_cons_succ] at q0 q1 q2
            rw [if_pos (by rfl)]
            go_simp
            rw [← HYY.out]
            refine hK.out _ _ ?_ (fun hHeld => ?_)
            · exact HF.out.2.1
            clear hK K
            try simp only [Act.put, List.getElem_toArray, List.getElem_cons_zero, List.getElem_cons_succ, List.setIfInBounds_toArray, List.set_cons_zero, List.set_cons_succ]
            clear q0 q1 q2 f0 f1 f2
            refine wpAnyH_done (by kernel_rfl) ?_ _
            clear hHeld
            obtain ⟨-, -, -, hy1, hy2, hy3, hy4⟩ := HF.out
            have j0 : yy.cell? ⟨w.heap.size, 0, none⟩ = some (.int .i64 s) := blk_cell hy1 0 rfl
            have j1 : yy.cell? ⟨w.heap.size, 1, none⟩ = some (.int .i64 u) := blk_cell hy1 1 rfl
            have j2 : yy.cell? ⟨w.heap.size, 2, none⟩ = some (.slice ov es.length cv) := blk_cell hy1 2 rfl
            have j3 : yy.cell? ⟨w.heap.size + 1, 0, none⟩ = some (.int .i64 et) := blk_cell hy2 0 rfl
            have j4 : yy.cell? ⟨w.heap.size + 1, 1, none⟩ = some (.int .i64 ek) := blk_cell hy2 1 rfl
            have j5 : yy.cell? ⟨w.heap.size + 1, 2, none⟩ = some (.string ez) := blk_cell hy2 2 rfl
            clear HYY
            try go_wp2_with fail
            refine bodyPost_ret (v := .tuple #[lgv s u (.slice ov es.length cv), .int .i64 _, .agg #[.int .i64 et, .int .i64 ek, .string ez]]) (by simp [results, Try.results5, go_sem, j0, j1, j2, j3, j4, j5]; rfl) rfl ⟨s, u, _, es, _, EntV.mk et ek ez, hel, HEW.out, HEZ.out, rfl, hy3, hy4⟩
          exact AllReadyH.nil
        exact AllReadyH.nil
      exact AllReadyH.nil
    exact AllReadyH.nil

end Go.Proofs.Ytdollofmjpgppaa
