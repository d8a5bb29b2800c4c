/-
  Draws of chapter 3: DrawCutActs (made by wip/tools/gen18.py).
-/
import Derived.Test.YtdcdlfkbdeogeaaDraw17
import Derived.Test.YtdcdlfkbdeogeaaDraw12
namespace Go.Proofs.Ytdcdlfkbdeogeaa
open Go.RowKit P1 P5 K
attribute [local go_sem ↓] Go.wp_at_zero Go.wp_at_succ
set_option linter.unusedVariables false
set_option linter.unusedSimpArgs false

/-- The cursor and the answer's variable. -/
structure DcA (B : Nat) (a : Option Addr) (len cap : Nat) (w wr : World) : Prop where
  hB : B ≤ w.heap.size
  cur : CurAt B wr (w.heap.size + 1) a len cap
  bel : Below w.heap.size w wr
  r1 : wr.heap[w.heap.size]? = some (.cells #[.slice none 0 0] 26 (0, 0))

/-- And the disk's variable, its row. -/
structure DcD (B : Nat) (a : Option Addr) (len cap : Nat) (w : World) (b : Nat) (v : Value) (gs : List FileV) (wr : World) : Prop where
  da : DcA B a len cap w wr
  bd : wr.heap[b]? = some (.cells #[v] 26 (0, 0))
  own : wr.ownsRow (w.heap.size + 2) 49 3 v gs.length (gs.flatMap fcells)
  hb : w.heap.size + 1 < b

/-- And the acts. -/
structure DcE (B : Nat) (a : Option Addr) (len cap : Nat) (w : World) (b : Nat) (v : Value) (gs : List FileV) (vo : Value) (acs : List ActV) (wr : World) : Prop where
  dd : DcD B a len cap w b v gs wr
  acts : wr.ownsRow (w.heap.size + 2) 37 4 vo acs.length (acs.flatMap acells)

section
variable {B : Nat} {a : Option Addr} {len cap : Nat} {w : World} {b : Nat} {v vo : Value} {gs : List FileV} {acs : List ActV} {w1 w2 : World}

theorem DcA.size (h : DcA B a len cap w w1) : w.heap.size + 1 < w1.heap.size := h.cur.lt

theorem DcA.drawn (h : DcA B a len cap w w1) (hc : CurAt B w2 (w.heap.size + 1) a len cap) (hg : w1.grownBy w2 (some (w.heap.size + 1))) : DcA B a len cap w w2 := by
  have hs := h.size
  exact ⟨h.hB, hc, h.bel.grown hg h.bel.size (fun k hk => by cases hk; omega), (hg.block _ (by omega) (fun e => by have := Option.some.inj e; omega)).trans h.r1⟩

theorem DcA.on (h : DcA B a len cap w w1) (hb : Below w1.heap.size w1 w2) : DcA B a len cap w w2 := by
  have hs := h.size
  have hB := h.hB
  exact ⟨hB, h.cur.kept (hb.mono (by omega)) (hb.block _ (by omega)), h.bel.trans (hb.mono h.bel.size), (hb.block _ (by omega)).trans h.r1⟩

theorem row_kept {e : TypeId} {size n p base : Nat} {xs : List Value} (h : w1.ownsRow base e size v n xs) (hg : w1.grownBy w2 (some p)) (hp : p < base) : w2.ownsRow base e size v n xs := h.kept hg (by
  cases hv : v.ownBlock with
  | none => exact Or.inl rfl
  | some g => exact Or.inr (fun e => by have := Option.some.inj e; have := (h.lt g hv).1; omega))

theorem DcD.drawn (h : DcD B a len cap w b v gs w1) (hc : CurAt B w2 (w.heap.size + 1) a len cap) (hg : w1.grownBy w2 (some (w.heap.size + 1))) : DcD B a len cap w b v gs w2 :=
  ⟨h.da.drawn hc hg, (hg.block _ (blk_lt h.bd) (fun e => by have := Option.some.inj e; have := h.hb; omega)).trans h.bd, row_kept h.own hg (by omega), h.hb⟩

theorem DcD.on (h : DcD B a len cap w b v gs w1) (hb : Below w1.heap.size w1 w2) : DcD B a len cap w b v gs w2 := ⟨h.da.on hb, (hb.block _ (blk_lt h.bd)).trans h.bd, own_below h.own hb, h.hb⟩

theorem DcE.drawn (h : DcE B a len cap w b v gs vo acs w1) (hc : CurAt B w2 (w.heap.size + 1) a len cap) (hg : w1.grownBy w2 (some (w.heap.size + 1))) : DcE B a len cap w b v gs vo acs w2 := ⟨h.dd.drawn hc hg, row_kept h.acts hg (by omega)⟩

theorem DcD.cell (h : DcD B a len cap w b v gs w1) : w1.cell? ⟨b, 0, none⟩ = some v := blk_cell h.bd 0 rfl
end

/-- A disk, acts, a place and what is left, drawn. -/
def DcPost (w : World) (r : Ending) (w' : World) : Prop :=
  ∃ (v : Value) (gs : List FileV) (gB cB : Nat) (acs : List ActV) (ix : Int) (vl : Value) (l : List Int), gs.length ≤ 40 ∧ (∀ f ∈ gs, Fine f) ∧ acs.length ≤ 9 ∧ (∀ x ∈ acs, ActFine x) ∧ l.length ≤ 5 ∧ (∀ z ∈ l, z ∈ leftL) ∧
    r = .returned (.tuple #[.agg #[v], .slice (some ⟨gB, 0, none⟩) acs.length cB, .int .i64 ix, vl]) ∧
    w'.ownsRow w.heap.size 49 3 v gs.length (gs.flatMap fcells) ∧ w'.ownsRow w.heap.size 37 4 (.slice (some ⟨gB, 0, none⟩) acs.length cB) acs.length (acs.flatMap acells) ∧ w'.ownsRow w.heap.size 3 1 vl l.length (l.map icell) ∧ Below w.heap.size w w'

set_option maxRecDepth 100000 in
set_option maxHeartbeats 8000000 in
theorem drawCutActs_any (B : Nat) (a : Option Addr) (len cap : Nat) (w : World) (hlen : len ≤ 1048576) (hB : B ≤ w.heap.size) (hcode : CodeAt B w a len) :
    Calls Try.prog 5 #[.slice a len cap] w (DcPost w) := by
  have hb0 : Below w.heap.size w (w.alloc (.cells #[.slice none 0 0] 26)) := (Below.refl _ _).alloc (Nat.le_refl _) _
  have hr1 := heap_alloc_new w (.cells #[.slice none 0 0] 26)
  have hs0 : (w.alloc (.cells #[.slice none 0 0] 26)).heap.size = w.heap.size + 1 := by simp
  have HC := hide (hcode.below (hb0.mono hB))
  clear hcode
  go_enter Try.func5, Try.ntmps5
  go_wp2_with fail
  refine (l01New_any B a len cap _ hlen (by omega) HC.out).mono ?_
  rintro r w1 ⟨rfl, hc1, hb1⟩
  have HA1 : Hid (DcA B a len cap w w1) := hide ⟨hB, by rw [hs0] at hc1; exact hc1, hb0.trans (hb1.mono (by omega)), (hb1.block _ (by omega)).trans hr1⟩
  rw [hs0]
  clear hb1 hc1 hb0 hr1 HC
  go_wp2_with fail
  have s1 := HA1.out.size
  refine (l03Disk_any B (w.heap.size + 1) a len cap _ (by omega) HA1.out.cur).mono ?_
  rintro r w2 ⟨v, gs, hgl, hgf, rfl, hc2, hg2, ho2⟩
  obtain ⟨ov, cv, rfl⟩ := own_form ho2
  have HA2 := hide (HA1.out.drawn hc2 hg2)
  have HD2 : Hid (DcD B a len cap w w2.heap.size (.slice ov gs.length cv) gs (w2.alloc (.cells #[.slice ov gs.length cv] 26))) := hide ⟨HA2.out.on ((Below.refl _ _).alloc (Nat.le_refl _) _), heap_alloc_new _ _, (own_base ho2 (by omega)).alloc _, HA2.out.size⟩
  have HGF := hide hgf
  clear hc2 hg2 ho2 HA1 hgf s1
  go_wp2_with fail
  generalize w2.alloc (Obj.cells #[Value.slice ov gs.length cv] 26) = w3 at HD2 ⊢
  obtain ⟨b, hb⟩ : ∃ b, b = w2.heap.size := ⟨_, rfl⟩
  rw [← hb] at HD2 ⊢
  clear hb HA2 hs0
  have s3 := HD2.out.da.size
  refine (l03Acts_any B (w.heap.size + 1) a len cap _ gs _ (by omega) HD2.out.da.cur HD2.out.own HGF.out (by omega)).mono ?_
  rintro r w4 ⟨vo, acs, hal, haf, ⟨gB, cB, rfl⟩, rfl, hc4, hg4, ho4⟩
  have HD4 : Hid (DcE B a len cap w b (.slice ov gs.length cv) gs (.slice (some ⟨gB, 0, none⟩) acs.length cB) acs w4) := hide ⟨HD2.out.drawn hc4 hg4, own_base ho4 (by omega)⟩
  have HAF := hide haf
  have HPL := hide (l01Place_any B (w.heap.size + 1) a len cap (acs.length + 1) (by omega) (by omega))
  have e2 : ((acs.length + 1 : Nat) : Int) = (acs.length : Int) + 1 := by omega
  rw [e2] at HPL
  have hwr : IntKind.i64.wrap ((acs.length : Int) + 1) = (acs.length : Int) + 1 := by rw [IntKind.wrap_i64]; omega
  clear hc4 hg4 ho4 HD2 haf e2 s3
  go_wp2_with fail
  have HDs : Hid (DcE B a len cap w b (.slice ov gs.length cv) gs (.slice (some ⟨gB, 0, none⟩) acs.length cB) acs w4.drew) := hide ⟨HD4.out.dd.on (Below.refl _ _).drew, own_below HD4.out.acts (Below.refl _ _).drew⟩
  clear HD4
  refine wp_region_held_drew (S := fun w' => w'.cell? ⟨b, 0, none⟩ = some (.slice ov gs.length cv)) (by kernel_rfl) HDs.out.dd.cell (fun hHeld => ?_)
  generalize w4.drew = xs at HDs hHeld ⊢
  refine wpAnyH_take (i := 0) (v := ?_) rfl (by kernel_rfl) (by kernel_rfl) (by kernel_rfl) (fun _ _ _ h => h) (Or.inl ⟨by rfl, ?_⟩) (by assumption) ?_; rotate_left
  · (intro wz hSw; replace hSw : wz.cell? ⟨b, 0, none⟩ = some (.slice ov gs.length cv) := hSw; go_simp; first | done | with_reducible rfl)
  try simp only [Act.put, List.getElem_toArray, List.getElem_cons_zero, List.getElem_cons_succ, List.setIfInBounds_toArray, List.set_cons_zero, List.set_cons_succ]
  refine wpAnyH_take (i := 1) (v := ?_) rfl (by kernel_rfl) (by kernel_rfl) (by kernel_rfl) (fun _ _ _ h => h) (Or.inl ⟨by rfl, ?_⟩) (by assumption) ?_; rotate_left
  · (intro wz hSw; replace hSw : wz.cell? ⟨b, 0, none⟩ = some (.slice ov gs.length cv) := hSw; go_simp; first | done | with_reducible rfl)
  try simp only [Act.put, List.getElem_toArray, List.getElem_cons_zero, List.getElem_cons_succ, List.setIfInBounds_toArray, List.set_cons_zero, List.set_cons_succ]
  refine wpAnyH_take (i := 2) (v := ?_) rfl (by kernel_rfl) (by kernel_rfl) (by kernel_rfl) (fun _ _ _ h => h) (Or.inl ⟨by rfl, ?_⟩) (by assumption) ?_; rotate_left
  · (intro wz hSw; replace hSw : wz.cell? ⟨b, 0, none⟩ = some (.slice ov gs.length cv) := hSw; go_simp; first | done | with_reducible rfl)
  try simp only [Act.put, List.getElem_toArray, List.getElem_cons_zero, List.getElem_cons_succ, List.setIfInBounds_toArray, List.set_cons_zero, List.set_cons_succ]
  refine wpAnyH_take (i := 3) (v := ?_) rfl (by kernel_rfl) (by kernel_rfl) (by kernel_rfl) (fun _ _ _ h => h) (Or.inl ⟨by rfl, ?_⟩) (by assumption) ?_; rotate_left
  · (intro wz hSw; replace hSw : wz.cell? ⟨b, 0, none⟩ = some (.slice ov gs.length cv) := hSw; go_simp; first | done | with_reducible rfl)
  try simp only [Act.put, List.getElem_toArray, List.getElem_cons_zero, List.getElem_cons_succ, List.setIfInBounds_toArray, List.set_cons_zero, List.set_cons_succ]
  refine wpAnyH_take (i := 4) (v := ?_) rfl (by kernel_rfl) (by kernel_rfl) (by kernel_rfl) (fun _ _ _ h => h) (Or.inl ⟨by rfl, ?_⟩) (by assumption) ?_; rotate_left
  · (intro wz hSw; replace hSw : wz.cell? ⟨b, 0, none⟩ = some (.slice ov gs.length cv) := hSw; go_simp; first | done | with_reducible rfl)
  try simp only [Act.put, List.getElem_toArray, List.getElem_cons_zero, List.getElem_cons_succ, List.setIfInBounds_toArray, List.set_cons_zero, List.set_cons_succ]
  refine wpAnyH_take (i := 5) (v := ?_) rfl (by kernel_rfl) (by kernel_rfl) (by kernel_rfl) (fun _ _ _ h => h) (Or.inl ⟨by rfl, ?_⟩) (by assumption) ?_; rotate_left
  · (intro wz hSw; replace hSw : wz.cell? ⟨b, 0, none⟩ = some (.slice ov gs.length cv) := hSw; go_simp; first | done | with_reducible rfl)
  try simp only [Act.put, List.getElem_toArray, List.getElem_cons_zero, List.getElem_cons_succ, List.setIfInBounds_toArray, List.set_cons_zero, List.set_cons_succ]
  refine wpAnyH_take (i := 7) (v := ?_) rfl (by kernel_rfl) (by kernel_rfl) (by kernel_rfl) (fun _ _ _ h => h) (Or.inl ⟨by rfl, ?_⟩) (by assumption) ?_; rotate_left
  · (intro wz hSw; replace hSw : wz.cell? ⟨b, 0, none⟩ = some (.slice ov gs.length cv) := hSw; go_simp; first | done | with_reducible rfl)
  try simp only [Act.put, List.getElem_toArray, List.getElem_cons_zero, List.getElem_cons_succ, List.setIfInBounds_toArray, List.set_cons_zero, List.set_cons_succ]
  refine wpAnyH_ready (rs := [6]) (by kernel_rfl) (by simp) ?_
  refine AllReadyH.cons rfl (fun K hK => ?_) ?_
  · rw [if_pos (by rfl)]
    go_simp
    go_at_call 16
    refine (HPL.out _ (Nat.le_trans HDs.out.dd.da.hB HDs.out.dd.da.bel.size) HDs.out.dd.da.cur).mono ?_
    rintro r x6 ⟨ix, -, -, rfl, hc6, hg6⟩
    have HD6 := hide (HDs.out.drawn hc6 hg6)
    clear hc6 hg6
    try go_simp
    refine hK.out _ _ ?_ (fun hHeld => ?_)
    · exact HD6.out.dd.cell
    clear hK K
    try simp only [Act.put, List.getElem_toArray, List.getElem_cons_zero, List.getElem_cons_succ, List.setIfInBounds_toArray, List.set_cons_zero, List.set_cons_succ]
    refine wpAnyH_ready (rs := [8]) (by kernel_rfl) (by simp) ?_
    refine AllReadyH.cons rfl (fun K hK => ?_) ?_
    · rw [if_pos (by rfl)]
      go_simp
      go_at_call 17
      refine (l03Left_any B (w.heap.size + 1) a len cap _ (Nat.le_trans HD6.out.dd.da.hB HD6.out.dd.da.bel.size) HD6.out.dd.da.cur).mono ?_
      rintro r x8 ⟨l, vl, hl5, hlz, rfl, hd8⟩
      have HD8 := hide (HD6.out.drawn hd8.cur hd8.grown)
      have HL8 := hide (own_base hd8.own HD6.out.dd.da.bel.size)
      have HL9 := hide (show ∀ g, vl.ownBlock = some g → x6.heap.size ≤ g from fun g hg => (hd8.own.lt g hg).1)
      have s6 := HD6.out.dd.da.size
      have HLZ := hide hlz
      clear hd8 hlz
      try go_simp
      refine hK.out _ _ ?_ (fun hHeld => ?_)
      · exact HD8.out.dd.cell
      clear hK K
      try simp only [Act.put, List.getElem_toArray, List.getElem_cons_zero, List.getElem_cons_succ, List.setIfInBounds_toArray, List.set_cons_zero, List.set_cons_succ]
      refine wpAnyH_ready (rs := [9]) (by kernel_rfl) (by simp) ?_
      refine AllReadyH.cons rfl (fun K hK => ?_) ?_
      · have q0 := blk_cell HD8.out.dd.da.r1 0 rfl
        have f0 := blk_free HD8.out.dd.da.r1 0
        simp only [List.getElem_toArray, List.getElem_cons_zero] at q0
        have hg9 := set_grownD x8 w.heap.size 0 (Value.slice ov gs.length cv)
        have hb9 := HD8.out.dd.hb
        have hs9 := HD8.out.dd.da.size
        have HF := hide (show (x8.setCell ⟨w.heap.size, 0, none⟩ (Value.slice ov gs.length cv)).heap[w.heap.size]? = some (.cells #[.slice ov gs.length cv] 26 (0, 0)) ∧ (x8.setCell ⟨w.heap.size, 0, none⟩ (Value.slice ov gs.length cv)).cell? ⟨b, 0, none⟩ = some (.slice ov gs.length cv) ∧ (x8.setCell ⟨w.heap.size, 0, none⟩ (Value.slice ov gs.length cv)).ownsRow w.heap.size 49 3 (Value.slice ov gs.length cv) gs.length (gs.flatMap fcells) ∧ (x8.setCell ⟨w.heap.size, 0, none⟩ (Value.slice ov gs.length cv)).ownsRow w.heap.size 37 4 (.slice (some ⟨gB, 0, none⟩) acs.length cB) acs.length (acs.flatMap acells) ∧ (x8.setCell ⟨w.heap.size, 0, none⟩ (Value.slice ov gs.length cv)).ownsRow w.heap.size 3 1 vl l.length (l.map icell) ∧ Below w.heap.size w (x8.setCell ⟨w.heap.size, 0, none⟩ (Value.slice ov gs.length cv)) from ⟨by have k := blk_set (k := 0) (Value.slice ov gs.length cv) HD8.out.dd.da.r1; simpa using k, blk_cell ((hg9.block b (blk_lt HD8.out.dd.bd) (fun e => by have := Option.some.inj e; omega)).trans HD8.out.dd.bd) 0 rfl, own_base (row_kept HD8.out.dd.own hg9 (by omega)) (by omega), own_base (row_kept HD8.out.acts hg9 (by omega)) (by omega), own_setFar HL8.out (fun g hg e1 => by have := HL9.out g hg; omega), HD8.out.dd.da.bel.grown hg9 HD8.out.dd.da.bel.size (fun k hk => by cases hk; exact Nat.le_refl _)⟩)
        rw [if_pos (by rfl)]
        go_simp
        refine hK.out _ _ ?_ (fun hHeld => ?_)
        · exact HF.out.2.1
        clear hK K
        try simp only [Act.put, List.getElem_toArray, List.getElem_cons_zero, List.getElem_cons_succ, List.setIfInBounds_toArray, List.set_cons_zero, List.set_cons_succ]
        clear q0 f0 hg9
        generalize x8.setCell ⟨w.heap.size, 0, none⟩ (Value.slice ov gs.length cv) = x9 at HF hHeld ⊢
        refine wpAnyH_ready (rs := [10]) (by kernel_rfl) (by simp) ?_
        refine AllReadyH.cons rfl (fun K hK => ?_) ?_
        · rw [if_pos (by rfl)]
          go_simp
          refine hK.out _ _ ?_ (fun hHeld => ?_)
          · exact HF.out.2.1
          clear hK K
          try simp only [Act.put, List.getElem_toArray, List.getElem_cons_zero, List.getElem_cons_succ, List.setIfInBounds_toArray, List.set_cons_zero, List.set_cons_succ]
          refine wpAnyH_ready (rs := [11]) (by kernel_rfl) (by simp) ?_
          refine AllReadyH.cons rfl (fun K hK => ?_) ?_
          · rw [if_pos (by rfl)]
            go_simp
            refine hK.out _ _ ?_ (fun hHeld => ?_)
            · exact HF.out.2.1
            clear hK K
            try simp only [Act.put, List.getElem_toArray, List.getElem_cons_zero, List.getElem_cons_succ, List.setIfInBounds_toArray, List.set_cons_zero, List.set_cons_succ]
            refine wpAnyH_ready (rs := [12]) (by kernel_rfl) (by simp) ?_
            refine AllReadyH.cons rfl (fun K hK => ?_) ?_
            · rw [if_pos (by rfl)]
              go_simp
              refine hK.out _ _ ?_ (fun hHeld => ?_)
              · exact HF.out.2.1
              clear hK K
              try simp only [Act.put, List.getElem_toArray, List.getElem_cons_zero, List.getElem_cons_succ, List.setIfInBounds_toArray, List.set_cons_zero, List.set_cons_succ]
              refine wpAnyH_done (by kernel_rfl) ?_ _
              clear hHeld
              obtain ⟨hy1, -, hy2, hy3, hy4, hy5⟩ := HF.out
              have j0 : x9.cell? ⟨w.heap.size, 0, none⟩ = some (.slice ov gs.length cv) := blk_cell hy1 0 rfl
              try go_wp2_with fail
              refine bodyPost_ret (v := .tuple #[.agg #[.slice ov gs.length cv], .slice (some ⟨gB, 0, none⟩) acs.length cB, .int .i64 ix, vl]) (by simp [results, Try.results5, go_sem, j0]) rfl ⟨_, gs, gB, cB, acs, ix, vl, l, hgl, HGF.out, hal, HAF.out, hl5, HLZ.out, rfl, hy2, hy3, hy4, hy5⟩
            exact AllReadyH.nil
          exact AllReadyH.nil
        exact AllReadyH.nil
      exact AllReadyH.nil
    exact AllReadyH.nil
  exact AllReadyH.nil

end Go.Proofs.Ytdcdlfkbdeogeaa
