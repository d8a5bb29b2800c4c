/-
  The law FnExactDoAct: its walk.
-/
import Derived.Test.YtefmigdojnielaaWalk3y
import Derived.Test.YtefmigdojnielaaWalkActs
import Derived.Test.YtefmigdojnielaaWalk3s
import Derived.Test.YtefmigdojnielaaWalk3e
import Derived.Test.YtefmigdojnielaaMarks
import Derived.Deep.RegionLaw
import Derived.Deep.CutRange
import Derived.Deep.Cut
import Derived.Deep.DeepCutAuto
namespace Go.Proofs.Ytefmigdojnielaa
open Go.RowKit P5 K
set_option linter.unusedVariables false
set_option linter.unusedSimpArgs false

theorem own_lt {w : World} {base : Nat} {e : TypeId} {g n cap size : Nat} {xs : List Value} (h : w.ownsRow base e size (.slice (some ⟨g, 0, none⟩) n cap) n xs) : base ≤ g ∧ g < w.heap.size := h.lt g rfl

theorem own_kept {w w' : World} {base : Nat} {e : TypeId} {size : Nat} {v : Value} {n : Nat} {xs : List Value} {row : Option Nat} (h : w.ownsRow base e size v n xs) (hg : w.grownBy w' row) (hne : ∀ k, v.ownBlock = some k → row ≠ some k) : w'.ownsRow base e size v n xs := by
  refine h.kept hg ?_
  cases hv : v.ownBlock with
  | none => exact Or.inl rfl
  | some k => exact Or.inr (fun e => hne k hv e.symm)

theorem actL_length (fs : List FileV) (a : ActV) : ((actL fs a).getD []).length ≤ 30 := by
  unfold actL
  split
  · cases h : doL fs a with
    | none => simp
    | some out => exact ((diskOk_iff out).1 (doL_ok h)).1
  · simp

/-- A disk that a call gave, put down in a variable of its own: what lies there, made since w1. -/
structure Kept1 (w1 wx : World) (N : Nat) (D : List FileV) (k : Nat) (ov : Option Addr) (cv : Nat) : Prop where
  own : wx.ownsRow w1.heap.size 36 3 (.slice ov N cv) N (D.flatMap fcells)
  cell : wx.cell? ⟨k, 0, none⟩ = some (.slice ov N cv)
  low : w1.heap.size ≤ k
  lt : k < wx.heap.size
  row : ∀ r, (Value.slice ov N cv).ownBlock = some r → w1.heap.size ≤ r ∧ r < wx.heap.size ∧ r ≠ k
  bel : Below w1.heap.size w1 wx

/-- The variable made, nothing put down yet. -/
structure Pend (w1 wq : World) (K : Nat) : Prop where
  low : w1.heap.size ≤ K
  lt : K < wq.heap.size
  row : wq.heap[K]? = some (.cells #[.slice none 0 0] 26 (0, 0))

theorem pend_new {w1 wq : World} (hb : Below w1.heap.size w1 wq) : Pend w1 (wq.alloc (.cells #[.slice none 0 0] 26)) wq.heap.size :=
  ⟨hb.size, by simp, heap_alloc_new _ _⟩

theorem Pend.on {w1 wq wy : World} {K : Nat} (h : Pend w1 wq K) (hb : Below wq.heap.size wq wy) : Pend w1 wy K :=
  ⟨h.low, Nat.lt_of_lt_of_le h.lt hb.size, (hb.block K h.lt).trans h.row⟩

theorem Pend.cell {w1 wq : World} {K : Nat} (h : Pend w1 wq K) : wq.cell? ⟨K, 0, none⟩ = some (.slice none 0 0) := cell_of_row wq K 0 _ _ _ h.row
theorem Pend.free {w1 wq : World} {K : Nat} (h : Pend w1 wq K) : wq.frozen? ⟨K, 0, none⟩ = false := by unfold World.frozen?; rw [h.row]; simp

theorem kept1_mk {w1 w3 : World} {N : Nat} {D : List FileV} {ov : Option Addr} {cv : Nat} (ho : w3.ownsRow w1.heap.size 36 3 (.slice ov N cv) N (D.flatMap fcells)) (hb : Below w1.heap.size w1 w3) :
    Kept1 w1 (w3.alloc (.cells #[.slice ov N cv] 26)) N D w3.heap.size ov cv :=
  ⟨ho.alloc _, by simp, hb.size, by simp, fun r hr => ⟨(ho.lt r hr).1, by have := (ho.lt r hr).2; simp; omega, by have := (ho.lt r hr).2; omega⟩, hb.alloc hb.size _⟩

theorem kept1_set {w1 w3 : World} {B K N : Nat} {D : List FileV} {ov : Option Addr} {cv : Nat} (hp : Pend w1 w3 K) (hK : K < B) (ho : w3.ownsRow B 36 3 (.slice ov N cv) N (D.flatMap fcells)) (hb : Below w1.heap.size w1 w3) :
    Kept1 w1 (w3.setCell ⟨K, 0, none⟩ (.slice ov N cv)) N D K ov cv :=
  ⟨own_base (own_setCell ho (p := ⟨K, 0, none⟩) hK _) (Nat.le_trans hp.low (Nat.le_of_lt hK)), World.cell?_setCell_same _ _ _ hp.cell, hp.low, by simpa using hp.lt, fun r hr => ⟨by have := (ho.lt r hr).1; have := hp.low; omega, by have := (ho.lt r hr).2; simpa using this, by have := (ho.lt r hr).1; omega⟩, hb.setCell hp.low _⟩

theorem Kept1.on {w1 wx wy : World} {N k cv : Nat} {D : List FileV} {ov : Option Addr} (h : Kept1 w1 wx N D k ov cv) (hb : Below wx.heap.size wx wy) : Kept1 w1 wy N D k ov cv :=
  ⟨own_below h.own hb, (hb.cell h.lt).trans h.cell, h.low, Nat.lt_of_lt_of_le h.lt hb.size, fun r hr => ⟨(h.row r hr).1, Nat.lt_of_lt_of_le (h.row r hr).2.1 hb.size, (h.row r hr).2.2⟩, h.bel.trans (hb.mono h.bel.size)⟩

/-- The same, without the memory that was there before. -/
structure Kept2 (B : Nat) (wx : World) (N : Nat) (D : List FileV) (k : Nat) (ov : Option Addr) (cv : Nat) : Prop where
  own : wx.ownsRow B 36 3 (.slice ov N cv) N (D.flatMap fcells)
  cell : wx.cell? ⟨k, 0, none⟩ = some (.slice ov N cv)
  low : B ≤ k
  lt : k < wx.heap.size
  row : ∀ r, (Value.slice ov N cv).ownBlock = some r → B ≤ r ∧ r < wx.heap.size ∧ r ≠ k

theorem Kept1.two {w1 wx : World} {N k cv : Nat} {D : List FileV} {ov : Option Addr} (h : Kept1 w1 wx N D k ov cv) : Kept2 w1.heap.size wx N D k ov cv := ⟨h.own, h.cell, h.low, h.lt, h.row⟩

theorem Kept2.on {B : Nat} {wx wy : World} {N k cv : Nat} {D : List FileV} {ov : Option Addr} (h : Kept2 B wx N D k ov cv) (hb : Below wx.heap.size wx wy) : Kept2 B wy N D k ov cv :=
  ⟨own_below h.own hb, (hb.cell h.lt).trans h.cell, h.low, Nat.lt_of_lt_of_le h.lt hb.size, fun r hr => ⟨(h.row r hr).1, Nat.lt_of_lt_of_le (h.row r hr).2.1 hb.size, (h.row r hr).2.2⟩⟩

theorem Kept2.grown {B : Nat} {wx wy : World} {N k cv : Nat} {D : List FileV} {ov : Option Addr} {row : Option Nat} (h : Kept2 B wx N D k ov cv) (hg : wx.grownBy wy row) (hne : ∀ r, row = some r → (Value.slice ov N cv).ownBlock ≠ some r ∧ r ≠ k) : Kept2 B wy N D k ov cv :=
  ⟨own_kept h.own hg (fun r hr e => (hne r e).1 hr), hg.cell h.cell (fun e => (hne _ e.symm).2 rfl), h.low, Nat.lt_of_lt_of_le h.lt hg.size, fun r hr => ⟨(h.row r hr).1, Nat.lt_of_lt_of_le (h.row r hr).2.1 hg.size, (h.row r hr).2.2⟩⟩

theorem Kept2.at_ {B : Nat} {wx : World} {N k cv : Nat} {D : List FileV} {ov : Option Addr} (h : Kept2 B wx N D k ov cv) : FilesAt wx ov N cv D := by
  obtain ⟨_, _, he, hat⟩ := filesAt_of_own h.own
  cases he
  exact hat

/-- The two parameters' own variables. -/
structure Box2 (S : Nat) (d : Value) (a : ActV) (wx : World) : Prop where
  d0 : wx.cell? ⟨S, 0, none⟩ = some d
  a0 : wx.cell? ⟨S + 1, 0, none⟩ = some (.int .i64 a.kind)
  a1 : wx.cell? ⟨S + 1, 1, none⟩ = some (.string ⟨a.name.toArray⟩)
  a2 : wx.cell? ⟨S + 1, 2, none⟩ = some (.string ⟨a.text.toArray⟩)
  a3 : wx.cell? ⟨S + 1, 3, none⟩ = some (.string ⟨a.to.toArray⟩)
  big : S + 2 ≤ wx.heap.size

theorem Box2.on {S s : Nat} {d : Value} {a : ActV} {wx wy : World} (h : Box2 S d a wx) (hb : Below s wx wy) (hs : S + 2 ≤ s) : Box2 S d a wy :=
  have f : ∀ {q : Addr} {v : Value}, q.block < s → wx.cell? q = some v → wy.cell? q = some v := fun hq hv => (hb.cell hq).trans hv
  ⟨f (by simp; omega) h.d0, f (by simp; omega) h.a0, f (by simp; omega) h.a1, f (by simp; omega) h.a2, f (by simp; omega) h.a3, Nat.le_trans h.big hb.size⟩

theorem Box2.grown {S : Nat} {d : Value} {a : ActV} {wx wy : World} {row : Option Nat} (h : Box2 S d a wx) (hg : wx.grownBy wy row) (hr : ∀ k, row = some k → S + 2 ≤ k) : Box2 S d a wy :=
  have f : ∀ {q : Addr} {v : Value}, q.block < S + 2 → wx.cell? q = some v → wy.cell? q = some v := fun hq hv => hg.cell hv (fun e => by have := hr _ e.symm; omega)
  ⟨f (by simp) h.d0, f (by simp) h.a0, f (by simp) h.a1, f (by simp) h.a2, f (by simp) h.a3, Nat.le_trans h.big hg.size⟩

set_option maxRecDepth 100000 in
set_option maxHeartbeats 2000000 in
theorem FnExactDoAct_walk (oa : Option Addr) (n cap : Nat) (fs : List FileV) (a : ActV) (w : World) (hat : FilesAt w oa n cap fs) (hw : ∀ f ∈ fs, Wide f) (ha : ActWide a) :
    Calls Try.prog 5 #[.agg #[.slice oa n cap], aval a] w fun e w' => e = .returned (.bool true) ∧ Below w.heap.size w w' := by
  have hSZ := hide (szAct_any a)
  have hTA := hide (toAct_any a)
  have hSD := hide (fun (ha : ActFine a) (oa : Option Addr) (n cap : Nat) (w : World) hat hw => specDoAct_any oa n cap fs a w hat hw ha)
  have hID := hide (fun (ha : ActFine a) (oa : Option Addr) (n cap : Nat) (w : World) hat hw => implDoAct_any oa n cap fs a w hat hw ha)
  have hN30 := actL_length fs a
  obtain ⟨D, hD⟩ : ∃ D, (actL fs a).getD [] = D := ⟨_, rfl⟩
  obtain ⟨ok, hok⟩ : ∃ ok, (actL fs a).isSome = ok := ⟨_, rfl⟩
  rw [hD] at hN30
  rw [hD, hok] at hSD hID
  obtain ⟨N, hN⟩ : ∃ N, D.length = N := ⟨_, rfl⟩
  rw [hN] at hN30
  have HN := hide hN
  clear hN hok hD
  have HA := hide ha
  have hFA : ∀ left : Int, left ≤ 1048576 → 0 ≤ szA a left → ActFine a := fun left h1 h => szA_fine h h1 ha
  have hSL : ∀ left : Int, 0 ≤ left → szA a left ≤ left := fun left h => szA_le a left h
  have HFA := hide hFA
  have HSL := hide hSL
  obtain ⟨Z, hZ⟩ : ∃ Z, szA a (szFs fs 1048576) = Z := ⟨_, rfl⟩
  have HZ := hide hZ
  clear hFA hSL hZ ha
  obtain ⟨kd, nm, tx, tt⟩ := a
  unfold aval at hSZ hTA hSD hID ⊢
  simp only at hSZ hTA hSD hID ⊢
  have hb0 := ((Below.refl w.heap.size w).alloc (Nat.le_refl _) (.cells #[.slice oa n cap] 51)).alloc (by simp) (.cells #[.int .i64 kd, .string ⟨nm.toArray⟩, .string ⟨tx.toArray⟩, .string ⟨tt.toArray⟩] 52)
  have HAT := hide hat
  have HW := hide hw
  have HB0 := hide hb0
  clear hat hw hb0
  have X0 : Box2 w.heap.size (.slice oa n cap) ⟨kd, nm, tx, tt⟩ ((w.alloc (.cells #[.slice oa n cap] 51)).alloc (.cells #[.int .i64 kd, .string ⟨nm.toArray⟩, .string ⟨tx.toArray⟩, .string ⟨tt.toArray⟩] 52)) := by
    have h0X : ((w.alloc (.cells #[.slice oa n cap] 51)).alloc (.cells #[.int .i64 kd, .string ⟨nm.toArray⟩, .string ⟨tx.toArray⟩, .string ⟨tt.toArray⟩] 52)).heap[w.heap.size]? = some (.cells #[.slice oa n cap] 51 (0, 0)) := (Below.heap_alloc _ _ _ (by simp)).trans (heap_alloc_new w _)
    have h0Y : ((w.alloc (.cells #[.slice oa n cap] 51)).alloc (.cells #[.int .i64 kd, .string ⟨nm.toArray⟩, .string ⟨tx.toArray⟩, .string ⟨tt.toArray⟩] 52)).heap[w.heap.size + 1]? = some (.cells #[.int .i64 kd, .string ⟨nm.toArray⟩, .string ⟨tx.toArray⟩, .string ⟨tt.toArray⟩] 52 (0, 0)) := by
      have := heap_alloc_new (w.alloc (.cells #[.slice oa n cap] 51)) (.cells #[.int .i64 kd, .string ⟨nm.toArray⟩, .string ⟨tx.toArray⟩, .string ⟨tt.toArray⟩] 52)
      rwa [World.size_alloc] at this
    exact ⟨cell_of_row _ _ 0 _ _ _ h0X, cell_of_row _ _ 0 _ _ _ h0Y, cell_of_row _ _ 1 _ _ _ h0Y, cell_of_row _ _ 2 _ _ _ h0Y, cell_of_row _ _ 3 _ _ _ h0Y, by simp⟩
  have HX0 := hide X0
  clear X0
  by_cases c : szFs fs 1048576 < 0
  · have g : decide (szFs fs 1048576 < 0) = true := by simpa using c
    go_enter Try.func5, Try.ntmps5
    go_wp2_with fail
    refine (szDisk_any oa n cap fs 1048576 (by omega) (by omega) _ (HAT.out.below HB0.out) HW.out).mono ?_
    rintro e w1 ⟨rfl, hb1⟩
    go_wp2_with fail
    go_ret
    exact ⟨rfl, HB0.out.trans (hb1.mono (by simp; omega))⟩
  · have g : decide (szFs fs 1048576 < 0) = false := by simpa using c
    have hle : szFs fs 1048576 ≤ 1048576 := by have := szFs_pos fs 1048576 (by omega); omega
    go_enter Try.func5, Try.ntmps5
    go_wp2_with fail
    refine (szDisk_any oa n cap fs 1048576 (by omega) (by omega) _ (HAT.out.below HB0.out) HW.out).mono ?_
    rintro e w1 ⟨rfl, hb1⟩
    have B1 := hide (HB0.out.trans (hb1.mono (by simp; omega)))
    have s1 : w.heap.size + 2 ≤ w1.heap.size := by have := hb1.size; simp at this; omega
    have X1 := HX0.out.on hb1 (by simp)
    have d0 := X1.d0
    have a0 := X1.a0
    have a1 := X1.a1
    have a2 := X1.a2
    have a3 := X1.a3
    have HX1 := hide X1
    simp only at a0 a1 a2 a3
    clear hb1 X1
    go_wp2_with fail
    refine (hSZ.out _ (by omega) (by omega) HA.out _).mono ?_
    rintro e w2 ⟨rfl, hb2⟩
    have B2 := hide (B1.out.trans (hb2.mono (by omega)))
    have X2 := HX1.out.on hb2 s1
    have s2 : w.heap.size + 2 ≤ w2.heap.size := X2.big
    rw [HZ.out]
    clear hb2 d0 a0 a1 a2 a3 B1
    by_cases cz : Z < 0
    · have gz : decide (Z < 0) = true := by simpa using cz
      go_wp2_with fail
      go_ret
      exact ⟨rfl, B2.out⟩
    have gz : decide (Z < 0) = false := by simpa using cz
    obtain ⟨hlen, hfine⟩ := fine_of_sz (Int.le_refl _) (by omega) HW.out
    have hn20 : n ≤ 1048576 := by have := HAT.out.len; omega
    have haf := HFA.out _ hle (by rw [HZ.out]; omega)
    have HSD := hide (hSD.out haf)
    have HID := hide (hID.out haf)
    have HFI := hide hfine
    have d0 := X2.d0
    have a0 := X2.a0
    have a1 := X2.a1
    have a2 := X2.a2
    have a3 := X2.a3
    simp only at a0 a1 a2 a3
    have HX2 := hide X2
    have lt2 : w.heap.size < w2.heap.size := by omega
    have lt2' : w.heap.size + 1 < w2.heap.size := by omega
    clear hSD hID hSZ HA HFA HSL hfine haf hlen X2
    go_upto_region 8 with fail
    go_cut [6, 7] (fun p b wx => ∃ k ov cv, p = .pointer (some ⟨k, 0, none⟩) ∧ b = .bool ok ∧ Kept1 w2 wx N D k ov cv)
    case first =>
      go_region_law (first
        | (rw [if_pos (by rfl)]; go_simp; go_at_call 27; have hbqp : Below w2.heap.size w2 w2.drew := (Below.refl _ _).drew; refine (toDisk_any oa n cap fs hn20 w2.drew (HAT.out.below B2.out.drew)).mono ?_; rintro e upa ⟨gp, rfl, hop, hqp⟩; have hbpa : Below w2.heap.size w2 upa := hbqp.trans (hqp.mono hbqp.size); obtain ⟨op, cp, hep, hatp⟩ := filesAt_of_own hop; cases hep; have HATp := hide hatp; have XXp := HX2.out.on hbpa HX2.out.big; have rLp : w.heap.size + 1 < upa.heap.size := (by have := XXp.big; omega); have rp0 := XXp.a0; have rp1 := XXp.a1; have rp2 := XXp.a2; have rp3 := XXp.a3; simp only at rp0 rp1 rp2 rp3; clear hatp hop XXp)
        | (rw [if_pos (by rfl)]; go_simp; go_at_call 27; have hbqp : Below w2.heap.size w2 (w2.drew.alloc (.cells #[.slice none 0 0] 26)) := (Below.refl _ _).drew.alloc (Nat.le_refl _) _; refine (toDisk_any oa n cap fs hn20 (w2.drew.alloc (.cells #[.slice none 0 0] 26)) (HAT.out.below (B2.out.trans (hbqp.mono B2.out.size)))).mono ?_; rintro e upa ⟨gp, rfl, hop, hqp⟩; have hbpa : Below w2.heap.size w2 upa := hbqp.trans (hqp.mono hbqp.size); obtain ⟨op, cp, hep, hatp⟩ := filesAt_of_own hop; cases hep; have HATp := hide hatp; have XXp := HX2.out.on hbpa HX2.out.big; have rLp : w.heap.size + 1 < upa.heap.size := (by have := XXp.big; omega); have rp0 := XXp.a0; have rp1 := XXp.a1; have rp2 := XXp.a2; have rp3 := XXp.a3; simp only at rp0 rp1 rp2 rp3; clear hatp hop XXp; have PNpa : Pend w2 upa w2.heap.size := (pend_new (w1 := w2) (wq := w2.drew) ((Below.refl _ _).drew)).on hqp)
        | (rw [if_pos (by rfl)]; go_simp; go_at_call 28; refine (hTA.out upa).mono ?_; rintro e upb ⟨rfl, hqpb⟩; have hbpb := hbpa.trans (hqpb.mono hbpa.size); have HBTp := hide (HATp.out.below hqpb); have PNpb := PNpa.on hqpb)
        | (rw [if_pos (by rfl)]; go_simp; go_at_call 28; refine (hTA.out upa).mono ?_; rintro e upb ⟨rfl, hqpb⟩; have hbpb := hbpa.trans (hqpb.mono hbpa.size); have HBTp := hide (HATp.out.below hqpb))
        | (rw [if_pos (by rfl)]; go_simp; go_at_call 28; have hzp : Below upa.heap.size upa (upa.alloc (.cells #[.slice none 0 0] 26)) := (Below.refl _ _).alloc (Nat.le_refl _) _; refine (hTA.out (upa.alloc (.cells #[.slice none 0 0] 26))).mono ?_; rintro e upb ⟨rfl, hqpb⟩; have hyp := hzp.trans (hqpb.mono hzp.size); have hbpb := hbpa.trans (hyp.mono hbpa.size); have HBTp := hide (HATp.out.below hyp); have PNpb := (pend_new hbpa).on hqpb)
        | (rw [if_pos (by rfl)]; go_simp; go_at_call 26; refine (HSD.out _ _ _ upb HBTp.out HFI.out).mono ?_; rintro e upc ⟨vp, rfl, hopc, hqpc⟩; rw [HN.out] at hopc; obtain ⟨ovp, cvp, rfl⟩ := own_form hopc; have hbpc := hbpb.trans (hqpc.mono hbpb.size); have PNpc := PNpb.on hqpc; have hkp := PNpb.lt; have yp0 := PNpc.cell; have yp1 := PNpc.free)
        | (rw [if_pos (by rfl)]; go_simp; go_at_call 26; refine (HSD.out _ _ _ upb HBTp.out HFI.out).mono ?_; rintro e upc ⟨vp, rfl, hopc, hqpc⟩; rw [HN.out] at hopc; obtain ⟨ovp, cvp, rfl⟩ := own_form hopc; have hbpc := hbpb.trans (hqpc.mono hbpb.size))
        | (rw [if_pos (by rfl)]; go_simp; go_at_call 26; have hxp : Below upb.heap.size upb (upb.alloc (.cells #[.slice none 0 0] 26)) := (Below.refl _ _).alloc (Nat.le_refl _) _; refine (HSD.out _ _ _ (upb.alloc (.cells #[.slice none 0 0] 26)) (HBTp.out.below hxp) HFI.out).mono ?_; rintro e upc ⟨vp, rfl, hopc, hqpc⟩; rw [HN.out] at hopc; obtain ⟨ovp, cvp, rfl⟩ := own_form hopc; have hwp := hxp.trans (hqpc.mono hxp.size); have hbpc := hbpb.trans (hwp.mono hbpb.size); have PNpc := (pend_new hbpb).on hqpc; have hkp := (pend_new (w1 := w2) hbpb).lt; have yp0 := PNpc.cell; have yp1 := PNpc.free))
      all_goals
        clear d0 a0 a1 a2 a3
        go_wp2_with fail
        go_meet
        first
          | exact ⟨_, _, _, rfl, rfl, kept1_set PNpc hkp hopc hbpc⟩
          | exact ⟨_, _, _, rfl, rfl, kept1_mk (own_base hopc hbpb.size) hbpc⟩
    case rest =>
      obtain ⟨kW, oW, cW, rfl, rfl, hKW⟩ := hcut
      rename World => wA
      clear d0 a0 a1 a2 a3 lt2 lt2'
      have BA := hide (B2.out.trans (hKW.bel.mono B2.out.size))
      have XA := HX2.out.on hKW.bel HX2.out.big
      have HXA := hide XA
      have d0 := XA.d0
      have HKW := hide hKW.two
      have hrW : ∀ r, (Value.slice oW N cW).ownBlock = some r → r < wA.heap.size := fun r hr => (hKW.row r hr).2.1
      have HRW := hide hrW
      have lkW : kW < wA.heap.size := hKW.lt
      have sA : w.heap.size + 2 ≤ wA.heap.size := XA.big
      clear hKW XA hrW
      go_wp2_with fail
      refine (toDisk_any oa n cap fs hn20 _ (HAT.out.below BA.out)).mono ?_
      rintro e w6 ⟨gX, rfl, hoX, hb6⟩
      clear d0
      go_upto_region 10 with fail
      have hKX := kept1_mk (w1 := wA) hoX hb6
      have hkX : w6.heap.size = w6.heap.size := rfl
      obtain ⟨kX, hkXe⟩ : ∃ k, w6.heap.size = k := ⟨_, rfl⟩
      rw [hkXe] at hKX ⊢
      obtain ⟨w7, hw7⟩ : ∃ w7, w7 = w6.alloc (.cells #[.slice (some ⟨gX, 0, none⟩) n n] 26) := ⟨_, rfl⟩
      rw [← hw7] at hKX ⊢
      clear hw7 hkXe hkX hb6 hoX
      have B7 := hide (BA.out.trans (hKX.bel.mono BA.out.size))
      have X7 := HXA.out.on hKX.bel HXA.out.big
      have HX7 := hide X7
      have a0 := X7.a0
      have a1 := X7.a1
      have a2 := X7.a2
      have a3 := X7.a3
      simp only at a0 a1 a2 a3
      have lt7 : w.heap.size + 1 < w7.heap.size := by have := X7.big; omega
      have s7 := hKX.bel.size
      have HKW7 := hide (HKW.out.on hKX.bel)
      have HKX := hide hKX.two
      have XD := hide hKX.two.at_
      have XDC := hKX.cell
      have XDL := hKX.lt
      have XDW := hKX.low
      clear X7 HKW hKX HX2 HXA
      go_cut [9, 10] (fun p b wx => ∃ k ov cv, p = .pointer (some ⟨k, 0, none⟩) ∧ b = .bool ok ∧ Kept1 w7 wx N D k ov cv)
      case first =>
        go_region_law (first
          | (rw [if_pos (by rfl)]; go_simp; go_at_call 28; refine (hTA.out w7.drew).mono ?_; rintro e uqb ⟨rfl, hqqb⟩; have hbqb : Below w7.heap.size w7 uqb := below_undrew hqqb; have HBTq := hide (XD.out.below hbqb); have rqk := (hbqb.cell (p := ⟨kX, 0, none⟩) XDL).trans XDC; have rLqk : kX < uqb.heap.size := Nat.lt_of_lt_of_le XDL hbqb.size)
          | (rw [if_pos (by rfl)]; go_simp; go_at_call 28; have hzq : Below w7.heap.size w7 (w7.drew.alloc (.cells #[.slice none 0 0] 26)) := (Below.refl _ _).drew.alloc (Nat.le_refl _) _; refine (hTA.out (w7.drew.alloc (.cells #[.slice none 0 0] 26))).mono ?_; rintro e uqb ⟨rfl, hqqb⟩; have hbqb := hzq.trans (hqqb.mono hzq.size); have HBTq := hide (XD.out.below hbqb); have rqk := (hbqb.cell (p := ⟨kX, 0, none⟩) XDL).trans XDC; have rLqk : kX < uqb.heap.size := Nat.lt_of_lt_of_le XDL hbqb.size; have PNqb : Pend w7 uqb w7.heap.size := (pend_new (w1 := w7) (wq := w7.drew) ((Below.refl _ _).drew)).on hqqb)
          | (rw [if_pos (by rfl)]; go_simp; go_at_call 20; refine (HID.out _ _ _ uqb HBTq.out HFI.out).mono ?_; rintro e uqc ⟨vq, rfl, hoqc, hqqc⟩; rw [HN.out] at hoqc; obtain ⟨ovq, cvq, rfl⟩ := own_form hoqc; have hbqc := hbqb.trans (hqqc.mono hbqb.size); have PNqc := PNqb.on hqqc; have hkq := PNqb.lt; have yq0 := PNqc.cell; have yq1 := PNqc.free)
          | (rw [if_pos (by rfl)]; go_simp; go_at_call 20; refine (HID.out _ _ _ uqb HBTq.out HFI.out).mono ?_; rintro e uqc ⟨vq, rfl, hoqc, hqqc⟩; rw [HN.out] at hoqc; obtain ⟨ovq, cvq, rfl⟩ := own_form hoqc; have hbqc := hbqb.trans (hqqc.mono hbqb.size))
          | (rw [if_pos (by rfl)]; go_simp; go_at_call 20; have hxq : Below uqb.heap.size uqb (uqb.alloc (.cells #[.slice none 0 0] 26)) := (Below.refl _ _).alloc (Nat.le_refl _) _; refine (HID.out _ _ _ (uqb.alloc (.cells #[.slice none 0 0] 26)) (HBTq.out.below hxq) HFI.out).mono ?_; rintro e uqc ⟨vq, rfl, hoqc, hqqc⟩; rw [HN.out] at hoqc; obtain ⟨ovq, cvq, rfl⟩ := own_form hoqc; have hwq := hxq.trans (hqqc.mono hxq.size); have hbqc := hbqb.trans (hwq.mono hbqb.size); have PNqc := (pend_new hbqb).on hqqc; have hkq := (pend_new (w1 := w7) hbqb).lt; have yq0 := PNqc.cell; have yq1 := PNqc.free))
        all_goals
          clear a0 a1 a2 a3 XDC
          go_wp2_with fail
          go_meet
          first
            | exact ⟨_, _, _, rfl, rfl, kept1_set PNqc hkq hoqc hbqc⟩
            | exact ⟨_, _, _, rfl, rfl, kept1_mk (own_base hoqc hbqb.size) hbqc⟩
      case rest =>
        obtain ⟨kG, oG, cG, rfl, rfl, hKG⟩ := hcut
        rename World => wB
        clear a0 a1 a2 a3 XDC
        have BB := hide (B7.out.trans (hKG.bel.mono B7.out.size))
        have HXB := hide (HX7.out.on hKG.bel HX7.out.big)
        have HKWB := hide (HKW7.out.on hKG.bel)
        have HKXB := hide (HKX.out.on hKG.bel)
        have HKGB := hide hKG.two
        have hrX : ∀ r, (Value.slice (some ⟨gX, 0, none⟩) n n).ownBlock = some r → wA.heap.size ≤ r ∧ r < w7.heap.size := fun r hr => ⟨(HKX.out.row r hr).1, (HKX.out.row r hr).2.1⟩
        have HRX := hide hrX
        have sB := hKG.bel.size
        have cW := HKWB.out.cell
        have cG := HKGB.out.cell
        have hoo : (ok != ok) = false := by cases ok <;> rfl
        clear hKG hrX HKW7 HKX XD HX7
        go_wp2_with fail
        refine (eqDisk_any _ N _ D _ N _ D (by omega) _ HKGB.out.at_ HKWB.out.at_).mono ?_
        rw [decide_eq_true (rfl : D = D)]
        rintro e w11 ⟨rfl, hb11⟩
        have HKW11 := hide (HKWB.out.on hb11)
        have HKX11 := hide (HKXB.out.on hb11)
        have HKG11 := hide (HKGB.out.on hb11)
        have HX11 := hide (HXB.out.on hb11 HXB.out.big)
        have B11 := hide (BB.out.trans (hb11.mono BB.out.size))
        have s11 := hb11.size
        have c11 := HX11.out.d0
        have e11 := HKX11.out.cell
        have lt11 : w.heap.size < w11.heap.size := by omega
        have lt11' : kX < w11.heap.size := by omega
        clear hb11 cW cG HKWB HKXB HKGB HXB
        go_wp2_with fail
        go_region_held3 (fun w' => w'.cell? ⟨w.heap.size, 0, none⟩ = some (.slice oa n cap) ∧ w'.cell? ⟨kX, 0, none⟩ = some (.slice (some ⟨gX, 0, none⟩) n n)) (first | go_keep | exact ⟨(hb12.cell (by simpa using lt11)).trans c11, (hb12.cell (by simpa using lt11')).trans e11⟩ | exact ⟨(hb13.cell (Nat.lt_of_lt_of_le lt11 hb12.size)).trans ((hb12.cell (by simpa using lt11)).trans c11), (hb13.cell (Nat.lt_of_lt_of_le lt11' hb12.size)).trans ((hb12.cell (by simpa using lt11')).trans e11)⟩)
          (first
            | (go_at_call 27; refine (toDisk_any oa n cap fs hn20 _ (HAT.out.below B11.out.drew)).mono ?_; rintro e w12 ⟨g12, rfl, hown12, hb12⟩; obtain ⟨oa12, cap12, he12, hat12⟩ := filesAt_of_own hown12; cases he12; have HAT12 := hide hat12; clear hown12 hat12)
            | (go_at_call 29; obtain ⟨oaX, capX, heX, hatX⟩ := filesAt_of_own (own_below HKX11.out.own ((Below.refl _ _).drew.trans hb12)); cases heX; refine (eqDisk_any _ n _ fs _ n _ fs hn20 _ hatX HAT12.out).mono ?_; rw [decide_eq_true (rfl : fs = fs)]; rintro e w13 ⟨rfl, hb13⟩))
        have K13 : Below w11.heap.size w11 w13 := ((Below.refl _ w11).drew.trans (hb12.mono (by simp))).trans (hb13.mono (by have := hb12.size; simpa using this))
        have s13 := K13.size
        have B13 := hide (B11.out.trans (K13.mono (by omega)))
        have HKW13 := hide (HKW11.out.on K13)
        have HKX13 := hide (HKX11.out.on K13)
        have HKG13 := hide (HKG11.out.on K13)
        have HX13 := hide (HX11.out.on K13 HX11.out.big)
        have e13 := HKX13.out.cell
        clear hb12 hb13 c11 e11 lt11 lt11' K13 HKW11 HKX11 HKG11 HX11 HAT12
        go_wp2_with fail
        refine (markDisk_any _ n _ 1 hn20 (by omega) _ _ HKX13.out.own).mono ?_
        rintro e w16 ⟨rfl, hoX16, hg16⟩
        have HKW16 := hide (HKW13.out.grown hg16 (fun r hr => ⟨fun e => by have := HRW.out r e; have := (HRX.out r hr).1; omega, by have := (HRX.out r hr).1; omega⟩))
        have HKG16 := hide (HKG13.out.grown hg16 (fun r hr => ⟨fun e => by have := (HKG13.out.row r e).1; have := (HRX.out r hr).2; omega, by have := HKG13.out.low; have := (HRX.out r hr).2; omega⟩))
        have HX16 := hide (HX13.out.grown hg16 (fun r hr => by have := (HRX.out r hr).1; omega))
        have B16 := hide (B13.out.grown hg16 (by omega) (fun r hr => by have := (HRX.out r hr).1; omega))
        have s16 := hg16.size
        have cW := HKW16.out.cell
        have cG := HKG16.out.cell
        have g17 : decide (((1 + 3 * n : Nat) : Int) < 0) = false := by simp; omega
        clear hg16 hoX16 e13 HKW13 HKX13 HKG13 HX13
        go_wp2_with fail
        refine (eqDisk_any _ N _ D _ N _ D (by omega) _ HKG16.out.at_ HKW16.out.at_).mono ?_
        rw [decide_eq_true (rfl : D = D)]
        rintro e w18 ⟨rfl, hb18⟩
        have s18 := hb18.size
        have HKW18 := hide (HKW16.out.on hb18)
        have HKG18 := hide (HKG16.out.on hb18)
        have HX18 := hide (HX16.out.on hb18 HX16.out.big)
        have B18 := hide (B16.out.trans (hb18.mono B16.out.size))
        have f18 := HKG18.out.cell
        clear hb18 cW cG HKW16 HKG16 HX16
        go_wp2_with fail
        refine (markDisk_any _ N _ 1 (by omega) (by omega) _ _ HKG18.out.own).mono ?_
        rintro e w19 ⟨rfl, hoG19, hg19⟩
        have HKW19 := hide (HKW18.out.grown hg19 (fun r hr => ⟨fun e => by have := HRW.out r e; have := (HKG18.out.row r hr).1; omega, by have := (HKG18.out.row r hr).1; omega⟩))
        have f19 := hg19.cell f18 (fun e => (HKG18.out.row _ e.symm).2.2 rfl)
        have HX19 := hide (HX18.out.grown hg19 (fun r hr => by have := (HKG18.out.row r hr).1; omega))
        have B19 := hide (B18.out.grown hg19 (by omega) (fun r hr => by have := (HKG18.out.row r hr).1; omega))
        have HOG19 := hide hoG19
        have s19 := hg19.size
        have lkG : kG < w18.heap.size := HKG18.out.lt
        have g19 : decide (((1 + 3 * N : Nat) : Int) < 0) = false := by simp; omega
        clear hg19 hoG19 f18 HKW18 HKG18 HX18
        go_wp2_with fail
        refine (heldDisk_any _ N _ 1 (by omega) (by omega) _ HOG19.out).mono ?_
        rintro e w20 ⟨rfl, hb20⟩
        have s20 := hb20.size
        have HKW20 := hide (HKW19.out.on hb20)
        have HOG20 := hide (own_below HOG19.out hb20)
        have HX20 := hide (HX19.out.on hb20 HX19.out.big)
        have B20 := hide (B19.out.trans (hb20.mono B19.out.size))
        have F20 := hide ((hb20.cell (p := ⟨kG, 0, none⟩) (by simp; omega)).trans f19)
        have d0 := HX20.out.d0
        have a0 := HX20.out.a0
        have a1 := HX20.out.a1
        have a2 := HX20.out.a2
        have a3 := HX20.out.a3
        simp only at a0 a1 a2 a3
        have lt2 : w.heap.size < w20.heap.size := by omega
        have lt2' : w.heap.size + 1 < w20.heap.size := by omega
        clear hb20 f19 HKW19 HOG19 HX19
        go_upto_region 27 with fail
        go_cut [14, 15] (fun p b wx => ∃ k ov cv, p = .pointer (some ⟨k, 0, none⟩) ∧ b = .bool ok ∧ Kept1 w20 wx N D k ov cv)
        case first =>
          go_region_law (first
            | (rw [if_pos (by rfl)]; go_simp; go_at_call 27; have hbqr : Below w20.heap.size w20 w20.drew := (Below.refl _ _).drew; refine (toDisk_any oa n cap fs hn20 w20.drew (HAT.out.below B20.out.drew)).mono ?_; rintro e ura ⟨gr, rfl, hor, hqr⟩; have hbra : Below w20.heap.size w20 ura := hbqr.trans (hqr.mono hbqr.size); obtain ⟨or, cr, her, hatr⟩ := filesAt_of_own hor; cases her; have HATr := hide hatr; have XXr := HX20.out.on hbra HX20.out.big; have rLr : w.heap.size + 1 < ura.heap.size := (by have := XXr.big; omega); have rr0 := XXr.a0; have rr1 := XXr.a1; have rr2 := XXr.a2; have rr3 := XXr.a3; simp only at rr0 rr1 rr2 rr3; clear hatr hor XXr)
            | (rw [if_pos (by rfl)]; go_simp; go_at_call 27; have hbqr : Below w20.heap.size w20 (w20.drew.alloc (.cells #[.slice none 0 0] 26)) := (Below.refl _ _).drew.alloc (Nat.le_refl _) _; refine (toDisk_any oa n cap fs hn20 (w20.drew.alloc (.cells #[.slice none 0 0] 26)) (HAT.out.below (B20.out.trans (hbqr.mono B20.out.size)))).mono ?_; rintro e ura ⟨gr, rfl, hor, hqr⟩; have hbra : Below w20.heap.size w20 ura := hbqr.trans (hqr.mono hbqr.size); obtain ⟨or, cr, her, hatr⟩ := filesAt_of_own hor; cases her; have HATr := hide hatr; have XXr := HX20.out.on hbra HX20.out.big; have rLr : w.heap.size + 1 < ura.heap.size := (by have := XXr.big; omega); have rr0 := XXr.a0; have rr1 := XXr.a1; have rr2 := XXr.a2; have rr3 := XXr.a3; simp only at rr0 rr1 rr2 rr3; clear hatr hor XXr; have PNra : Pend w20 ura w20.heap.size := (pend_new (w1 := w20) (wq := w20.drew) ((Below.refl _ _).drew)).on hqr)
            | (rw [if_pos (by rfl)]; go_simp; go_at_call 28; refine (hTA.out ura).mono ?_; rintro e urb ⟨rfl, hqrb⟩; have hbrb := hbra.trans (hqrb.mono hbra.size); have HBTr := hide (HATr.out.below hqrb); have PNrb := PNra.on hqrb)
            | (rw [if_pos (by rfl)]; go_simp; go_at_call 28; refine (hTA.out ura).mono ?_; rintro e urb ⟨rfl, hqrb⟩; have hbrb := hbra.trans (hqrb.mono hbra.size); have HBTr := hide (HATr.out.below hqrb))
            | (rw [if_pos (by rfl)]; go_simp; go_at_call 28; have hzr : Below ura.heap.size ura (ura.alloc (.cells #[.slice none 0 0] 26)) := (Below.refl _ _).alloc (Nat.le_refl _) _; refine (hTA.out (ura.alloc (.cells #[.slice none 0 0] 26))).mono ?_; rintro e urb ⟨rfl, hqrb⟩; have hyr := hzr.trans (hqrb.mono hzr.size); have hbrb := hbra.trans (hyr.mono hbra.size); have HBTr := hide (HATr.out.below hyr); have PNrb := (pend_new hbra).on hqrb)
            | (rw [if_pos (by rfl)]; go_simp; go_at_call 20; refine (HID.out _ _ _ urb HBTr.out HFI.out).mono ?_; rintro e urc ⟨vr, rfl, horc, hqrc⟩; rw [HN.out] at horc; obtain ⟨ovr, cvr, rfl⟩ := own_form horc; have hbrc := hbrb.trans (hqrc.mono hbrb.size); have PNrc := PNrb.on hqrc; have hkr := PNrb.lt; have yr0 := PNrc.cell; have yr1 := PNrc.free)
            | (rw [if_pos (by rfl)]; go_simp; go_at_call 20; refine (HID.out _ _ _ urb HBTr.out HFI.out).mono ?_; rintro e urc ⟨vr, rfl, horc, hqrc⟩; rw [HN.out] at horc; obtain ⟨ovr, cvr, rfl⟩ := own_form horc; have hbrc := hbrb.trans (hqrc.mono hbrb.size))
            | (rw [if_pos (by rfl)]; go_simp; go_at_call 20; have hxr : Below urb.heap.size urb (urb.alloc (.cells #[.slice none 0 0] 26)) := (Below.refl _ _).alloc (Nat.le_refl _) _; refine (HID.out _ _ _ (urb.alloc (.cells #[.slice none 0 0] 26)) (HBTr.out.below hxr) HFI.out).mono ?_; rintro e urc ⟨vr, rfl, horc, hqrc⟩; rw [HN.out] at horc; obtain ⟨ovr, cvr, rfl⟩ := own_form horc; have hwr := hxr.trans (hqrc.mono hxr.size); have hbrc := hbrb.trans (hwr.mono hbrb.size); have PNrc := (pend_new hbrb).on hqrc; have hkr := (pend_new (w1 := w20) hbrb).lt; have yr0 := PNrc.cell; have yr1 := PNrc.free))
          all_goals
            clear d0 a0 a1 a2 a3
            go_wp2_with fail
            go_meet
            first
              | exact ⟨_, _, _, rfl, rfl, kept1_set PNrc hkr horc hbrc⟩
              | exact ⟨_, _, _, rfl, rfl, kept1_mk (own_base horc hbrb.size) hbrc⟩
        case rest =>
          obtain ⟨kH, oH, cH, rfl, rfl, hKH⟩ := hcut
          rename World => wC
          clear d0 a0 a1 a2 a3 lt2 lt2'
          have HKWC := hide (HKW20.out.on hKH.bel)
          have HOGC := hide (own_below HOG20.out hKH.bel)
          have FC := hide ((hKH.bel.cell (p := ⟨kG, 0, none⟩) (by simp; omega)).trans F20.out)
          have BC := hide (B20.out.trans (hKH.bel.mono B20.out.size))
          have sC := hKH.bel.size
          have HKH := hide hKH.two
          have cW := HKWC.out.cell
          have cH := HKH.out.cell
          clear hKH HKW20 HOG20 F20
          go_wp2_with fail
          refine (eqDisk_any _ N _ D _ N _ D (by omega) _ HKH.out.at_ HKWC.out.at_).mono ?_
          rw [decide_eq_true (rfl : D = D)]
          rintro e w25 ⟨rfl, hb25⟩
          have f25 := (hb25.cell (p := ⟨kG, 0, none⟩) (by simp; omega)).trans FC.out
          have HOG25 := hide (own_below HOGC.out hb25)
          have B25 := hide (BC.out.trans (hb25.mono BC.out.size))
          clear hb25 cW cH HKWC HOGC FC
          go_wp2_with fail
          refine (heldDisk_any _ N _ 1 (by omega) (by omega) _ HOG25.out).mono ?_
          rintro e w26 ⟨rfl, hb26⟩
          have B26 := B25.out.trans (hb26.mono B25.out.size)
          clear hb26
          go_wp2_with fail
          go_ret
          exact ⟨rfl, B26⟩

end Go.Proofs.Ytefmigdojnielaa
