/-
  Disks that a call gave, put down in variables: what a law that draws its order keeps of them.
-/
import Derived.Test.YtdcdlfkbdeogeaaWalk3k
import Derived.Test.YtdcdlfkbdeogeaaPlain8
import Derived.Test.YtdcdlfkbdeogeaaActs
namespace Go.Proofs.Ytdcdlfkbdeogeaa.Kp
open Go.RowKit P5 K
set_option linter.unusedVariables false
set_option linter.unusedSimpArgs false

theorem own_lt {w : World} {base : Nat} {e : TypeId} {g n cap size : Nat} {xs : List Value} (h : w.ownsRow base e size (.slice (some ⟨g, 0, none⟩) n cap) n xs) : base ≤ g ∧ g < w.heap.size := h.lt g rfl

theorem own_kept {w w' : World} {base : Nat} {e : TypeId} {size : Nat} {v : Value} {n : Nat} {xs : List Value} {row : Option Nat} (h : w.ownsRow base e size v n xs) (hg : w.grownBy w' row) (hne : ∀ k, v.ownBlock = some k → row ≠ some k) : w'.ownsRow base e size v n xs := by
  refine h.kept hg ?_
  cases hv : v.ownBlock with
  | none => exact Or.inl rfl
  | some k => exact Or.inr (fun e => hne k hv e.symm)

theorem actL_length (fs : List FileV) (a : ActV) : ((actL fs a).getD []).length ≤ 30 := by
  unfold actL
  split
  · cases h : doL fs a with
    | none => simp
    | some out => exact ((diskOk_iff out).1 (doL_ok h)).1
  · simp

/-- A disk that a call gave, put down in a variable of its own: what lies there, made since w1. -/
structure Kept1 (w1 wx : World) (N : Nat) (D : List FileV) (k : Nat) (ov : Option Addr) (cv : Nat) : Prop where
  own : wx.ownsRow w1.heap.size 49 3 (.slice ov N cv) N (D.flatMap fcells)
  cell : wx.cell? ⟨k, 0, none⟩ = some (.slice ov N cv)
  low : w1.heap.size ≤ k
  lt : k < wx.heap.size
  row : ∀ r, (Value.slice ov N cv).ownBlock = some r → w1.heap.size ≤ r ∧ r < wx.heap.size ∧ r ≠ k
  bel : Below w1.heap.size w1 wx

/-- The variable made, nothing put down yet. -/
structure Pend (w1 wq : World) (K : Nat) : Prop where
  low : w1.heap.size ≤ K
  lt : K < wq.heap.size
  row : wq.heap[K]? = some (.cells #[.slice none 0 0] 26 (0, 0))

theorem pend_new {w1 wq : World} (hb : Below w1.heap.size w1 wq) : Pend w1 (wq.alloc (.cells #[.slice none 0 0] 26)) wq.heap.size :=
  ⟨hb.size, by simp, heap_alloc_new _ _⟩

theorem Pend.on {w1 wq wy : World} {K : Nat} (h : Pend w1 wq K) (hb : Below wq.heap.size wq wy) : Pend w1 wy K :=
  ⟨h.low, Nat.lt_of_lt_of_le h.lt hb.size, (hb.block K h.lt).trans h.row⟩

theorem Pend.cell {w1 wq : World} {K : Nat} (h : Pend w1 wq K) : wq.cell? ⟨K, 0, none⟩ = some (.slice none 0 0) := cell_of_row wq K 0 _ _ _ h.row
theorem Pend.free {w1 wq : World} {K : Nat} (h : Pend w1 wq K) : wq.frozen? ⟨K, 0, none⟩ = false := by unfold World.frozen?; rw [h.row]; simp

theorem kept1_mk {w1 w3 : World} {N : Nat} {D : List FileV} {ov : Option Addr} {cv : Nat} (ho : w3.ownsRow w1.heap.size 49 3 (.slice ov N cv) N (D.flatMap fcells)) (hb : Below w1.heap.size w1 w3) :
    Kept1 w1 (w3.alloc (.cells #[.slice ov N cv] 26)) N D w3.heap.size ov cv :=
  ⟨ho.alloc _, by simp, hb.size, by simp, fun r hr => ⟨(ho.lt r hr).1, by have := (ho.lt r hr).2; simp; omega, by have := (ho.lt r hr).2; omega⟩, hb.alloc hb.size _⟩

theorem kept1_set {w1 w3 : World} {B K N : Nat} {D : List FileV} {ov : Option Addr} {cv : Nat} (hp : Pend w1 w3 K) (hK : K < B) (ho : w3.ownsRow B 49 3 (.slice ov N cv) N (D.flatMap fcells)) (hb : Below w1.heap.size w1 w3) :
    Kept1 w1 (w3.setCell ⟨K, 0, none⟩ (.slice ov N cv)) N D K ov cv :=
  ⟨own_base (own_setCell ho (p := ⟨K, 0, none⟩) hK _) (Nat.le_trans hp.low (Nat.le_of_lt hK)), World.cell?_setCell_same _ _ _ hp.cell, hp.low, by simpa using hp.lt, fun r hr => ⟨by have := (ho.lt r hr).1; have := hp.low; omega, by have := (ho.lt r hr).2; simpa using this, by have := (ho.lt r hr).1; omega⟩, hb.setCell hp.low _⟩

theorem Kept1.on {w1 wx wy : World} {N k cv : Nat} {D : List FileV} {ov : Option Addr} (h : Kept1 w1 wx N D k ov cv) (hb : Below wx.heap.size wx wy) : Kept1 w1 wy N D k ov cv :=
  ⟨own_below h.own hb, (hb.cell h.lt).trans h.cell, h.low, Nat.lt_of_lt_of_le h.lt hb.size, fun r hr => ⟨(h.row r hr).1, Nat.lt_of_lt_of_le (h.row r hr).2.1 hb.size, (h.row r hr).2.2⟩, h.bel.trans (hb.mono h.bel.size)⟩

/-- The same, without the memory that was there before. -/
structure Kept2 (B : Nat) (wx : World) (N : Nat) (D : List FileV) (k : Nat) (ov : Option Addr) (cv : Nat) : Prop where
  own : wx.ownsRow B 49 3 (.slice ov N cv) N (D.flatMap fcells)
  cell : wx.cell? ⟨k, 0, none⟩ = some (.slice ov N cv)
  low : B ≤ k
  lt : k < wx.heap.size
  row : ∀ r, (Value.slice ov N cv).ownBlock = some r → B ≤ r ∧ r < wx.heap.size ∧ r ≠ k

theorem Kept1.two {w1 wx : World} {N k cv : Nat} {D : List FileV} {ov : Option Addr} (h : Kept1 w1 wx N D k ov cv) : Kept2 w1.heap.size wx N D k ov cv := ⟨h.own, h.cell, h.low, h.lt, h.row⟩

theorem Kept2.on {B : Nat} {wx wy : World} {N k cv : Nat} {D : List FileV} {ov : Option Addr} (h : Kept2 B wx N D k ov cv) (hb : Below wx.heap.size wx wy) : Kept2 B wy N D k ov cv :=
  ⟨own_below h.own hb, (hb.cell h.lt).trans h.cell, h.low, Nat.lt_of_lt_of_le h.lt hb.size, fun r hr => ⟨(h.row r hr).1, Nat.lt_of_lt_of_le (h.row r hr).2.1 hb.size, (h.row r hr).2.2⟩⟩

theorem Kept2.grown {B : Nat} {wx wy : World} {N k cv : Nat} {D : List FileV} {ov : Option Addr} {row : Option Nat} (h : Kept2 B wx N D k ov cv) (hg : wx.grownBy wy row) (hne : ∀ r, row = some r → (Value.slice ov N cv).ownBlock ≠ some r ∧ r ≠ k) : Kept2 B wy N D k ov cv :=
  ⟨own_kept h.own hg (fun r hr e => (hne r e).1 hr), hg.cell h.cell (fun e => (hne _ e.symm).2 rfl), h.low, Nat.lt_of_lt_of_le h.lt hg.size, fun r hr => ⟨(h.row r hr).1, Nat.lt_of_lt_of_le (h.row r hr).2.1 hg.size, (h.row r hr).2.2⟩⟩

theorem Kept2.at_ {B : Nat} {wx : World} {N k cv : Nat} {D : List FileV} {ov : Option Addr} (h : Kept2 B wx N D k ov cv) : FilesAt wx ov N cv D := by
  obtain ⟨_, _, he, hat⟩ := filesAt_of_own h.own
  cases he
  exact hat

/-- The two parameters' own variables. -/
structure Box2 (S : Nat) (d : Value) (a : ActV) (wx : World) : Prop where
  d0 : wx.cell? ⟨S, 0, none⟩ = some d
  a0 : wx.cell? ⟨S + 1, 0, none⟩ = some (.int .i64 a.kind)
  a1 : wx.cell? ⟨S + 1, 1, none⟩ = some (.string ⟨a.name.toArray⟩)
  a2 : wx.cell? ⟨S + 1, 2, none⟩ = some (.string ⟨a.text.toArray⟩)
  a3 : wx.cell? ⟨S + 1, 3, none⟩ = some (.string ⟨a.to.toArray⟩)
  big : S + 2 ≤ wx.heap.size

theorem Box2.on {S s : Nat} {d : Value} {a : ActV} {wx wy : World} (h : Box2 S d a wx) (hb : Below s wx wy) (hs : S + 2 ≤ s) : Box2 S d a wy :=
  have f : ∀ {q : Addr} {v : Value}, q.block < s → wx.cell? q = some v → wy.cell? q = some v := fun hq hv => (hb.cell hq).trans hv
  ⟨f (by simp; omega) h.d0, f (by simp; omega) h.a0, f (by simp; omega) h.a1, f (by simp; omega) h.a2, f (by simp; omega) h.a3, Nat.le_trans h.big hb.size⟩

theorem Box2.grown {S : Nat} {d : Value} {a : ActV} {wx wy : World} {row : Option Nat} (h : Box2 S d a wx) (hg : wx.grownBy wy row) (hr : ∀ k, row = some k → S + 2 ≤ k) : Box2 S d a wy :=
  have f : ∀ {q : Addr} {v : Value}, q.block < S + 2 → wx.cell? q = some v → wy.cell? q = some v := fun hq hv => hg.cell hv (fun e => by have := hr _ e.symm; omega)
  ⟨f (by simp) h.d0, f (by simp) h.a0, f (by simp) h.a1, f (by simp) h.a2, f (by simp) h.a3, Nat.le_trans h.big hg.size⟩

end Go.Proofs.Ytdcdlfkbdeogeaa.Kp
