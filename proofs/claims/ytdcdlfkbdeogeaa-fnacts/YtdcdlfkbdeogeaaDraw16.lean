/-
  Draws of chapter 3: any disk (made by wip/tools/gen16.py).
-/
import Derived.Test.YtdcdlfkbdeogeaaPack22
import Derived.Test.YtdcdlfkbdeogeaaPack23
import Derived.Test.YtdcdlfkbdeogeaaRowK
import Derived.Test.YtdcdlfkbdeogeaaPack25
import Derived.Test.YtdcdlfkbdeogeaaPack10
namespace Go.Proofs.Ytdcdlfkbdeogeaa
open Go.RowKit P1 P5 K
attribute [local go_sem ↓] Go.wp_at_zero Go.wp_at_succ
set_option linter.unusedVariables false
set_option linter.unusedSimpArgs false

/-- The row that the call owns is written, or new memory is made: the cursor and both variables stand. -/
theorem RvV.rowD {B p : Nat} {a : Option Addr} {len cap : Nat} {w : World} {Z : Array Value} {b : Nat} {X : Array Value} {v : Value} {n : Nat} {xs : List Value} {w1 w2 : World} (h : RvV B p a len cap w Z 26 b X 26 w1) (ho : w1.ownsRow (w.heap.size + 1) 49 3 v n xs) (hg : w1.grownBy w2 v.ownBlock) : RvV B p a len cap w Z 26 b X 26 w2 := by
  have hp := h.rs.hp
  have hB := h.rs.hB
  have hs := h.rs.size
  have hlo : ∀ g, v.ownBlock = some g → w.heap.size + 1 ≤ g := fun g hq => (ho.lt g hq).1
  have hno : ∀ i, i ≤ w.heap.size → some i ≠ v.ownBlock := fun i hi e1 => by have := hlo i e1.symm; omega
  have hbel : Below B w1 w2 := (Below.refl B w1).grown hg (by omega) (fun k hk => by have := hlo k hk; omega)
  refine ⟨⟨h.rs.cur.kept hbel (hg.block p (by omega) (hno p (by omega))), ?_, (hg.block _ hs (hno _ (Nat.le_refl _))).trans h.rs.rb, hp, hB⟩, (hg.block _ (blk_lt h.xb) (fun e1 => ?_)).trans h.xb, h.hb⟩
  · exact ⟨hg.os.trans h.rs.gr.os, hg.tape.trans h.rs.gr.tape, hg.output.trans h.rs.gr.output, Nat.le_trans h.rs.gr.size hg.size, fun i hi hne => (hg.block i (by omega) (hno i (by omega))).trans (h.rs.gr.block i hi hne)⟩
  · rcases ho.2 with ⟨rfl, -⟩ | ⟨g, cap, cur, rfl, -, hgb, -⟩
    · cases e1
    · cases e1
      have k := h.xb
      rw [hgb] at k
      cases k

/-- A disk in the making: the cursor, the answer's variable, the disk's variable, its row. -/
structure DkD (B p : Nat) (a : Option Addr) (len cap : Nat) (w : World) (b : Nat) (v : Value) (gs : List FileV) (wr : World) : Prop where
  rv : RvV B p a len cap w #[.slice none 0 0] 26 b #[v] 26 wr
  own : wr.ownsRow (w.heap.size + 1) 49 3 v gs.length (gs.flatMap fcells)

theorem set_grownD (w : World) (p k : Nat) (v : Value) : w.grownBy (w.setCell ⟨p, k, none⟩ v) (some p) :=
  ⟨rfl, rfl, rfl, by simp [World.setCell], fun j hj hne => Below.heap_setCell _ _ _ _ (fun e => hne (by rw [e]))⟩

theorem own_setFar {w : World} {base : Nat} {e : TypeId} {size : Nat} {v : Value} {n : Nat} {xs : List Value} (h : w.ownsRow base e size v n xs) {p k : Nat} {u : Value} (hne : ∀ g, v.ownBlock = some g → g ≠ p) : (w.setCell ⟨p, k, none⟩ u).ownsRow base e size v n xs := by
  refine h.kept (set_grownD w p k u) ?_
  cases hv : v.ownBlock with
  | none => exact Or.inl rfl
  | some g => exact Or.inr (fun e => hne g hv (Option.some.inj e))

/-- One cell of one file turned. -/
theorem file_set {gs : List FileV} {k : Nat} {f f' : FileV} (hf : gs[k]? = some f) (c : Nat) {u : Value} (hc : c < 3) (hu : (fcells f')[c]? = some u) (ho : ∀ j, j ≠ c → (fcells f')[j]? = (fcells f)[j]?) : (gs.flatMap fcells).set (k * 3 + c) u = (gs.set k f').flatMap fcells := by
  have hk : k < gs.length := (List.getElem?_eq_some_iff.1 hf).1
  have hfe : gs[k] = f := (List.getElem?_eq_some_iff.1 hf).2
  apply List.ext_getElem?
  intro m
  have hL : (gs.flatMap fcells).length = gs.length * 3 := flat_length fcells 3 fcells_length gs
  by_cases hm : m < gs.length * 3
  · have e1 : m / 3 * 3 + m % 3 = m := by omega
    have hq : m / 3 < gs.length := by omega
    have h1 := flat_get fcells 3 fcells_length gs (m / 3) (m % 3) hq (by omega)
    have h2 := flat_get fcells 3 fcells_length (gs.set k f') (m / 3) (m % 3) (by rw [List.length_set]; exact hq) (by omega)
    rw [e1] at h1 h2
    rw [h2]
    by_cases hmk : m = k * 3 + c
    · subst hmk
      have e2 : (k * 3 + c) / 3 = k := by omega
      have e3 : (k * 3 + c) % 3 = c := by omega
      rw [List.getElem?_set_self (by rw [hL]; omega)]
      simp only [e2, e3, List.getElem_set_self]
      exact hu.symm
    · rw [List.getElem?_set_ne (by omega), h1]
      by_cases hkk : m / 3 = k
      · have hcc : m % 3 ≠ c := by omega
        simp only [hkk, List.getElem_set_self, hfe]
        exact (ho _ hcc).symm
      · rw [List.getElem_set_ne (by omega)]
  · rw [List.getElem?_eq_none (by rw [List.length_set, hL]; omega), List.getElem?_eq_none (by rw [flat_length fcells 3 fcells_length, List.length_set]; omega)]

section
variable {B p : Nat} {a : Option Addr} {len cap : Nat} {w : World} {b : Nat} {v v' : Value} {gs fs : List FileV} {w1 w2 : World}

theorem DkD.size (h : DkD B p a len cap w b v gs w1) : B ≤ w1.heap.size ∧ w.heap.size + 1 ≤ w1.heap.size := by
  have h1 := h.rv.rs.hB
  have h2 := h.rv.rs.size
  omega

theorem DkD.drawn (h : DkD B p a len cap w b v gs w1) (hc : CurAt B w2 p a len cap) (hg : w1.grownBy w2 (some p)) : DkD B p a len cap w b v gs w2 :=
  ⟨h.rv.drawn hc hg, h.own.kept hg (by
    cases hv : v.ownBlock with
    | none => exact Or.inl rfl
    | some g =>
      right
      intro e1
      cases e1
      have := (h.own.lt _ hv).1
      have := h.rv.rs.hp
      omega)⟩

theorem DkD.on (h : DkD B p a len cap w b v gs w1) (hb : Below w1.heap.size w1 w2) : DkD B p a len cap w b v gs w2 := ⟨h.rv.on hb, own_below h.own hb⟩

theorem DkD.put (h : RvV B p a len cap w #[.slice none 0 0] 26 b #[v] 26 w1) (ho : w1.ownsRow (w.heap.size + 1) 49 3 v' fs.length (fs.flatMap fcells)) : DkD B p a len cap w b v' fs (w1.setCell ⟨b, 0, none⟩ v') := by
  refine ⟨h.put 0 [v'], own_setFar ho ?_⟩
  rcases ho.2 with ⟨rfl, -⟩ | ⟨g, cap, cur, rfl, -, hgb, -⟩
  · intro g hg; cases hg
  · intro q hq e1
    cases hq
    subst e1
    have k := h.xb
    rw [hgb] at k
    cases k

theorem DkD.cell (h : DkD B p a len cap w b v gs w1) : w1.cell? ⟨b, 0, none⟩ = some v := blk_cell h.rv.xb 0 rfl
theorem DkD.free (h : DkD B p a len cap w b v gs w1) : w1.frozen? ⟨b, 0, none⟩ = false := blk_free h.rv.xb 0
theorem DkD.lt (h : DkD B p a len cap w b v gs w1) : b < w1.heap.size := blk_lt h.rv.xb
theorem DkD.files {ov : Option Addr} {cv : Nat} (h : DkD B p a len cap w b (.slice ov gs.length cv) gs w1) : FilesAt w1 ov gs.length cv gs := by
  obtain ⟨_, _, he, hat⟩ := filesAt_of_own h.own
  cases he
  exact hat

/-- One cell of a file in the row turned. -/
theorem DkD.turn {g cv k c : Nat} {f f' : FileV} {u : Value} (h : DkD B p a len cap w b (.slice (some ⟨g, 0, none⟩) gs.length cv) gs w1) (hf : gs[k]? = some f) (hc : c < 3) (hu : (fcells f')[c]? = some u) (ho : ∀ j, j ≠ c → (fcells f')[j]? = (fcells f)[j]?) : DkD B p a len cap w b (.slice (some ⟨g, 0, none⟩) (gs.set k f').length cv) (gs.set k f') (w1.setCell ⟨g, k * 3 + c, none⟩ u) := by
  have st := h.own.stored (k * 3 + c) u
  rw [file_set hf c hc hu ho] at st
  refine ⟨?_, by rw [List.length_set]; exact st.1⟩
  rw [List.length_set]
  exact h.rv.rowD h.own (set_grownD _ _ _ _)

theorem DkD.ret (h : DkD B p a len cap w b v gs w1) : (w1.setCell ⟨w.heap.size, 0, none⟩ v).heap[w.heap.size]? = some (.cells #[v] 26 (0, 0)) ∧ CurAt B (w1.setCell ⟨w.heap.size, 0, none⟩ v) p a len cap ∧ w.grownBy (w1.setCell ⟨w.heap.size, 0, none⟩ v) (some p) ∧ (w1.setCell ⟨w.heap.size, 0, none⟩ v).ownsRow (w.heap.size + 1) 49 3 v gs.length (gs.flatMap fcells) := by
  obtain ⟨h1, h2, h3⟩ := h.rv.rs.ret [v]
  exact ⟨h1, h2, h3, own_setFar h.own (fun g hg e1 => by have := (h.own.lt g hg).1; omega)⟩
end

/-- A disk drawn: not many files, none of them long; in new memory. -/
def DkPost (B p : Nat) (a : Option Addr) (len cap : Nat) (w : World) (e : Ending) (w' : World) : Prop :=
  ∃ (v : Value) (gs : List FileV), gs.length ≤ 40 ∧ (∀ f ∈ gs, Fine f) ∧ e = .returned (.agg #[v]) ∧ CurAt B w' p a len cap ∧ w.grownBy w' (some p) ∧ w'.ownsRow (w.heap.size + 1) 49 3 v gs.length (gs.flatMap fcells)

theorem name_len {l : List UInt8} (h : nameOk l = true) : l.length ≤ 8 := by
  unfold nameOk at h
  simp only [Bool.and_eq_true, decide_eq_true_eq] at h
  exact h.2

theorem fine_small {nm tx : List UInt8} {k : Int} (h1 : nm.length ≤ 4194304) (h2 : tx.length ≤ 4194304) (h3 : -1000000000 ≤ k) (h4 : k ≤ 1000000000) : Fine ⟨nm, tx, k⟩ :=
  ⟨h1, h2, by simp [Lit.wf, IntKind.min, IntKind.max, IntKind.signed, IntKind.bits]; omega⟩

theorem fine_set {gs : List FileV} {k : Nat} {f' : FileV} (h : ∀ f ∈ gs, Fine f) (h' : Fine f') : ∀ f ∈ gs.set k f', Fine f := fun f hf => by
  rcases List.mem_or_eq_of_mem_set hf with h1 | rfl
  · exact h f h1
  · exact h'

def pick8 : List (List UInt8) := [[], [49, 50, 51, 52, 53, 54, 55, 56], [49, 50, 51, 52, 53, 54, 55, 56, 57]]
theorem pick8_at (w : World) : ∀ j, j < 3 → ∃ l, pick8[j]? = some l ∧ (w.alloc (.cells #[.string ⟨#[]⟩, .string ⟨#[49, 50, 51, 52, 53, 54, 55, 56]⟩, .string ⟨#[49, 50, 51, 52, 53, 54, 55, 56, 57]⟩] 9)).cell? ⟨w.heap.size, j, none⟩ = some (.string ⟨l.toArray⟩) := by
  intro j hj
  have hc := cell_of_row _ _ j _ _ _ (heap_alloc_new w (.cells #[.string ⟨#[]⟩, .string ⟨#[49, 50, 51, 52, 53, 54, 55, 56]⟩, .string ⟨#[49, 50, 51, 52, 53, 54, 55, 56, 57]⟩] 9))
  match j, hj with
  | 0, _ => exact ⟨_, rfl, hc⟩
  | 1, _ => exact ⟨_, rfl, hc⟩
  | 2, _ => exact ⟨_, rfl, hc⟩

/-- One file, in a block of its own, appended to a row that the call owns. -/
theorem wp_append_file {w : World} {o : Oper} {a : Act} {K : Act → World → Prop} {Q : Exit → Act → World → Prop} (s x : Operand)
    (ho : o.op = .call { callee := .builtin .append, args := #[s, x], argTypes := #[24, 24] }) (base : Nat) (v : Value) (m : Nat) (xs : List FileV) (hs : a.eval s = v) (hown : w.ownsRow base 49 3 v m (xs.flatMap fcells)) (hm : m ≤ 1048576) (hbase : base ≤ w.heap.size) (b c : Nat) (f : FileV) (hx : a.eval x = .slice (some ⟨b, 0, none⟩) 1 c) (hbk : w.heap[b]? = some (.cells #[.string ⟨f.name.toArray⟩, .string ⟨f.text.toArray⟩, .int .i64 f.kept] 49 (0, 0)))
    (h : ∀ v' w', w'.ownsRow base 49 3 v' (m + 1) ((xs ++ [f]).flatMap fcells) → w.grownBy w' v.ownBlock → K (a.put o.dst v') w') : o.wp Try.prog a w K Q := by
  obtain ⟨i0, hi, hz0, hz1, hz2⟩ := info_parts infoIFz
  refine wp_append_own w s x 24 ho base 49 i0 _ 3 40 Try.underlying24 hi hz0 hz1 hz2 rfl (by decide) v m _ hs hown ⟨b, 0, none⟩ 1 c (fcells f) hx rfl (World.news_of_block hbk) (by intro u hu; simp only [fcells, List.mem_cons, List.not_mem_nil, or_false] at hu; rcases hu with rfl | rfl | rfl <;> rfl) (by unfold maxLen; omega) (by omega) hbase ?_
  intro v' w' h1 h2 _
  refine h v' w' ?_ h2
  have hflat : (xs ++ [f]).flatMap fcells = xs.flatMap fcells ++ fcells f := by simp
  rw [hflat]
  exact h1

set_option maxRecDepth 100000 in
set_option maxHeartbeats 8000000 in
theorem l03Disk_any (B p : Nat) (a : Option Addr) (len cap : Nat) (w : World) (hB : B ≤ w.heap.size) (hc : CurAt B w p a len cap) :
    Calls Try.prog 14 #[.pointer (some ⟨p, 0, none⟩)] w (DkPost B p a len cap w) := by
  have H0 := RvS.start hB hc #[.slice none 0 0] 26
  have z0 : (w.alloc (.cells #[.slice none 0 0] 26)).heap.size = w.heap.size + 1 := by simp
  have HDa : DkD B p a len cap w (w.heap.size + 1) (.slice none 0 0) [] ((w.alloc (.cells #[.slice none 0 0] 26)).alloc (.cells #[.slice none 0 0] 26)) := by
    have hv := H0.var #[.slice none 0 0] 26
    rw [z0] at hv
    exact ⟨hv, World.ownsRow_nil _ _ _ _⟩
  have HDs0 := hide HDa
  clear hc H0 HDa z0
  go_enter Try.func14, Try.ntmps14
  go_wp2_with fail
  generalize (w.alloc (Obj.cells #[Value.slice none 0 0] 26)).alloc (Obj.cells #[Value.slice none 0 0] 26) = W0 at HDs0 ⊢
  obtain ⟨b, hb⟩ : ∃ b, b = w.heap.size + 1 := ⟨_, rfl⟩
  rw [← hb] at HDs0 ⊢
  have hwb : w.heap.size < b := by omega
  clear hb
  go_loopw [4] (fun i wr => ∃ (j : Nat) (gs : List FileV) (ov : Option Addr) (cv : Nat), i = .int .i64 (j : Int) ∧ diskOk gs = true ∧ gs.length ≤ j ∧ j ≤ 6 ∧ (∀ f ∈ gs, f.text.length ≤ 9) ∧ DkD B p a len cap w b (.slice ov gs.length cv) gs wr) (fun i _ => 6 - (intOf i).toNat)
  case atStart => exact ⟨0, [], none, 0, rfl, rfl, Nat.le_refl _, by omega, (by simp), HDs0.out⟩
  case round =>
    obtain ⟨j, gs, ov, cv, rfl, hgs, hgl, hj66, htl, hR⟩ := hrel
    have HGS := hide hgs
    have HTL := hide htl
    have HRr := hide hR
    clear hgs htl hR HDs0
    go_wp2_with fail
    refine (l01Below_any B p a len cap 6 (by omega) (by omega) _ HRr.out.rv.rs.cur).mono ?_
    rintro r w2 ⟨x, hx, rfl, hc2, hg2⟩
    have HR2 := hide (HRr.out.drawn hc2 hg2)
    clear hc2 hg2 HRr
    by_cases hjx : j < x
    · have gjx : (j : Int) < (x : Int) := by omega
      have hj6 : j < 6 := by omega
      go_wp2_with fail
      refine (l01Below_any B p a len cap 9 (by omega) (by omega) _ HR2.out.rv.rs.cur).mono ?_
      rintro r w3 ⟨tl, htl30, rfl, hc3, hg3⟩
      have HR3 := hide (HR2.out.drawn hc3 hg3)
      clear hc3 hg3 HR2
      go_wp2_with fail
      refine (l01Text_any B p a len cap tl (by omega) _ HR3.out.size.1 HR3.out.rv.rs.cur).mono ?_
      rintro r w4 ⟨tx, htx, rfl, hc4, hg4⟩
      have HD0 := hide ((HR3.out.drawn hc4 hg4).on (Below.refl _ _).drew)
      have HTX := hide (show tx.length ≤ 9 by omega)
      have htx9 : tx.length ≤ 9 := by omega
      have hbl := fun w hc => l01Below_any B p a len cap (tx.length + 1) (by omega) (by omega) w hc
      have e1 : ((tx.length + 1 : Nat) : Int) = (tx.length : Int) + 1 := by omega
      rw [e1] at hbl
      have HBL := hide hbl
      have hwr : IntKind.i64.wrap ((tx.length : Int) + 1) = (tx.length : Int) + 1 := by rw [IntKind.wrap_i64]; omega
      clear hc4 hg4 HR3 htx e1 hbl
      go_wp2_with fail
      refine wp_region_held_drew (S := fun _ => True) (by kernel_rfl) trivial (fun hHeld => ?_)
      generalize w4.drew = xs at HD0 ⊢
      refine wpAnyH_take (i := 1) (v := ?_) rfl (by kernel_rfl) (by kernel_rfl) (by kernel_rfl) (fun _ _ _ h => h) (Or.inl ⟨by rfl, ?_⟩) (by assumption) ?_; rotate_left
      · (intro w hSw; (try dsimp only at hSw); go_simp; first | done | with_reducible rfl)
      try simp only [Act.put, List.getElem_toArray, List.getElem_cons_zero, List.getElem_cons_succ, List.setIfInBounds_toArray, List.set_cons_zero, List.set_cons_succ]
      refine wpAnyH_take (i := 3) (v := ?_) rfl (by kernel_rfl) (by kernel_rfl) (by kernel_rfl) (fun _ _ _ h => h) (Or.inl ⟨by rfl, ?_⟩) (by assumption) ?_; rotate_left
      · (intro w hSw; (try dsimp only at hSw); go_simp; first | done | with_reducible rfl)
      try simp only [Act.put, List.getElem_toArray, List.getElem_cons_zero, List.getElem_cons_succ, List.setIfInBounds_toArray, List.set_cons_zero, List.set_cons_succ]
      refine wpAnyH_take (i := 4) (v := ?_) rfl (by kernel_rfl) (by kernel_rfl) (by kernel_rfl) (fun _ _ _ h => h) (Or.inl ⟨by rfl, ?_⟩) (by assumption) ?_; rotate_left
      · (intro w hSw; (try dsimp only at hSw); go_simp; first | done | with_reducible rfl)
      try simp only [Act.put, List.getElem_toArray, List.getElem_cons_zero, List.getElem_cons_succ, List.setIfInBounds_toArray, List.set_cons_zero, List.set_cons_succ]
      refine wpAnyH_take (i := 5) (v := ?_) rfl (by kernel_rfl) (by kernel_rfl) (by kernel_rfl) (fun _ _ _ h => h) (Or.inl ⟨by rfl, ?_⟩) (by assumption) ?_; rotate_left
      · (intro w hSw; (try dsimp only at hSw); go_simp; first | done | with_reducible rfl)
      try simp only [Act.put, List.getElem_toArray, List.getElem_cons_zero, List.getElem_cons_succ, List.setIfInBounds_toArray, List.set_cons_zero, List.set_cons_succ]
      refine wpAnyH_take (i := 6) (v := ?_) rfl (by kernel_rfl) (by kernel_rfl) (by kernel_rfl) (fun _ _ _ h => h) (Or.inl ⟨by rfl, ?_⟩) (by assumption) ?_; rotate_left
      · (intro w hSw; (try dsimp only at hSw); go_simp; first | done | with_reducible rfl)
      try simp only [Act.put, List.getElem_toArray, List.getElem_cons_zero, List.getElem_cons_succ, List.setIfInBounds_toArray, List.set_cons_zero, List.set_cons_succ]
      refine wpAnyH_take (i := 7) (v := ?_) rfl (by kernel_rfl) (by kernel_rfl) (by kernel_rfl) (fun _ _ _ h => h) (Or.inl ⟨by rfl, ?_⟩) (by assumption) ?_; rotate_left
      · (intro w hSw; (try dsimp only at hSw); go_simp; first | done | with_reducible rfl)
      try simp only [Act.put, List.getElem_toArray, List.getElem_cons_zero, List.getElem_cons_succ, List.setIfInBounds_toArray, List.set_cons_zero, List.set_cons_succ]
      refine wpAnyH_ready (rs := [0, 2]) (by kernel_rfl) (by simp) ?_
      refine AllReadyH.cons rfl (fun K hK => ?_) ?_
      · have hcd := HD0.out.cell
        rw [if_pos (by rfl)]
        go_simp
        refine hK.out _ _ ?_ (fun hHeld => ?_)
        · trivial
        clear hK K
        try simp only [Act.put, List.getElem_toArray, List.getElem_cons_zero, List.getElem_cons_succ, List.setIfInBounds_toArray, List.set_cons_zero, List.set_cons_succ]
        clear hcd
        refine wpAnyH_ready (rs := [2]) (by kernel_rfl) (by simp) ?_
        refine AllReadyH.cons rfl (fun K hK => ?_) ?_
        · rw [if_pos (by rfl)]
          go_simp
          go_at_call 31
          refine (l03Named_any B p a len cap _ HD0.out.size.1 HD0.out.rv.rs.cur).mono ?_
          rintro r w12 ⟨nm, hnm, rfl, hc12, hg12⟩
          have HD2 := hide (HD0.out.drawn hc12 hg12)
          have HNM := hide hnm
          clear hc12 hg12 hnm
          try go_simp
          refine hK.out _ _ ?_ (fun hHeld => ?_)
          · trivial
          clear hK K
          try simp only [Act.put, List.getElem_toArray, List.getElem_cons_zero, List.getElem_cons_succ, List.setIfInBounds_toArray, List.set_cons_zero, List.set_cons_succ]
          refine wpAnyH_ready (rs := [8]) (by kernel_rfl) (by simp) ?_
          refine AllReadyH.cons rfl (fun K hK => ?_) ?_
          · rw [if_pos (by rfl)]
            go_simp
            go_at_call 28
            refine (HBL.out _ HD2.out.rv.rs.cur).mono ?_
            rintro r w18 ⟨kp, hkp, rfl, hc18, hg18⟩
            have HD8 := hide (HD2.out.drawn hc18 hg18)
            have HKP := hide hkp
            clear hc18 hg18 hkp
            try go_simp
            refine hK.out _ _ ?_ (fun hHeld => ?_)
            · trivial
            clear hK K
            try simp only [Act.put, List.getElem_toArray, List.getElem_cons_zero, List.getElem_cons_succ, List.setIfInBounds_toArray, List.set_cons_zero, List.set_cons_succ]
            refine wpAnyH_take (i := 9) (v := ?_) rfl (by kernel_rfl) (by kernel_rfl) (by kernel_rfl) (fun _ _ _ h => h) (Or.inl ⟨by rfl, ?_⟩) (by assumption) ?_; rotate_left
            · (intro w hSw; (try dsimp only at hSw); go_simp; first | done | with_reducible rfl)
            try simp only [Act.put, List.getElem_toArray, List.getElem_cons_zero, List.getElem_cons_succ, List.setIfInBounds_toArray, List.set_cons_zero, List.set_cons_succ]
            refine wpAnyH_ready (rs := [10]) (by kernel_rfl) (by simp) ?_
            refine AllReadyH.cons rfl (fun K hK => ?_) ?_
            · rw [if_pos (by rfl)]
              go_simp
              go_at_call 30
              refine (l03Put_any ov gs.length cv gs ⟨nm, tx, (kp : Int)⟩ _ HD8.out.files (by omega)).mono ?_
              rintro r w20 ⟨v20, rfl, ho20, hb20⟩
              obtain ⟨GS, hGS⟩ : ∃ GS, GS = put gs ⟨nm, tx, (kp : Int)⟩ := ⟨_, rfl⟩
              rw [← hGS] at ho20
              have HGSS := hide hGS
              clear hGS
              obtain ⟨ov2, cv2, rfl⟩ := own_form ho20
              have HO20 := hide (own_base ho20 HD8.out.size.2)
              have HD20 := hide (HD8.out.on hb20)
              clear ho20 hb20
              try go_simp
              refine hK.out _ _ ?_ (fun hHeld => ?_)
              · trivial
              clear hK K
              try simp only [Act.put, List.getElem_toArray, List.getElem_cons_zero, List.getElem_cons_succ, List.setIfInBounds_toArray, List.set_cons_zero, List.set_cons_succ]
              refine wpAnyH_ready (rs := [11]) (by kernel_rfl) (by simp) ?_
              refine AllReadyH.cons rfl (fun K hK => ?_) ?_
              · have hcd := HD20.out.cell
                have hfz := HD20.out.free
                have HDP := hide (DkD.put HD20.out.rv HO20.out)
                rw [if_pos (by rfl)]
                go_simp
                refine hK.out _ _ ?_ (fun hHeld => ?_)
                · trivial
                clear hK K
                try simp only [Act.put, List.getElem_toArray, List.getElem_cons_zero, List.getElem_cons_succ, List.setIfInBounds_toArray, List.set_cons_zero, List.set_cons_succ]
                clear hcd hfz
                refine wpAnyH_done (by kernel_rfl) ?_ _
                clear hHeld
                have R := put_right HGS.out (file_right HNM.out (Nat.le_trans HTX.out (by omega)) HKP.out) hgl hj6
                rw [← HGSS.out] at R
                have HR2 := hide R.1
                have R3 := R.2
                clear R
                have HF2 := hide (show ∀ f ∈ GS, f.text.length ≤ 9 by rw [HGSS.out]; intro f hf; rcases mem_put hf with rfl | hf; exact HTX.out; exact HTL.out f hf)
                go_wp2_with fail
                go_roundw
                case rel => exact ⟨j + 1, GS, ov2, cv2, by go_num, HR2.out, R3, by omega, HF2.out, HDP.out⟩
                case measure => simp [intOf]; omega
              exact AllReadyH.nil
            exact AllReadyH.nil
          exact AllReadyH.nil
        exact AllReadyH.nil
      refine AllReadyH.cons rfl (fun K hK => ?_) ?_
      · rw [if_pos (by rfl)]
        go_simp
        go_at_call 31
        refine (l03Named_any B p a len cap _ HD0.out.size.1 HD0.out.rv.rs.cur).mono ?_
        rintro r w12 ⟨nm, hnm, rfl, hc12, hg12⟩
        have HD2 := hide (HD0.out.drawn hc12 hg12)
        have HNM := hide hnm
        clear hc12 hg12 hnm
        try go_simp
        refine hK.out _ _ ?_ (fun hHeld => ?_)
        · trivial
        clear hK K
        try simp only [Act.put, List.getElem_toArray, List.getElem_cons_zero, List.getElem_cons_succ, List.setIfInBounds_toArray, List.set_cons_zero, List.set_cons_succ]
        refine wpAnyH_ready (rs := [0, 8]) (by kernel_rfl) (by simp) ?_
        refine AllReadyH.cons rfl (fun K hK => ?_) ?_
        · have hcd := HD2.out.cell
          rw [if_pos (by rfl)]
          go_simp
          refine hK.out _ _ ?_ (fun hHeld => ?_)
          · trivial
          clear hK K
          try simp only [Act.put, List.getElem_toArray, List.getElem_cons_zero, List.getElem_cons_succ, List.setIfInBounds_toArray, List.set_cons_zero, List.set_cons_succ]
          clear hcd
          refine wpAnyH_ready (rs := [8]) (by kernel_rfl) (by simp) ?_
          refine AllReadyH.cons rfl (fun K hK => ?_) ?_
          · rw [if_pos (by rfl)]
            go_simp
            go_at_call 28
            refine (HBL.out _ HD2.out.rv.rs.cur).mono ?_
            rintro r w18 ⟨kp, hkp, rfl, hc18, hg18⟩
            have HD8 := hide (HD2.out.drawn hc18 hg18)
            have HKP := hide hkp
            clear hc18 hg18 hkp
            try go_simp
            refine hK.out _ _ ?_ (fun hHeld => ?_)
            · trivial
            clear hK K
            try simp only [Act.put, List.getElem_toArray, List.getElem_cons_zero, List.getElem_cons_succ, List.setIfInBounds_toArray, List.set_cons_zero, List.set_cons_succ]
            refine wpAnyH_take (i := 9) (v := ?_) rfl (by kernel_rfl) (by kernel_rfl) (by kernel_rfl) (fun _ _ _ h => h) (Or.inl ⟨by rfl, ?_⟩) (by assumption) ?_; rotate_left
            · (intro w hSw; (try dsimp only at hSw); go_simp; first | done | with_reducible rfl)
            try simp only [Act.put, List.getElem_toArray, List.getElem_cons_zero, List.getElem_cons_succ, List.setIfInBounds_toArray, List.set_cons_zero, List.set_cons_succ]
            refine wpAnyH_ready (rs := [10]) (by kernel_rfl) (by simp) ?_
            refine AllReadyH.cons rfl (fun K hK => ?_) ?_
            · rw [if_pos (by rfl)]
              go_simp
              go_at_call 30
              refine (l03Put_any ov gs.length cv gs ⟨nm, tx, (kp : Int)⟩ _ HD8.out.files (by omega)).mono ?_
              rintro r w20 ⟨v20, rfl, ho20, hb20⟩
              obtain ⟨GS, hGS⟩ : ∃ GS, GS = put gs ⟨nm, tx, (kp : Int)⟩ := ⟨_, rfl⟩
              rw [← hGS] at ho20
              have HGSS := hide hGS
              clear hGS
              obtain ⟨ov2, cv2, rfl⟩ := own_form ho20
              have HO20 := hide (own_base ho20 HD8.out.size.2)
              have HD20 := hide (HD8.out.on hb20)
              clear ho20 hb20
              try go_simp
              refine hK.out _ _ ?_ (fun hHeld => ?_)
              · trivial
              clear hK K
              try simp only [Act.put, List.getElem_toArray, List.getElem_cons_zero, List.getElem_cons_succ, List.setIfInBounds_toArray, List.set_cons_zero, List.set_cons_succ]
              refine wpAnyH_ready (rs := [11]) (by kernel_rfl) (by simp) ?_
              refine AllReadyH.cons rfl (fun K hK => ?_) ?_
              · have hcd := HD20.out.cell
                have hfz := HD20.out.free
                have HDP := hide (DkD.put HD20.out.rv HO20.out)
                rw [if_pos (by rfl)]
                go_simp
                refine hK.out _ _ ?_ (fun hHeld => ?_)
                · trivial
                clear hK K
                try simp only [Act.put, List.getElem_toArray, List.getElem_cons_zero, List.getElem_cons_succ, List.setIfInBounds_toArray, List.set_cons_zero, List.set_cons_succ]
                clear hcd hfz
                refine wpAnyH_done (by kernel_rfl) ?_ _
                clear hHeld
                have R := put_right HGS.out (file_right HNM.out (Nat.le_trans HTX.out (by omega)) HKP.out) hgl hj6
                rw [← HGSS.out] at R
                have HR2 := hide R.1
                have R3 := R.2
                clear R
                have HF2 := hide (show ∀ f ∈ GS, f.text.length ≤ 9 by rw [HGSS.out]; intro f hf; rcases mem_put hf with rfl | hf; exact HTX.out; exact HTL.out f hf)
                go_wp2_with fail
                go_roundw
                case rel => exact ⟨j + 1, GS, ov2, cv2, by go_num, HR2.out, R3, by omega, HF2.out, HDP.out⟩
                case measure => simp [intOf]; omega
              exact AllReadyH.nil
            exact AllReadyH.nil
          exact AllReadyH.nil
        refine AllReadyH.cons rfl (fun K hK => ?_) ?_
        · rw [if_pos (by rfl)]
          go_simp
          go_at_call 28
          refine (HBL.out _ HD2.out.rv.rs.cur).mono ?_
          rintro r w18 ⟨kp, hkp, rfl, hc18, hg18⟩
          have HD8 := hide (HD2.out.drawn hc18 hg18)
          have HKP := hide hkp
          clear hc18 hg18 hkp
          try go_simp
          refine hK.out _ _ ?_ (fun hHeld => ?_)
          · trivial
          clear hK K
          try simp only [Act.put, List.getElem_toArray, List.getElem_cons_zero, List.getElem_cons_succ, List.setIfInBounds_toArray, List.set_cons_zero, List.set_cons_succ]
          refine wpAnyH_take (i := 9) (v := ?_) rfl (by kernel_rfl) (by kernel_rfl) (by kernel_rfl) (fun _ _ _ h => h) (Or.inl ⟨by rfl, ?_⟩) (by assumption) ?_; rotate_left
          · (intro w hSw; (try dsimp only at hSw); go_simp; first | done | with_reducible rfl)
          try simp only [Act.put, List.getElem_toArray, List.getElem_cons_zero, List.getElem_cons_succ, List.setIfInBounds_toArray, List.set_cons_zero, List.set_cons_succ]
          refine wpAnyH_ready (rs := [0]) (by kernel_rfl) (by simp) ?_
          refine AllReadyH.cons rfl (fun K hK => ?_) ?_
          · have hcd := HD8.out.cell
            rw [if_pos (by rfl)]
            go_simp
            refine hK.out _ _ ?_ (fun hHeld => ?_)
            · trivial
            clear hK K
            try simp only [Act.put, List.getElem_toArray, List.getElem_cons_zero, List.getElem_cons_succ, List.setIfInBounds_toArray, List.set_cons_zero, List.set_cons_succ]
            clear hcd
            refine wpAnyH_ready (rs := [10]) (by kernel_rfl) (by simp) ?_
            refine AllReadyH.cons rfl (fun K hK => ?_) ?_
            · rw [if_pos (by rfl)]
              go_simp
              go_at_call 30
              refine (l03Put_any ov gs.length cv gs ⟨nm, tx, (kp : Int)⟩ _ HD8.out.files (by omega)).mono ?_
              rintro r w20 ⟨v20, rfl, ho20, hb20⟩
              obtain ⟨GS, hGS⟩ : ∃ GS, GS = put gs ⟨nm, tx, (kp : Int)⟩ := ⟨_, rfl⟩
              rw [← hGS] at ho20
              have HGSS := hide hGS
              clear hGS
              obtain ⟨ov2, cv2, rfl⟩ := own_form ho20
              have HO20 := hide (own_base ho20 HD8.out.size.2)
              have HD20 := hide (HD8.out.on hb20)
              clear ho20 hb20
              try go_simp
              refine hK.out _ _ ?_ (fun hHeld => ?_)
              · trivial
              clear hK K
              try simp only [Act.put, List.getElem_toArray, List.getElem_cons_zero, List.getElem_cons_succ, List.setIfInBounds_toArray, List.set_cons_zero, List.set_cons_succ]
              refine wpAnyH_ready (rs := [11]) (by kernel_rfl) (by simp) ?_
              refine AllReadyH.cons rfl (fun K hK => ?_) ?_
              · have hcd := HD20.out.cell
                have hfz := HD20.out.free
                have HDP := hide (DkD.put HD20.out.rv HO20.out)
                rw [if_pos (by rfl)]
                go_simp
                refine hK.out _ _ ?_ (fun hHeld => ?_)
                · trivial
                clear hK K
                try simp only [Act.put, List.getElem_toArray, List.getElem_cons_zero, List.getElem_cons_succ, List.setIfInBounds_toArray, List.set_cons_zero, List.set_cons_succ]
                clear hcd hfz
                refine wpAnyH_done (by kernel_rfl) ?_ _
                clear hHeld
                have R := put_right HGS.out (file_right HNM.out (Nat.le_trans HTX.out (by omega)) HKP.out) hgl hj6
                rw [← HGSS.out] at R
                have HR2 := hide R.1
                have R3 := R.2
                clear R
                have HF2 := hide (show ∀ f ∈ GS, f.text.length ≤ 9 by rw [HGSS.out]; intro f hf; rcases mem_put hf with rfl | hf; exact HTX.out; exact HTL.out f hf)
                go_wp2_with fail
                go_roundw
                case rel => exact ⟨j + 1, GS, ov2, cv2, by go_num, HR2.out, R3, by omega, HF2.out, HDP.out⟩
                case measure => simp [intOf]; omega
              exact AllReadyH.nil
            exact AllReadyH.nil
          exact AllReadyH.nil
        exact AllReadyH.nil
      exact AllReadyH.nil
    · have gjx : ¬ (j : Int) < (x : Int) := by omega
      have HFN : Hid (∀ f ∈ gs, Fine f) := hide (fun f hf => by
        have h1 := HTL.out f hf
        have h2 := (fileOk_iff f).1 (diskOk_mem HGS.out f hf)
        have h3 := name_len h2.1
        exact fine_small (by omega) (by omega) (by omega) (by omega))
      have hg6 : gs.length ≤ 6 := by omega
      clear HTL HGS hgl
      have c0 := HR2.out.cell
      have l0 := HR2.out.lt
      by_cases hz : gs.length = 0
      · have gz : ((gs.length : Int) == 0) = true := by rw [beq_iff_eq]; omega
        clear hz
        have r0 := blk_cell HR2.out.rv.rs.rb 0 rfl
        have t0 := blk_free HR2.out.rv.rs.rb 0
        simp only [List.getElem_toArray, List.getElem_cons_zero] at r0
        go_wp2_with fail
        obtain ⟨hr, hc9, hg9, ho9⟩ := HR2.out.ret
        generalize w2.setCell ⟨w.heap.size, 0, none⟩ (Value.slice ov gs.length cv) = wz9 at hr hc9 hg9 ho9 ⊢
        have q9 : wz9.cell? ⟨w.heap.size, 0, none⟩ = some (Value.slice ov gs.length cv) := blk_cell hr 0 rfl
        exact bodyPost_ret (v := .agg #[(Value.slice ov gs.length cv)]) (by simp [results, Try.results14, go_sem, q9]) rfl ⟨_, gs, by omega, HFN.out, rfl, hc9, hg9, ho9⟩
      · have gz : ((gs.length : Int) == 0) = false := by rw [beq_eq_false_iff_ne]; omega
        have hpos : 0 < gs.length := by omega
        clear hz
        obtain ⟨g, rfl⟩ : ∃ g, ov = some ⟨g, 0, none⟩ := by
          rcases HR2.out.own.2 with ⟨h1, h2⟩ | ⟨g, cp, cur, h1, _⟩
          · omega
          · injection h1 with h1 h2 h3
            exact ⟨g, h1⟩
        go_wp2_with fail
        refine (l01Below_any B p a len cap gs.length (by omega) (by omega) _ HR2.out.rv.rs.cur).mono ?_
        rintro r w3 ⟨k, hk, rfl, hc3, hg3⟩
        have HR3 := hide (HR2.out.drawn hc3 hg3)
        clear hc3 hg3 HR2 c0 l0
        go_wp2_with fail
        refine (l01Below_any B p a len cap 40 (by omega) (by omega) _ HR3.out.rv.rs.cur).mono ?_
        rintro r w4 ⟨y, hy, rfl, hc4, hg4⟩
        have HR4 := hide (HR3.out.drawn hc4 hg4)
        clear hc4 hg4 HR3
        have hidx : ∀ wx, (Instr.indexAt 24 (.slice (some ⟨g, 0, none⟩) gs.length cv) (.int .i64 (k : Int))).run Try.prog wx = .ok (.pointer (some ⟨g, k * 3, none⟩)) wx := fun wx => by
          have := run_indexAt_slice wx 24 49 3 Try.underlying24 infoIF g 0 gs.length cv k hk
          rwa [Nat.zero_add] at this
        obtain ⟨f, hf⟩ : ∃ f, gs[k]? = some f := ⟨_, List.getElem?_eq_getElem hk⟩
        have HF := hide hf
        have HFF := hide (HFN.out f (List.mem_of_getElem? hf))
        clear hf
        by_cases y0 : y = 0
        · subst y0
          have TXC : ∀ {wx : World}, DkD B p a len cap w b (.slice (some ⟨g, 0, none⟩) gs.length cv) gs wx → wx.cell? ⟨g, k * 3 + 1, none⟩ = some (.string ⟨f.text.toArray⟩) := fun {wx} h => by
            have h1 := h.own.cellAt (k * 3 + 1) (by omega)
            have h2 := flat_get fcells 3 fcells_length gs k 1 hk (by omega)
            rw [h1, h2, (List.getElem?_eq_some_iff.1 HF.out).2]
            rfl
          have ht4 := HFF.out.2.1
          have hwr : IntKind.i64.wrap ((f.text.length : Int) + 1) = (f.text.length : Int) + 1 := by rw [IntKind.wrap_i64]; omega
          go_wp2_with fail
          have HDs := hide (HR4.out.on (Below.refl _ _).drew)
          clear HR4
          refine wp_region_held_drew (S := (fun w' => w'.cell? ⟨b, 0, none⟩ = some (.slice (some ⟨g, 0, none⟩) gs.length cv) ∧ w'.cell? ⟨g, k * 3 + 1, none⟩ = some (.string ⟨f.text.toArray⟩))) (by kernel_rfl) ⟨HDs.out.cell, TXC HDs.out⟩ (fun hHeld => ?_)
          generalize w4.drew = xs at HDs hHeld ⊢
          refine wpAnyH_take (i := 0) (v := ?_) rfl (by kernel_rfl) (by kernel_rfl) (by kernel_rfl) (fun _ _ _ h => h) (Or.inl ⟨by rfl, ?_⟩) (by assumption) ?_; rotate_left
          · (intro wz hSw; obtain ⟨s0, s1⟩ := hSw; go_simp; first | done | with_reducible rfl)
          try simp only [Act.put, List.getElem_toArray, List.getElem_cons_zero, List.getElem_cons_succ, List.setIfInBounds_toArray, List.set_cons_zero, List.set_cons_succ]
          refine wpAnyH_take (i := 1) (v := ?_) rfl (by kernel_rfl) (by kernel_rfl) (by kernel_rfl) (fun _ _ _ h => h) (Or.inl ⟨by rfl, ?_⟩) (by assumption) ?_; rotate_left
          · (intro wz hSw; obtain ⟨s0, s1⟩ := hSw; go_simp; first | done | with_reducible rfl)
          try simp only [Act.put, List.getElem_toArray, List.getElem_cons_zero, List.getElem_cons_succ, List.setIfInBounds_toArray, List.set_cons_zero, List.set_cons_succ]
          refine wpAnyH_take (i := 2) (v := ?_) rfl (by kernel_rfl) (by kernel_rfl) (by kernel_rfl) (fun _ _ _ h => h) (Or.inl ⟨by rfl, ?_⟩) (by assumption) ?_; rotate_left
          · (intro wz hSw; obtain ⟨s0, s1⟩ := hSw; go_simp; first | done | with_reducible rfl)
          try simp only [Act.put, List.getElem_toArray, List.getElem_cons_zero, List.getElem_cons_succ, List.setIfInBounds_toArray, List.set_cons_zero, List.set_cons_succ]
          refine wpAnyH_take (i := 3) (v := ?_) rfl (by kernel_rfl) (by kernel_rfl) (by kernel_rfl) (fun _ _ _ h => h) (Or.inl ⟨by rfl, ?_⟩) (by assumption) ?_; rotate_left
          · (intro wz hSw; obtain ⟨s0, s1⟩ := hSw; go_simp; first | done | with_reducible rfl)
          try simp only [Act.put, List.getElem_toArray, List.getElem_cons_zero, List.getElem_cons_succ, List.setIfInBounds_toArray, List.set_cons_zero, List.set_cons_succ]
          refine wpAnyH_take (i := 4) (v := ?_) rfl (by kernel_rfl) (by kernel_rfl) (by kernel_rfl) (fun _ _ _ h => h) (Or.inl ⟨by rfl, ?_⟩) (by assumption) ?_; rotate_left
          · (intro wz hSw; obtain ⟨s0, s1⟩ := hSw; go_simp; first | done | with_reducible rfl)
          try simp only [Act.put, List.getElem_toArray, List.getElem_cons_zero, List.getElem_cons_succ, List.setIfInBounds_toArray, List.set_cons_zero, List.set_cons_succ]
          refine wpAnyH_take (i := 5) (v := ?_) rfl (by kernel_rfl) (by kernel_rfl) (by kernel_rfl) (fun _ _ _ h => h) (Or.inl ⟨by rfl, ?_⟩) (by assumption) ?_; rotate_left
          · (intro wz hSw; obtain ⟨s0, s1⟩ := hSw; go_simp; first | done | with_reducible rfl)
          try simp only [Act.put, List.getElem_toArray, List.getElem_cons_zero, List.getElem_cons_succ, List.setIfInBounds_toArray, List.set_cons_zero, List.set_cons_succ]
          refine wpAnyH_take (i := 6) (v := ?_) rfl (by kernel_rfl) (by kernel_rfl) (by kernel_rfl) (fun _ _ _ h => h) (Or.inl ⟨by rfl, ?_⟩) (by assumption) ?_; rotate_left
          · (intro wz hSw; obtain ⟨s0, s1⟩ := hSw; go_simp; first | done | with_reducible rfl)
          try simp only [Act.put, List.getElem_toArray, List.getElem_cons_zero, List.getElem_cons_succ, List.setIfInBounds_toArray, List.set_cons_zero, List.set_cons_succ]
          refine wpAnyH_take (i := 7) (v := ?_) rfl (by kernel_rfl) (by kernel_rfl) (by kernel_rfl) (fun _ _ _ h => h) (Or.inl ⟨by rfl, ?_⟩) (by assumption) ?_; rotate_left
          · (intro wz hSw; obtain ⟨s0, s1⟩ := hSw; go_simp; first | done | with_reducible rfl)
          try simp only [Act.put, List.getElem_toArray, List.getElem_cons_zero, List.getElem_cons_succ, List.setIfInBounds_toArray, List.set_cons_zero, List.set_cons_succ]
          refine wpAnyH_take (i := 8) (v := ?_) rfl (by kernel_rfl) (by kernel_rfl) (by kernel_rfl) (fun _ _ _ h => h) (Or.inl ⟨by rfl, ?_⟩) (by assumption) ?_; rotate_left
          · (intro wz hSw; obtain ⟨s0, s1⟩ := hSw; go_simp; first | done | with_reducible rfl)
          try simp only [Act.put, List.getElem_toArray, List.getElem_cons_zero, List.getElem_cons_succ, List.setIfInBounds_toArray, List.set_cons_zero, List.set_cons_succ]
          refine wpAnyH_take (i := 9) (v := ?_) rfl (by kernel_rfl) (by kernel_rfl) (by kernel_rfl) (fun _ _ _ h => h) (Or.inl ⟨by rfl, ?_⟩) (by assumption) ?_; rotate_left
          · (intro wz hSw; obtain ⟨s0, s1⟩ := hSw; go_simp; first | done | with_reducible rfl)
          try simp only [Act.put, List.getElem_toArray, List.getElem_cons_zero, List.getElem_cons_succ, List.setIfInBounds_toArray, List.set_cons_zero, List.set_cons_succ]
          refine wpAnyH_take (i := 10) (v := ?_) rfl (by kernel_rfl) (by kernel_rfl) (by kernel_rfl) (fun _ _ _ h => h) (Or.inl ⟨by rfl, ?_⟩) (by assumption) ?_; rotate_left
          · (intro wz hSw; obtain ⟨s0, s1⟩ := hSw; go_simp; first | done | with_reducible rfl)
          try simp only [Act.put, List.getElem_toArray, List.getElem_cons_zero, List.getElem_cons_succ, List.setIfInBounds_toArray, List.set_cons_zero, List.set_cons_succ]
          refine wpAnyH_take (i := 11) (v := ?_) rfl (by kernel_rfl) (by kernel_rfl) (by kernel_rfl) (fun _ _ _ h => h) (Or.inl ⟨by rfl, ?_⟩) (by assumption) ?_; rotate_left
          · (intro wz hSw; obtain ⟨s0, s1⟩ := hSw; go_simp; first | done | with_reducible rfl)
          try simp only [Act.put, List.getElem_toArray, List.getElem_cons_zero, List.getElem_cons_succ, List.setIfInBounds_toArray, List.set_cons_zero, List.set_cons_succ]
          refine wpAnyH_ready (rs := [12]) (by kernel_rfl) (by simp) ?_
          refine AllReadyH.cons rfl (fun K hK => ?_) ?_
          · have HD5 := hide (HDs.out.on ((Below.refl _ _).alloc (Nat.le_refl _) (Obj.cells (I64z [(-1 : Int), (f.text.length : Int) + 1]).toArray 3)))
            have HO5 := hide (World.ownsRow_lit (base := xs.heap.size) (size := 1) xs (e := 3) (I64z [(-1 : Int), (f.text.length : Int) + 1]).toArray 2 (Nat.le_refl _) (by decide) (by simp [I64z]))
            have hp5 : p < xs.heap.size := HDs.out.rv.rs.cur.lt
            rw [if_pos (by rfl)]
            go_simp
            refine hK.out _ _ ?_ (fun hHeld => ?_)
            · exact ⟨HD5.out.cell, TXC HD5.out⟩
            clear hK K
            try simp only [Act.put, List.getElem_toArray, List.getElem_cons_zero, List.getElem_cons_succ, List.setIfInBounds_toArray, List.set_cons_zero, List.set_cons_succ]
            have HD5 : Hid (DkD B p a len cap w b (.slice (some ⟨g, 0, none⟩) gs.length cv) gs (xs.alloc (Obj.cells #[Value.int IntKind.i64 (-1), Value.int IntKind.i64 ((f.text.length : Int) + 1)] 3))) := HD5
            refine wpAnyH_ready (rs := [13]) (by kernel_rfl) (by simp) ?_
            refine AllReadyH.cons rfl (fun K hK => ?_) ?_
            · rw [if_pos (by rfl)]
              go_simp
              go_at_call 32
              refine (l01PickInt_any B p a len cap xs.heap.size _ [(-1 : Int), (f.text.length : Int) + 1] (by simp) (by simp) _ hp5 HO5.out HD5.out.rv.rs.cur).mono ?_
              rintro r x6 ⟨m, hm, rfl, hc6, hg6⟩
              have HD6 := hide (HD5.out.drawn hc6 hg6)
              have hm2 : -1 ≤ m ∧ m ≤ 5000000 := by simp at hm; have := HFF.out.2.1; omega
              clear hc6 hg6 hm
              try go_simp
              refine hK.out _ _ ?_ (fun hHeld => ?_)
              · exact ⟨HD6.out.cell, TXC HD6.out⟩
              clear hK K
              try simp only [Act.put, List.getElem_toArray, List.getElem_cons_zero, List.getElem_cons_succ, List.setIfInBounds_toArray, List.set_cons_zero, List.set_cons_succ]
              refine wpAnyH_take (i := 14) (v := ?_) rfl (by kernel_rfl) (by kernel_rfl) (by kernel_rfl) (fun _ _ _ h => h) (Or.inl ⟨by rfl, ?_⟩) (by assumption) ?_; rotate_left
              · (intro wz hSw; obtain ⟨s0, s1⟩ := hSw; go_simp; first | done | with_reducible rfl)
              try simp only [Act.put, List.getElem_toArray, List.getElem_cons_zero, List.getElem_cons_succ, List.setIfInBounds_toArray, List.set_cons_zero, List.set_cons_succ]
              refine wpAnyH_take (i := 15) (v := ?_) rfl (by kernel_rfl) (by kernel_rfl) (by kernel_rfl) (fun _ _ _ h => h) (Or.inl ⟨by rfl, ?_⟩) (by assumption) ?_; rotate_left
              · (intro wz hSw; obtain ⟨s0, s1⟩ := hSw; go_simp; first | done | with_reducible rfl)
              try simp only [Act.put, List.getElem_toArray, List.getElem_cons_zero, List.getElem_cons_succ, List.setIfInBounds_toArray, List.set_cons_zero, List.set_cons_succ]
              refine wpAnyH_ready (rs := [16]) (by kernel_rfl) (by simp) ?_
              refine AllReadyH.cons rfl (fun K hK => ?_) ?_
              · obtain ⟨⟨y0, z0⟩, ⟨y1, z1⟩, ⟨y2, z2⟩⟩ := own_three HD6.out.own k hk
                have f2 := HD6.out.own.frozenAt (k * 3 + 2)
                have HDT := hide (HD6.out.turn (f' := ⟨f.name, f.text, m⟩) (c := 2) (u := .int .i64 m) HF.out (by omega) rfl (by intro j hj; match j with | 0 => rfl | 1 => rfl | 2 => exact absurd rfl hj | j + 3 => rfl))
                rw [if_pos (by rfl)]
                go_simp
                refine hK.out _ _ ?_ (fun hHeld => ?_)
                · exact ⟨by have h := HDT.out.cell; rw [List.length_set] at h; exact h, (by have h1 := HDT.out.own.cellAt (k * 3 + 1) (by rw [List.length_set]; omega); have h2 := flat_get fcells 3 fcells_length (gs.set k ⟨f.name, f.text, m⟩) k 1 (by rw [List.length_set]; exact hk) (by omega); rw [h1, h2, List.getElem_set_self]; rfl)⟩
                clear hK K
                try simp only [Act.put, List.getElem_toArray, List.getElem_cons_zero, List.getElem_cons_succ, List.setIfInBounds_toArray, List.set_cons_zero, List.set_cons_succ]
                clear z0 z1 z2 f2
                refine wpAnyH_done (by kernel_rfl) ?_ _
                clear hHeld
                obtain ⟨GS, hGS⟩ : ∃ GS, GS = gs.set k ⟨f.name, f.text, m⟩ := ⟨_, rfl⟩
                rw [← hGS] at HDT
                have hgl : GS.length = gs.length := by rw [hGS, List.length_set]
                have HFG := hide (show ∀ q ∈ GS, Fine q by rw [hGS]; exact fine_set HFN.out (fine_small HFF.out.1 HFF.out.2.1 (by omega) (by omega)))
                rw [← hgl]
                generalize x6.setCell ⟨g, k * 3 + 2, none⟩ (Value.int IntKind.i64 m) = xz at HDT ⊢
                have hg40 : GS.length ≤ 40 := by omega
                clear hGS hgl
                have r0 := blk_cell HDT.out.rv.rs.rb 0 rfl
                have t0 := blk_free HDT.out.rv.rs.rb 0
                simp only [List.getElem_toArray, List.getElem_cons_zero] at r0
                have c0 := HDT.out.cell
                have l0 := HDT.out.lt
                go_wp2_with fail
                obtain ⟨hr, hc9, hg9, ho9⟩ := HDT.out.ret
                generalize xz.setCell ⟨w.heap.size, 0, none⟩ (Value.slice (some ⟨g, 0, none⟩) GS.length cv) = wz9 at hr hc9 hg9 ho9 ⊢
                have q9 : wz9.cell? ⟨w.heap.size, 0, none⟩ = some (Value.slice (some ⟨g, 0, none⟩) GS.length cv) := blk_cell hr 0 rfl
                exact bodyPost_ret (v := .agg #[(Value.slice (some ⟨g, 0, none⟩) GS.length cv)]) (by simp [results, Try.results14, go_sem, q9]) rfl ⟨_, GS, hg40, HFG.out, rfl, hc9, hg9, ho9⟩
              exact AllReadyH.nil
            exact AllReadyH.nil
          exact AllReadyH.nil
        · have g0 : ((y : Int) == 0) = false := by rw [beq_eq_false_iff_ne]; omega
          by_cases y1 : y = 1
          · subst y1
            go_wp2_with fail
            have HDs := hide (HR4.out.on (Below.refl _ _).drew)
            clear HR4
            refine wp_region_held_drew (S := fun _ => True) (by kernel_rfl) trivial (fun hHeld => ?_)
            generalize w4.drew = xs at HDs ⊢
            refine wpAnyH_take (i := 0) (v := ?_) rfl (by kernel_rfl) (by kernel_rfl) (by kernel_rfl) (fun _ _ _ h => h) (Or.inl ⟨by rfl, ?_⟩) (by assumption) ?_; rotate_left
            · (intro w hSw; (try dsimp only at hSw); go_simp; first | done | with_reducible rfl)
            try simp only [Act.put, List.getElem_toArray, List.getElem_cons_zero, List.getElem_cons_succ, List.setIfInBounds_toArray, List.set_cons_zero, List.set_cons_succ]
            refine wpAnyH_take (i := 2) (v := ?_) rfl (by kernel_rfl) (by kernel_rfl) (by kernel_rfl) (fun _ _ _ h => h) (Or.inl ⟨by rfl, ?_⟩) (by assumption) ?_; rotate_left
            · (intro w hSw; (try dsimp only at hSw); go_simp; first | done | with_reducible rfl)
            try simp only [Act.put, List.getElem_toArray, List.getElem_cons_zero, List.getElem_cons_succ, List.setIfInBounds_toArray, List.set_cons_zero, List.set_cons_succ]
            refine wpAnyH_take (i := 4) (v := ?_) rfl (by kernel_rfl) (by kernel_rfl) (by kernel_rfl) (fun _ _ _ h => h) (Or.inl ⟨by rfl, ?_⟩) (by assumption) ?_; rotate_left
            · (intro w hSw; (try dsimp only at hSw); go_simp; first | done | with_reducible rfl)
            try simp only [Act.put, List.getElem_toArray, List.getElem_cons_zero, List.getElem_cons_succ, List.setIfInBounds_toArray, List.set_cons_zero, List.set_cons_succ]
            refine wpAnyH_ready (rs := [1, 3]) (by kernel_rfl) (by simp) ?_
            refine AllReadyH.cons rfl (fun K hK => ?_) ?_
            · have hcd := HDs.out.cell
              rw [if_pos (by rfl)]
              go_simp
              refine hK.out _ _ ?_ (fun hHeld => ?_)
              · trivial
              clear hK K
              try simp only [Act.put, List.getElem_toArray, List.getElem_cons_zero, List.getElem_cons_succ, List.setIfInBounds_toArray, List.set_cons_zero, List.set_cons_succ]
              clear hcd
              refine wpAnyH_ready (rs := [3]) (by kernel_rfl) (by simp) ?_
              refine AllReadyH.cons rfl (fun K hK => ?_) ?_
              · have hcd := HDs.out.cell
                rw [if_pos (by rfl)]
                go_simp
                refine hK.out _ _ ?_ (fun hHeld => ?_)
                · trivial
                clear hK K
                try simp only [Act.put, List.getElem_toArray, List.getElem_cons_zero, List.getElem_cons_succ, List.setIfInBounds_toArray, List.set_cons_zero, List.set_cons_succ]
                clear hcd
                refine wpAnyH_take (i := 5) (v := ?_) rfl (by kernel_rfl) (by kernel_rfl) (by kernel_rfl) (fun _ _ _ h => h) (Or.inl ⟨by rfl, ?_⟩) (by assumption) ?_; rotate_left
                · (intro w hSw; (try dsimp only at hSw); go_simp; first | done | with_reducible rfl)
                try simp only [Act.put, List.getElem_toArray, List.getElem_cons_zero, List.getElem_cons_succ, List.setIfInBounds_toArray, List.set_cons_zero, List.set_cons_succ]
                refine wpAnyH_ready (rs := [6]) (by kernel_rfl) (by simp) ?_
                refine AllReadyH.cons rfl (fun K hK => ?_) ?_
                · obtain ⟨_, b1, q1, hf1, hidx1, hb1, d0, d1, d2⟩ := HDs.out.files.get Try.underlying24 infoIF k hk
                  have hx1 := hidx1 xs
                  rw [hidx xs] at hx1
                  injection hx1 with hx1
                  injection hx1 with hx1
                  injection hx1 with hx1
                  injection hx1 with hx1 hx2
                  subst hx1 hx2
                  rw [HF.out] at hf1
                  cases hf1
                  rw [if_pos (by rfl)]
                  go_simp
                  refine hK.out _ _ ?_ (fun hHeld => ?_)
                  · trivial
                  clear hK K
                  try simp only [Act.put, List.getElem_toArray, List.getElem_cons_zero, List.getElem_cons_succ, List.setIfInBounds_toArray, List.set_cons_zero, List.set_cons_succ]
                  clear d0 d1 d2 hidx1
                  refine wpAnyH_ready (rs := [7]) (by kernel_rfl) (by simp) ?_
                  refine AllReadyH.cons rfl (fun K hK => ?_) ?_
                  · have HD5 := hide (HDs.out.on ((Below.refl _ _).alloc (Nat.le_refl _) (Obj.cells #[Value.string ⟨f.name.toArray⟩, Value.string ⟨f.text.toArray⟩, Value.int IntKind.i64 f.kept] 49)))
                    have hk5 := heap_alloc_new xs (Obj.cells #[Value.string ⟨f.name.toArray⟩, Value.string ⟨f.text.toArray⟩, Value.int IntKind.i64 f.kept] 49)
                    rw [if_pos (by rfl)]
                    go_simp
                    refine hK.out _ _ ?_ (fun hHeld => ?_)
                    · trivial
                    clear hK K
                    try simp only [Act.put, List.getElem_toArray, List.getElem_cons_zero, List.getElem_cons_succ, List.setIfInBounds_toArray, List.set_cons_zero, List.set_cons_succ]
                    generalize xs.alloc (Obj.cells #[Value.string ⟨f.name.toArray⟩, Value.string ⟨f.text.toArray⟩, Value.int IntKind.i64 f.kept] 49) = x5 at HD5 hk5 ⊢
                    have HK5 := hide hk5
                    clear hk5
                    refine wpAnyH_ready (rs := [8]) (by kernel_rfl) (by simp) ?_
                    refine AllReadyH.cons rfl (fun K hK => ?_) ?_
                    · rw [if_pos (by rfl)]
                      refine wp_append_file _ _ rfl (w.heap.size + 1) _ gs.length gs rfl HD5.out.own (by omega) HD5.out.size.2 _ _ f rfl HK5.out ?_
                      intro v6 x6 ho6 hg6
                      have HR6 := hide (HD5.out.rv.rowD HD5.out.own hg6)
                      obtain ⟨ES, hES⟩ : ∃ ES, ES = gs ++ [f] := ⟨_, rfl⟩
                      have ho7 : x6.ownsRow (w.heap.size + 1) 49 3 v6 ES.length (ES.flatMap fcells) := by rw [hES, List.length_append]; first | exact ho6 | simpa using ho6
                      have HES := hide hES
                      obtain ⟨o6, c6, rfl⟩ := own_form ho7
                      have HO6 := hide ho7
                      clear hES ho6 hg6 ho7
                      try go_simp
                      refine hK.out _ _ ?_ (fun hHeld => ?_)
                      · trivial
                      clear hK K
                      try simp only [Act.put, List.getElem_toArray, List.getElem_cons_zero, List.getElem_cons_succ, List.setIfInBounds_toArray, List.set_cons_zero, List.set_cons_succ]
                      refine wpAnyH_take (i := 9) (v := ?_) rfl (by kernel_rfl) (by kernel_rfl) (by kernel_rfl) (fun _ _ _ h => h) (Or.inl ⟨by rfl, ?_⟩) (by assumption) ?_; rotate_left
                      · (intro w hSw; (try dsimp only at hSw); go_simp; first | done | with_reducible rfl)
                      try simp only [Act.put, List.getElem_toArray, List.getElem_cons_zero, List.getElem_cons_succ, List.setIfInBounds_toArray, List.set_cons_zero, List.set_cons_succ]
                      refine wpAnyH_ready (rs := [10]) (by kernel_rfl) (by simp) ?_
                      refine AllReadyH.cons rfl (fun K hK => ?_) ?_
                      · have q2 := blk_cell HR6.out.xb 0 rfl
                        have f2 := blk_free HR6.out.xb 0
                        simp only [List.getElem_toArray, List.getElem_cons_zero] at q2
                        have HDN := hide (DkD.put HR6.out HO6.out)
                        rw [if_pos (by rfl)]
                        go_simp
                        refine hK.out _ _ ?_ (fun hHeld => ?_)
                        · trivial
                        clear hK K
                        try simp only [Act.put, List.getElem_toArray, List.getElem_cons_zero, List.getElem_cons_succ, List.setIfInBounds_toArray, List.set_cons_zero, List.set_cons_succ]
                        clear q2 f2
                        refine wpAnyH_done (by kernel_rfl) ?_ _
                        clear hHeld
                        have HFG := hide (show ∀ q ∈ ES, Fine q by rw [HES.out]; intro q hq; rcases List.mem_append.1 hq with h | h; exact HFN.out q h; rw [List.mem_singleton.1 h]; exact HFF.out)
                        have hg40 : ES.length ≤ 40 := by rw [HES.out, List.length_append]; simp; omega
                        generalize x6.setCell ⟨b, 0, none⟩ (Value.slice o6 ES.length c6) = xz at HDN ⊢
                        have r0 := blk_cell HDN.out.rv.rs.rb 0 rfl
                        have t0 := blk_free HDN.out.rv.rs.rb 0
                        simp only [List.getElem_toArray, List.getElem_cons_zero] at r0
                        have c0 := HDN.out.cell
                        have l0 := HDN.out.lt
                        go_wp2_with fail
                        obtain ⟨hr, hc9, hg9, ho9⟩ := HDN.out.ret
                        generalize xz.setCell ⟨w.heap.size, 0, none⟩ (Value.slice o6 ES.length c6) = wz9 at hr hc9 hg9 ho9 ⊢
                        have q9 : wz9.cell? ⟨w.heap.size, 0, none⟩ = some (Value.slice o6 ES.length c6) := blk_cell hr 0 rfl
                        exact bodyPost_ret (v := .agg #[(Value.slice o6 ES.length c6)]) (by simp [results, Try.results14, go_sem, q9]) rfl ⟨_, ES, hg40, HFG.out, rfl, hc9, hg9, ho9⟩
                      exact AllReadyH.nil
                    exact AllReadyH.nil
                  exact AllReadyH.nil
                exact AllReadyH.nil
              exact AllReadyH.nil
            refine AllReadyH.cons rfl (fun K hK => ?_) ?_
            · have hcd := HDs.out.cell
              rw [if_pos (by rfl)]
              go_simp
              refine hK.out _ _ ?_ (fun hHeld => ?_)
              · trivial
              clear hK K
              try simp only [Act.put, List.getElem_toArray, List.getElem_cons_zero, List.getElem_cons_succ, List.setIfInBounds_toArray, List.set_cons_zero, List.set_cons_succ]
              clear hcd
              refine wpAnyH_take (i := 5) (v := ?_) rfl (by kernel_rfl) (by kernel_rfl) (by kernel_rfl) (fun _ _ _ h => h) (Or.inl ⟨by rfl, ?_⟩) (by assumption) ?_; rotate_left
              · (intro w hSw; (try dsimp only at hSw); go_simp; first | done | with_reducible rfl)
              try simp only [Act.put, List.getElem_toArray, List.getElem_cons_zero, List.getElem_cons_succ, List.setIfInBounds_toArray, List.set_cons_zero, List.set_cons_succ]
              refine wpAnyH_ready (rs := [1, 6]) (by kernel_rfl) (by simp) ?_
              refine AllReadyH.cons rfl (fun K hK => ?_) ?_
              · have hcd := HDs.out.cell
                rw [if_pos (by rfl)]
                go_simp
                refine hK.out _ _ ?_ (fun hHeld => ?_)
                · trivial
                clear hK K
                try simp only [Act.put, List.getElem_toArray, List.getElem_cons_zero, List.getElem_cons_succ, List.setIfInBounds_toArray, List.set_cons_zero, List.set_cons_succ]
                clear hcd
                refine wpAnyH_ready (rs := [6]) (by kernel_rfl) (by simp) ?_
                refine AllReadyH.cons rfl (fun K hK => ?_) ?_
                · obtain ⟨_, b1, q1, hf1, hidx1, hb1, d0, d1, d2⟩ := HDs.out.files.get Try.underlying24 infoIF k hk
                  have hx1 := hidx1 xs
                  rw [hidx xs] at hx1
                  injection hx1 with hx1
                  injection hx1 with hx1
                  injection hx1 with hx1
                  injection hx1 with hx1 hx2
                  subst hx1 hx2
                  rw [HF.out] at hf1
                  cases hf1
                  rw [if_pos (by rfl)]
                  go_simp
                  refine hK.out _ _ ?_ (fun hHeld => ?_)
                  · trivial
                  clear hK K
                  try simp only [Act.put, List.getElem_toArray, List.getElem_cons_zero, List.getElem_cons_succ, List.setIfInBounds_toArray, List.set_cons_zero, List.set_cons_succ]
                  clear d0 d1 d2 hidx1
                  refine wpAnyH_ready (rs := [7]) (by kernel_rfl) (by simp) ?_
                  refine AllReadyH.cons rfl (fun K hK => ?_) ?_
                  · have HD5 := hide (HDs.out.on ((Below.refl _ _).alloc (Nat.le_refl _) (Obj.cells #[Value.string ⟨f.name.toArray⟩, Value.string ⟨f.text.toArray⟩, Value.int IntKind.i64 f.kept] 49)))
                    have hk5 := heap_alloc_new xs (Obj.cells #[Value.string ⟨f.name.toArray⟩, Value.string ⟨f.text.toArray⟩, Value.int IntKind.i64 f.kept] 49)
                    rw [if_pos (by rfl)]
                    go_simp
                    refine hK.out _ _ ?_ (fun hHeld => ?_)
                    · trivial
                    clear hK K
                    try simp only [Act.put, List.getElem_toArray, List.getElem_cons_zero, List.getElem_cons_succ, List.setIfInBounds_toArray, List.set_cons_zero, List.set_cons_succ]
                    generalize xs.alloc (Obj.cells #[Value.string ⟨f.name.toArray⟩, Value.string ⟨f.text.toArray⟩, Value.int IntKind.i64 f.kept] 49) = x5 at HD5 hk5 ⊢
                    have HK5 := hide hk5
                    clear hk5
                    refine wpAnyH_ready (rs := [8]) (by kernel_rfl) (by simp) ?_
                    refine AllReadyH.cons rfl (fun K hK => ?_) ?_
                    · rw [if_pos (by rfl)]
                      refine wp_append_file _ _ rfl (w.heap.size + 1) _ gs.length gs rfl HD5.out.own (by omega) HD5.out.size.2 _ _ f rfl HK5.out ?_
                      intro v6 x6 ho6 hg6
                      have HR6 := hide (HD5.out.rv.rowD HD5.out.own hg6)
                      obtain ⟨ES, hES⟩ : ∃ ES, ES = gs ++ [f] := ⟨_, rfl⟩
                      have ho7 : x6.ownsRow (w.heap.size + 1) 49 3 v6 ES.length (ES.flatMap fcells) := by rw [hES, List.length_append]; first | exact ho6 | simpa using ho6
                      have HES := hide hES
                      obtain ⟨o6, c6, rfl⟩ := own_form ho7
                      have HO6 := hide ho7
                      clear hES ho6 hg6 ho7
                      try go_simp
                      refine hK.out _ _ ?_ (fun hHeld => ?_)
                      · trivial
                      clear hK K
                      try simp only [Act.put, List.getElem_toArray, List.getElem_cons_zero, List.getElem_cons_succ, List.setIfInBounds_toArray, List.set_cons_zero, List.set_cons_succ]
                      refine wpAnyH_take (i := 9) (v := ?_) rfl (by kernel_rfl) (by kernel_rfl) (by kernel_rfl) (fun _ _ _ h => h) (Or.inl ⟨by rfl, ?_⟩) (by assumption) ?_; rotate_left
                      · (intro w hSw; (try dsimp only at hSw); go_simp; first | done | with_reducible rfl)
                      try simp only [Act.put, List.getElem_toArray, List.getElem_cons_zero, List.getElem_cons_succ, List.setIfInBounds_toArray, List.set_cons_zero, List.set_cons_succ]
                      refine wpAnyH_ready (rs := [10]) (by kernel_rfl) (by simp) ?_
                      refine AllReadyH.cons rfl (fun K hK => ?_) ?_
                      · have q2 := blk_cell HR6.out.xb 0 rfl
                        have f2 := blk_free HR6.out.xb 0
                        simp only [List.getElem_toArray, List.getElem_cons_zero] at q2
                        have HDN := hide (DkD.put HR6.out HO6.out)
                        rw [if_pos (by rfl)]
                        go_simp
                        refine hK.out _ _ ?_ (fun hHeld => ?_)
                        · trivial
                        clear hK K
                        try simp only [Act.put, List.getElem_toArray, List.getElem_cons_zero, List.getElem_cons_succ, List.setIfInBounds_toArray, List.set_cons_zero, List.set_cons_succ]
                        clear q2 f2
                        refine wpAnyH_done (by kernel_rfl) ?_ _
                        clear hHeld
                        have HFG := hide (show ∀ q ∈ ES, Fine q by rw [HES.out]; intro q hq; rcases List.mem_append.1 hq with h | h; exact HFN.out q h; rw [List.mem_singleton.1 h]; exact HFF.out)
                        have hg40 : ES.length ≤ 40 := by rw [HES.out, List.length_append]; simp; omega
                        generalize x6.setCell ⟨b, 0, none⟩ (Value.slice o6 ES.length c6) = xz at HDN ⊢
                        have r0 := blk_cell HDN.out.rv.rs.rb 0 rfl
                        have t0 := blk_free HDN.out.rv.rs.rb 0
                        simp only [List.getElem_toArray, List.getElem_cons_zero] at r0
                        have c0 := HDN.out.cell
                        have l0 := HDN.out.lt
                        go_wp2_with fail
                        obtain ⟨hr, hc9, hg9, ho9⟩ := HDN.out.ret
                        generalize xz.setCell ⟨w.heap.size, 0, none⟩ (Value.slice o6 ES.length c6) = wz9 at hr hc9 hg9 ho9 ⊢
                        have q9 : wz9.cell? ⟨w.heap.size, 0, none⟩ = some (Value.slice o6 ES.length c6) := blk_cell hr 0 rfl
                        exact bodyPost_ret (v := .agg #[(Value.slice o6 ES.length c6)]) (by simp [results, Try.results14, go_sem, q9]) rfl ⟨_, ES, hg40, HFG.out, rfl, hc9, hg9, ho9⟩
                      exact AllReadyH.nil
                    exact AllReadyH.nil
                  exact AllReadyH.nil
                exact AllReadyH.nil
              refine AllReadyH.cons rfl (fun K hK => ?_) ?_
              · obtain ⟨_, b1, q1, hf1, hidx1, hb1, d0, d1, d2⟩ := HDs.out.files.get Try.underlying24 infoIF k hk
                have hx1 := hidx1 xs
                rw [hidx xs] at hx1
                injection hx1 with hx1
                injection hx1 with hx1
                injection hx1 with hx1
                injection hx1 with hx1 hx2
                subst hx1 hx2
                rw [HF.out] at hf1
                cases hf1
                rw [if_pos (by rfl)]
                go_simp
                refine hK.out _ _ ?_ (fun hHeld => ?_)
                · trivial
                clear hK K
                try simp only [Act.put, List.getElem_toArray, List.getElem_cons_zero, List.getElem_cons_succ, List.setIfInBounds_toArray, List.set_cons_zero, List.set_cons_succ]
                clear d0 d1 d2 hidx1
                refine wpAnyH_ready (rs := [1, 7]) (by kernel_rfl) (by simp) ?_
                refine AllReadyH.cons rfl (fun K hK => ?_) ?_
                · have hcd := HDs.out.cell
                  rw [if_pos (by rfl)]
                  go_simp
                  refine hK.out _ _ ?_ (fun hHeld => ?_)
                  · trivial
                  clear hK K
                  try simp only [Act.put, List.getElem_toArray, List.getElem_cons_zero, List.getElem_cons_succ, List.setIfInBounds_toArray, List.set_cons_zero, List.set_cons_succ]
                  clear hcd
                  refine wpAnyH_ready (rs := [7]) (by kernel_rfl) (by simp) ?_
                  refine AllReadyH.cons rfl (fun K hK => ?_) ?_
                  · have HD5 := hide (HDs.out.on ((Below.refl _ _).alloc (Nat.le_refl _) (Obj.cells #[Value.string ⟨f.name.toArray⟩, Value.string ⟨f.text.toArray⟩, Value.int IntKind.i64 f.kept] 49)))
                    have hk5 := heap_alloc_new xs (Obj.cells #[Value.string ⟨f.name.toArray⟩, Value.string ⟨f.text.toArray⟩, Value.int IntKind.i64 f.kept] 49)
                    rw [if_pos (by rfl)]
                    go_simp
                    refine hK.out _ _ ?_ (fun hHeld => ?_)
                    · trivial
                    clear hK K
                    try simp only [Act.put, List.getElem_toArray, List.getElem_cons_zero, List.getElem_cons_succ, List.setIfInBounds_toArray, List.set_cons_zero, List.set_cons_succ]
                    generalize xs.alloc (Obj.cells #[Value.string ⟨f.name.toArray⟩, Value.string ⟨f.text.toArray⟩, Value.int IntKind.i64 f.kept] 49) = x5 at HD5 hk5 ⊢
                    have HK5 := hide hk5
                    clear hk5
                    refine wpAnyH_ready (rs := [8]) (by kernel_rfl) (by simp) ?_
                    refine AllReadyH.cons rfl (fun K hK => ?_) ?_
                    · rw [if_pos (by rfl)]
                      refine wp_append_file _ _ rfl (w.heap.size + 1) _ gs.length gs rfl HD5.out.own (by omega) HD5.out.size.2 _ _ f rfl HK5.out ?_
                      intro v6 x6 ho6 hg6
                      have HR6 := hide (HD5.out.rv.rowD HD5.out.own hg6)
                      obtain ⟨ES, hES⟩ : ∃ ES, ES = gs ++ [f] := ⟨_, rfl⟩
                      have ho7 : x6.ownsRow (w.heap.size + 1) 49 3 v6 ES.length (ES.flatMap fcells) := by rw [hES, List.length_append]; first | exact ho6 | simpa using ho6
                      have HES := hide hES
                      obtain ⟨o6, c6, rfl⟩ := own_form ho7
                      have HO6 := hide ho7
                      clear hES ho6 hg6 ho7
                      try go_simp
                      refine hK.out _ _ ?_ (fun hHeld => ?_)
                      · trivial
                      clear hK K
                      try simp only [Act.put, List.getElem_toArray, List.getElem_cons_zero, List.getElem_cons_succ, List.setIfInBounds_toArray, List.set_cons_zero, List.set_cons_succ]
                      refine wpAnyH_take (i := 9) (v := ?_) rfl (by kernel_rfl) (by kernel_rfl) (by kernel_rfl) (fun _ _ _ h => h) (Or.inl ⟨by rfl, ?_⟩) (by assumption) ?_; rotate_left
                      · (intro w hSw; (try dsimp only at hSw); go_simp; first | done | with_reducible rfl)
                      try simp only [Act.put, List.getElem_toArray, List.getElem_cons_zero, List.getElem_cons_succ, List.setIfInBounds_toArray, List.set_cons_zero, List.set_cons_succ]
                      refine wpAnyH_ready (rs := [10]) (by kernel_rfl) (by simp) ?_
                      refine AllReadyH.cons rfl (fun K hK => ?_) ?_
                      · have q2 := blk_cell HR6.out.xb 0 rfl
                        have f2 := blk_free HR6.out.xb 0
                        simp only [List.getElem_toArray, List.getElem_cons_zero] at q2
                        have HDN := hide (DkD.put HR6.out HO6.out)
                        rw [if_pos (by rfl)]
                        go_simp
                        refine hK.out _ _ ?_ (fun hHeld => ?_)
                        · trivial
                        clear hK K
                        try simp only [Act.put, List.getElem_toArray, List.getElem_cons_zero, List.getElem_cons_succ, List.setIfInBounds_toArray, List.set_cons_zero, List.set_cons_succ]
                        clear q2 f2
                        refine wpAnyH_done (by kernel_rfl) ?_ _
                        clear hHeld
                        have HFG := hide (show ∀ q ∈ ES, Fine q by rw [HES.out]; intro q hq; rcases List.mem_append.1 hq with h | h; exact HFN.out q h; rw [List.mem_singleton.1 h]; exact HFF.out)
                        have hg40 : ES.length ≤ 40 := by rw [HES.out, List.length_append]; simp; omega
                        generalize x6.setCell ⟨b, 0, none⟩ (Value.slice o6 ES.length c6) = xz at HDN ⊢
                        have r0 := blk_cell HDN.out.rv.rs.rb 0 rfl
                        have t0 := blk_free HDN.out.rv.rs.rb 0
                        simp only [List.getElem_toArray, List.getElem_cons_zero] at r0
                        have c0 := HDN.out.cell
                        have l0 := HDN.out.lt
                        go_wp2_with fail
                        obtain ⟨hr, hc9, hg9, ho9⟩ := HDN.out.ret
                        generalize xz.setCell ⟨w.heap.size, 0, none⟩ (Value.slice o6 ES.length c6) = wz9 at hr hc9 hg9 ho9 ⊢
                        have q9 : wz9.cell? ⟨w.heap.size, 0, none⟩ = some (Value.slice o6 ES.length c6) := blk_cell hr 0 rfl
                        exact bodyPost_ret (v := .agg #[(Value.slice o6 ES.length c6)]) (by simp [results, Try.results14, go_sem, q9]) rfl ⟨_, ES, hg40, HFG.out, rfl, hc9, hg9, ho9⟩
                      exact AllReadyH.nil
                    exact AllReadyH.nil
                  exact AllReadyH.nil
                refine AllReadyH.cons rfl (fun K hK => ?_) ?_
                · have HD5 := hide (HDs.out.on ((Below.refl _ _).alloc (Nat.le_refl _) (Obj.cells #[Value.string ⟨f.name.toArray⟩, Value.string ⟨f.text.toArray⟩, Value.int IntKind.i64 f.kept] 49)))
                  have hk5 := heap_alloc_new xs (Obj.cells #[Value.string ⟨f.name.toArray⟩, Value.string ⟨f.text.toArray⟩, Value.int IntKind.i64 f.kept] 49)
                  rw [if_pos (by rfl)]
                  go_simp
                  refine hK.out _ _ ?_ (fun hHeld => ?_)
                  · trivial
                  clear hK K
                  try simp only [Act.put, List.getElem_toArray, List.getElem_cons_zero, List.getElem_cons_succ, List.setIfInBounds_toArray, List.set_cons_zero, List.set_cons_succ]
                  generalize xs.alloc (Obj.cells #[Value.string ⟨f.name.toArray⟩, Value.string ⟨f.text.toArray⟩, Value.int IntKind.i64 f.kept] 49) = x5 at HD5 hk5 ⊢
                  have HK5 := hide hk5
                  clear hk5
                  refine wpAnyH_ready (rs := [1]) (by kernel_rfl) (by simp) ?_
                  refine AllReadyH.cons rfl (fun K hK => ?_) ?_
                  · have hcd := HD5.out.cell
                    rw [if_pos (by rfl)]
                    go_simp
                    refine hK.out _ _ ?_ (fun hHeld => ?_)
                    · trivial
                    clear hK K
                    try simp only [Act.put, List.getElem_toArray, List.getElem_cons_zero, List.getElem_cons_succ, List.setIfInBounds_toArray, List.set_cons_zero, List.set_cons_succ]
                    clear hcd
                    refine wpAnyH_ready (rs := [8]) (by kernel_rfl) (by simp) ?_
                    refine AllReadyH.cons rfl (fun K hK => ?_) ?_
                    · rw [if_pos (by rfl)]
                      refine wp_append_file _ _ rfl (w.heap.size + 1) _ gs.length gs rfl HD5.out.own (by omega) HD5.out.size.2 _ _ f rfl HK5.out ?_
                      intro v6 x6 ho6 hg6
                      have HR6 := hide (HD5.out.rv.rowD HD5.out.own hg6)
                      obtain ⟨ES, hES⟩ : ∃ ES, ES = gs ++ [f] := ⟨_, rfl⟩
                      have ho7 : x6.ownsRow (w.heap.size + 1) 49 3 v6 ES.length (ES.flatMap fcells) := by rw [hES, List.length_append]; first | exact ho6 | simpa using ho6
                      have HES := hide hES
                      obtain ⟨o6, c6, rfl⟩ := own_form ho7
                      have HO6 := hide ho7
                      clear hES ho6 hg6 ho7
                      try go_simp
                      refine hK.out _ _ ?_ (fun hHeld => ?_)
                      · trivial
                      clear hK K
                      try simp only [Act.put, List.getElem_toArray, List.getElem_cons_zero, List.getElem_cons_succ, List.setIfInBounds_toArray, List.set_cons_zero, List.set_cons_succ]
                      refine wpAnyH_take (i := 9) (v := ?_) rfl (by kernel_rfl) (by kernel_rfl) (by kernel_rfl) (fun _ _ _ h => h) (Or.inl ⟨by rfl, ?_⟩) (by assumption) ?_; rotate_left
                      · (intro w hSw; (try dsimp only at hSw); go_simp; first | done | with_reducible rfl)
                      try simp only [Act.put, List.getElem_toArray, List.getElem_cons_zero, List.getElem_cons_succ, List.setIfInBounds_toArray, List.set_cons_zero, List.set_cons_succ]
                      refine wpAnyH_ready (rs := [10]) (by kernel_rfl) (by simp) ?_
                      refine AllReadyH.cons rfl (fun K hK => ?_) ?_
                      · have q2 := blk_cell HR6.out.xb 0 rfl
                        have f2 := blk_free HR6.out.xb 0
                        simp only [List.getElem_toArray, List.getElem_cons_zero] at q2
                        have HDN := hide (DkD.put HR6.out HO6.out)
                        rw [if_pos (by rfl)]
                        go_simp
                        refine hK.out _ _ ?_ (fun hHeld => ?_)
                        · trivial
                        clear hK K
                        try simp only [Act.put, List.getElem_toArray, List.getElem_cons_zero, List.getElem_cons_succ, List.setIfInBounds_toArray, List.set_cons_zero, List.set_cons_succ]
                        clear q2 f2
                        refine wpAnyH_done (by kernel_rfl) ?_ _
                        clear hHeld
                        have HFG := hide (show ∀ q ∈ ES, Fine q by rw [HES.out]; intro q hq; rcases List.mem_append.1 hq with h | h; exact HFN.out q h; rw [List.mem_singleton.1 h]; exact HFF.out)
                        have hg40 : ES.length ≤ 40 := by rw [HES.out, List.length_append]; simp; omega
                        generalize x6.setCell ⟨b, 0, none⟩ (Value.slice o6 ES.length c6) = xz at HDN ⊢
                        have r0 := blk_cell HDN.out.rv.rs.rb 0 rfl
                        have t0 := blk_free HDN.out.rv.rs.rb 0
                        simp only [List.getElem_toArray, List.getElem_cons_zero] at r0
                        have c0 := HDN.out.cell
                        have l0 := HDN.out.lt
                        go_wp2_with fail
                        obtain ⟨hr, hc9, hg9, ho9⟩ := HDN.out.ret
                        generalize xz.setCell ⟨w.heap.size, 0, none⟩ (Value.slice o6 ES.length c6) = wz9 at hr hc9 hg9 ho9 ⊢
                        have q9 : wz9.cell? ⟨w.heap.size, 0, none⟩ = some (Value.slice o6 ES.length c6) := blk_cell hr 0 rfl
                        exact bodyPost_ret (v := .agg #[(Value.slice o6 ES.length c6)]) (by simp [results, Try.results14, go_sem, q9]) rfl ⟨_, ES, hg40, HFG.out, rfl, hc9, hg9, ho9⟩
                      exact AllReadyH.nil
                    exact AllReadyH.nil
                  exact AllReadyH.nil
                exact AllReadyH.nil
              exact AllReadyH.nil
            exact AllReadyH.nil
          · have g1 : ((y : Int) == 1) = false := by rw [beq_eq_false_iff_ne]; omega
            by_cases y2 : y = 2
            · subst y2
              go_wp2_with fail
              have HDs := hide (HR4.out.on (Below.refl _ _).drew)
              clear HR4
              refine wp_region_held_drew (S := (fun w' => w'.cell? ⟨b, 0, none⟩ = some (.slice (some ⟨g, 0, none⟩) gs.length cv))) (by kernel_rfl) HDs.out.cell (fun hHeld => ?_)
              generalize w4.drew = xs at HDs hHeld ⊢
              refine wpAnyH_take (i := 0) (v := ?_) rfl (by kernel_rfl) (by kernel_rfl) (by kernel_rfl) (fun _ _ _ h => h) (Or.inl ⟨by rfl, ?_⟩) (by assumption) ?_; rotate_left
              · (intro wz hSw; replace hSw : wz.cell? ⟨b, 0, none⟩ = some (.slice (some ⟨g, 0, none⟩) gs.length cv) := hSw; go_simp; first | done | with_reducible rfl)
              try simp only [Act.put, List.getElem_toArray, List.getElem_cons_zero, List.getElem_cons_succ, List.setIfInBounds_toArray, List.set_cons_zero, List.set_cons_succ]
              refine wpAnyH_take (i := 1) (v := ?_) rfl (by kernel_rfl) (by kernel_rfl) (by kernel_rfl) (fun _ _ _ h => h) (Or.inl ⟨by rfl, ?_⟩) (by assumption) ?_; rotate_left
              · (intro wz hSw; replace hSw : wz.cell? ⟨b, 0, none⟩ = some (.slice (some ⟨g, 0, none⟩) gs.length cv) := hSw; go_simp; first | done | with_reducible rfl)
              try simp only [Act.put, List.getElem_toArray, List.getElem_cons_zero, List.getElem_cons_succ, List.setIfInBounds_toArray, List.set_cons_zero, List.set_cons_succ]
              refine wpAnyH_take (i := 2) (v := ?_) rfl (by kernel_rfl) (by kernel_rfl) (by kernel_rfl) (fun _ _ _ h => h) (Or.inl ⟨by rfl, ?_⟩) (by assumption) ?_; rotate_left
              · (intro wz hSw; replace hSw : wz.cell? ⟨b, 0, none⟩ = some (.slice (some ⟨g, 0, none⟩) gs.length cv) := hSw; go_simp; first | done | with_reducible rfl)
              try simp only [Act.put, List.getElem_toArray, List.getElem_cons_zero, List.getElem_cons_succ, List.setIfInBounds_toArray, List.set_cons_zero, List.set_cons_succ]
              refine wpAnyH_take (i := 3) (v := ?_) rfl (by kernel_rfl) (by kernel_rfl) (by kernel_rfl) (fun _ _ _ h => h) (Or.inl ⟨by rfl, ?_⟩) (by assumption) ?_; rotate_left
              · (intro wz hSw; replace hSw : wz.cell? ⟨b, 0, none⟩ = some (.slice (some ⟨g, 0, none⟩) gs.length cv) := hSw; go_simp; first | done | with_reducible rfl)
              try simp only [Act.put, List.getElem_toArray, List.getElem_cons_zero, List.getElem_cons_succ, List.setIfInBounds_toArray, List.set_cons_zero, List.set_cons_succ]
              refine wpAnyH_ready (rs := [4]) (by kernel_rfl) (by simp) ?_
              refine AllReadyH.cons rfl (fun K hK => ?_) ?_
              · have HD5 := hide (HDs.out.on ((Below.refl _ _).alloc (Nat.le_refl _) (Obj.cells #[Value.string ⟨#[]⟩, Value.string ⟨#[49, 50, 51, 52, 53, 54, 55, 56]⟩, Value.string ⟨#[49, 50, 51, 52, 53, 54, 55, 56, 57]⟩] 9)))
                have HN5 := hide (pick8_at xs)
                have hp5 : xs.heap.size ≠ p := by have := HDs.out.rv.rs.cur.lt; omega
                rw [if_pos (by rfl)]
                go_simp
                refine hK.out _ _ ?_ (fun hHeld => ?_)
                · exact HD5.out.cell
                clear hK K
                try simp only [Act.put, List.getElem_toArray, List.getElem_cons_zero, List.getElem_cons_succ, List.setIfInBounds_toArray, List.set_cons_zero, List.set_cons_succ]
                refine wpAnyH_ready (rs := [5]) (by kernel_rfl) (by simp) ?_
                refine AllReadyH.cons rfl (fun K hK => ?_) ?_
                · rw [if_pos (by rfl)]
                  go_simp
                  go_at_call 33
                  refine (l01Pick_any B p a len cap xs.heap.size 3 pick8 _ HD5.out.rv.rs.cur (by decide) (by decide) hp5 HN5.out).mono ?_
                  rintro r x6 ⟨l, hl, rfl, hc6, hg6⟩
                  have HD6 := hide (HD5.out.drawn hc6 hg6)
                  have hl9 : l.length ≤ 9 := by simp [pick8] at hl; rcases hl with rfl | rfl | rfl <;> decide
                  clear hc6 hg6 hl
                  try go_simp
                  refine hK.out _ _ ?_ (fun hHeld => ?_)
                  · exact HD6.out.cell
                  clear hK K
                  try simp only [Act.put, List.getElem_toArray, List.getElem_cons_zero, List.getElem_cons_succ, List.setIfInBounds_toArray, List.set_cons_zero, List.set_cons_succ]
                  refine wpAnyH_take (i := 6) (v := ?_) rfl (by kernel_rfl) (by kernel_rfl) (by kernel_rfl) (fun _ _ _ h => h) (Or.inl ⟨by rfl, ?_⟩) (by assumption) ?_; rotate_left
                  · (intro wz hSw; replace hSw : wz.cell? ⟨b, 0, none⟩ = some (.slice (some ⟨g, 0, none⟩) gs.length cv) := hSw; go_simp; first | done | with_reducible rfl)
                  try simp only [Act.put, List.getElem_toArray, List.getElem_cons_zero, List.getElem_cons_succ, List.setIfInBounds_toArray, List.set_cons_zero, List.set_cons_succ]
                  refine wpAnyH_take (i := 7) (v := ?_) rfl (by kernel_rfl) (by kernel_rfl) (by kernel_rfl) (fun _ _ _ h => h) (Or.inl ⟨by rfl, ?_⟩) (by assumption) ?_; rotate_left
                  · (intro wz hSw; replace hSw : wz.cell? ⟨b, 0, none⟩ = some (.slice (some ⟨g, 0, none⟩) gs.length cv) := hSw; go_simp; first | done | with_reducible rfl)
                  try simp only [Act.put, List.getElem_toArray, List.getElem_cons_zero, List.getElem_cons_succ, List.setIfInBounds_toArray, List.set_cons_zero, List.set_cons_succ]
                  refine wpAnyH_ready (rs := [8]) (by kernel_rfl) (by simp) ?_
                  refine AllReadyH.cons rfl (fun K hK => ?_) ?_
                  · obtain ⟨⟨y0, z0⟩, ⟨y1, z1⟩, ⟨y2, z2⟩⟩ := own_three HD6.out.own k hk
                    have f0 := HD6.out.own.frozenAt (k * 3)
                    have HDT := hide (HD6.out.turn (f' := ⟨l, f.text, f.kept⟩) (c := 0) (u := .string ⟨l.toArray⟩) HF.out (by omega) rfl (by intro j hj; match j with | 0 => exact absurd rfl hj | 1 => rfl | 2 => rfl | j + 3 => rfl))
                    rw [Nat.add_zero] at HDT
                    rw [if_pos (by rfl)]
                    go_simp
                    refine hK.out _ _ ?_ (fun hHeld => ?_)
                    · exact (by have h := HDT.out.cell; rw [List.length_set] at h; exact h)
                    clear hK K
                    try simp only [Act.put, List.getElem_toArray, List.getElem_cons_zero, List.getElem_cons_succ, List.setIfInBounds_toArray, List.set_cons_zero, List.set_cons_succ]
                    clear z0 z1 z2 f0
                    refine wpAnyH_done (by kernel_rfl) ?_ _
                    clear hHeld
                    obtain ⟨GS, hGS⟩ : ∃ GS, GS = gs.set k ⟨l, f.text, f.kept⟩ := ⟨_, rfl⟩
                    rw [← hGS] at HDT
                    have hgl : GS.length = gs.length := by rw [hGS, List.length_set]
                    have HFG := hide (show ∀ q ∈ GS, Fine q by rw [hGS]; exact fine_set HFN.out ⟨by show l.length ≤ 4194304; omega, HFF.out.2.1, HFF.out.2.2⟩)
                    rw [← hgl]
                    generalize x6.setCell ⟨g, k * 3, none⟩ (Value.string ⟨l.toArray⟩) = xz at HDT ⊢
                    have hg40 : GS.length ≤ 40 := by omega
                    clear hGS hgl
                    have r0 := blk_cell HDT.out.rv.rs.rb 0 rfl
                    have t0 := blk_free HDT.out.rv.rs.rb 0
                    simp only [List.getElem_toArray, List.getElem_cons_zero] at r0
                    have c0 := HDT.out.cell
                    have l0 := HDT.out.lt
                    go_wp2_with fail
                    obtain ⟨hr, hc9, hg9, ho9⟩ := HDT.out.ret
                    generalize xz.setCell ⟨w.heap.size, 0, none⟩ (Value.slice (some ⟨g, 0, none⟩) GS.length cv) = wz9 at hr hc9 hg9 ho9 ⊢
                    have q9 : wz9.cell? ⟨w.heap.size, 0, none⟩ = some (Value.slice (some ⟨g, 0, none⟩) GS.length cv) := blk_cell hr 0 rfl
                    exact bodyPost_ret (v := .agg #[(Value.slice (some ⟨g, 0, none⟩) GS.length cv)]) (by simp [results, Try.results14, go_sem, q9]) rfl ⟨_, GS, hg40, HFG.out, rfl, hc9, hg9, ho9⟩
                  exact AllReadyH.nil
                exact AllReadyH.nil
              exact AllReadyH.nil
            · have g2 : ((y : Int) == 2) = false := by rw [beq_eq_false_iff_ne]; omega
              by_cases y3 : y = 3
              · subst y3
                have c0 := HR4.out.cell
                have f0 := HR4.out.free
                have l4 := HR4.out.lt
                have HDa := hide (HR4.out.on ((Below.refl _ _).alloc (Nat.le_refl _) (.cells #[] 49)))
                have hown0 : (w4.alloc (.cells #[] 49)).ownsRow (w.heap.size + 1) 49 3 (.slice (some ⟨w4.heap.size, 0, none⟩) 0 0) ([] : List FileV).length (([] : List FileV).flatMap fcells) := ⟨rfl, Or.inr ⟨w4.heap.size, 0, #[], rfl, HR4.out.size.2, heap_alloc_new _ _, Nat.le_refl _, by unfold maxLen; omega, rfl, rfl⟩⟩
                have HDb := hide (DkD.put HDa.out.rv hown0)
                clear hown0 HDa HR4
                go_wp2_with fail
                clear c0 f0
                have HDb : Hid (DkD B p a len cap w b (.slice (some ⟨w4.heap.size, 0, none⟩) ([] : List FileV).length 0) [] ((w4.alloc (.cells #[] 49)).setCell ⟨b, 0, none⟩ (.slice (some ⟨w4.heap.size, 0, none⟩) 0 0))) := HDb
                have hcm : (w4.alloc (Obj.cells #[] 49)).setCell ⟨b, 0, none⟩ (Value.slice (some ⟨w4.heap.size, 0, none⟩) 0 0) = (w4.setCell ⟨b, 0, none⟩ (Value.slice (some ⟨w4.heap.size, 0, none⟩) 0 0)).alloc (Obj.cells #[] 49) := World.setCell_alloc_past _ _ _ _ l4
                rw [hcm] at HDb
                clear hcm
                generalize (w4.setCell ⟨b, 0, none⟩ (Value.slice (some ⟨w4.heap.size, 0, none⟩) 0 0)).alloc (Obj.cells #[] 49) = w5 at HDb ⊢
                go_loopw [7] (fun i wr => ∃ (j : Nat) (ov : Option Addr) (cv : Nat) (hs : List FileV), i = .int .i64 (j : Int) ∧ j ≤ 31 ∧ hs.length = j ∧ (∀ f ∈ hs, Fine f) ∧ DkD B p a len cap w b (.slice ov hs.length cv) hs wr) (fun i _ => 31 - (intOf i).toNat)
                case atStart => exact ⟨0, _, _, [], rfl, by omega, rfl, (by simp), HDb.out⟩
                case round =>
                  clear HDb
                  obtain ⟨j, ov, cv, hs, rfl, hj, hhl, hhw, hd⟩ := hrel
                  have HD1 := hide hd
                  have HHL := hide hhl
                  have HHW := hide hhw
                  clear hd hhl hhw
                  go_wp2_with fail
                  refine (l01Below_any B p a len cap 2 (by decide) (by decide) _ HD1.out.rv.rs.cur).mono ?_
                  rintro r w6 ⟨q, hq, rfl, hc6, hg6⟩
                  have HD6 := hide (HD1.out.drawn hc6 hg6)
                  clear hc6 hg6 HD1
                  by_cases hjq : j < 30 + q
                  · have j0 : (j : Int) < 30 + (q : Int) := by omega
                    have hj31 : j < 31 := by omega
                    have hhl : hs.length ≤ 31 := by have := HHL.out; omega
                    have HDEC := hide (specDecimal_pos (100 + j) (by omega) (by omega))
                    have e1 : ((100 + j : Nat) : Int) = 100 + (j : Int) := by omega
                    rw [e1] at HDEC
                    have hwr : IntKind.i64.wrap (100 + (j : Int)) = 100 + (j : Int) := by rw [IntKind.wrap_i64]; omega
                    have hdl := dec_length (100 + j) (by omega)
                    obtain ⟨ds, hds⟩ : ∃ ds, Lib.decDigits (100 + j) = ds := ⟨_, rfl⟩
                    rw [hds] at HDEC hdl
                    obtain ⟨nm, hnm⟩ : ∃ nm, nm = 102 :: ds := ⟨_, rfl⟩
                    have HNM := hide (show nm.length ≤ 4194304 by rw [hnm]; simp; omega)
                    have hcat : (⟨#[102]⟩ : ByteArray) ++ ⟨ds.toArray⟩ = ⟨nm.toArray⟩ := by rw [hnm]; exact cat_one 102 ds
                    have hsum : ¬ (9223372036854775807 < 1 + ds.length) := by omega
                    clear e1 hds hnm
                    go_wp2_with fail
                    have HDs := hide (HD6.out.on (Below.refl _ _).drew)
                    clear HD6
                    refine wp_region_held_drew (S := fun _ => True) (by kernel_rfl) trivial (fun hHeld => ?_)
                    generalize w6.drew = xs at HDs ⊢
                    refine wpAnyH_take (i := 0) (v := ?_) rfl (by kernel_rfl) (by kernel_rfl) (by kernel_rfl) (fun _ _ _ h => h) (Or.inl ⟨by rfl, ?_⟩) (by assumption) ?_; rotate_left
                    · (intro w hSw; (try dsimp only at hSw); go_simp; first | done | with_reducible rfl)
                    try simp only [Act.put, List.getElem_toArray, List.getElem_cons_zero, List.getElem_cons_succ, List.setIfInBounds_toArray, List.set_cons_zero, List.set_cons_succ]
                    refine wpAnyH_take (i := 2) (v := ?_) rfl (by kernel_rfl) (by kernel_rfl) (by kernel_rfl) (fun _ _ _ h => h) (Or.inl ⟨by rfl, ?_⟩) (by assumption) ?_; rotate_left
                    · (intro w hSw; (try dsimp only at hSw); go_simp; first | done | with_reducible rfl)
                    try simp only [Act.put, List.getElem_toArray, List.getElem_cons_zero, List.getElem_cons_succ, List.setIfInBounds_toArray, List.set_cons_zero, List.set_cons_succ]
                    refine wpAnyH_take (i := 3) (v := ?_) rfl (by kernel_rfl) (by kernel_rfl) (by kernel_rfl) (fun _ _ _ h => h) (Or.inl ⟨by rfl, ?_⟩) (by assumption) ?_; rotate_left
                    · (intro w hSw; (try dsimp only at hSw); go_simp; first | done | with_reducible rfl)
                    try simp only [Act.put, List.getElem_toArray, List.getElem_cons_zero, List.getElem_cons_succ, List.setIfInBounds_toArray, List.set_cons_zero, List.set_cons_succ]
                    refine wpAnyH_ready (rs := [1, 4]) (by kernel_rfl) (by simp) ?_
                    refine AllReadyH.cons rfl (fun K hK => ?_) ?_
                    · have hcd := HDs.out.cell
                      rw [if_pos (by rfl)]
                      go_simp
                      refine hK.out _ _ ?_ (fun hHeld => ?_)
                      · trivial
                      clear hK K
                      try simp only [Act.put, List.getElem_toArray, List.getElem_cons_zero, List.getElem_cons_succ, List.setIfInBounds_toArray, List.set_cons_zero, List.set_cons_succ]
                      clear hcd
                      refine wpAnyH_ready (rs := [4]) (by kernel_rfl) (by simp) ?_
                      refine AllReadyH.cons rfl (fun K hK => ?_) ?_
                      · rw [if_pos (by rfl)]
                        go_simp
                        go_at_call 34
                        refine (HDEC.out _).mono ?_
                        rintro r x4 ⟨rfl, hb4⟩
                        have HD4 := hide (HDs.out.on hb4)
                        clear hb4
                        try go_simp
                        refine hK.out _ _ ?_ (fun hHeld => ?_)
                        · trivial
                        clear hK K
                        try simp only [Act.put, List.getElem_toArray, List.getElem_cons_zero, List.getElem_cons_succ, List.setIfInBounds_toArray, List.set_cons_zero, List.set_cons_succ]
                        refine wpAnyH_take (i := 5) (v := ?_) rfl (by kernel_rfl) (by kernel_rfl) (by kernel_rfl) (fun _ _ _ h => h) (Or.inl ⟨by rfl, ?_⟩) (by assumption) ?_; rotate_left
                        · (intro w hSw; (try dsimp only at hSw); go_simp; first | done | with_reducible rfl)
                        try simp only [Act.put, List.getElem_toArray, List.getElem_cons_zero, List.getElem_cons_succ, List.setIfInBounds_toArray, List.set_cons_zero, List.set_cons_succ]
                        refine wpAnyH_take (i := 6) (v := ?_) rfl (by kernel_rfl) (by kernel_rfl) (by kernel_rfl) (fun _ _ _ h => h) (Or.inl ⟨by rfl, ?_⟩) (by assumption) ?_; rotate_left
                        · (intro w hSw; (try dsimp only at hSw); go_simp; first | done | with_reducible rfl)
                        try simp only [Act.put, List.getElem_toArray, List.getElem_cons_zero, List.getElem_cons_succ, List.setIfInBounds_toArray, List.set_cons_zero, List.set_cons_succ]
                        refine wpAnyH_ready (rs := [7]) (by kernel_rfl) (by simp) ?_
                        refine AllReadyH.cons rfl (fun K hK => ?_) ?_
                        · have HD5 := hide (HD4.out.on ((Below.refl _ _).alloc (Nat.le_refl _) (Obj.cells #[Value.string ⟨nm.toArray⟩, Value.string ⟨#[]⟩, Value.int IntKind.i64 0] 49)))
                          have hk5 := heap_alloc_new x4 (Obj.cells #[Value.string ⟨nm.toArray⟩, Value.string ⟨#[]⟩, Value.int IntKind.i64 0] 49)
                          rw [if_pos (by rfl)]
                          go_simp
                          refine hK.out _ _ ?_ (fun hHeld => ?_)
                          · trivial
                          clear hK K
                          try simp only [Act.put, List.getElem_toArray, List.getElem_cons_zero, List.getElem_cons_succ, List.setIfInBounds_toArray, List.set_cons_zero, List.set_cons_succ]
                          generalize x4.alloc (Obj.cells #[Value.string ⟨nm.toArray⟩, Value.string ⟨#[]⟩, Value.int IntKind.i64 0] 49) = x5 at HD5 hk5 ⊢
                          have HK5 := hide hk5
                          clear hk5
                          refine wpAnyH_ready (rs := [8]) (by kernel_rfl) (by simp) ?_
                          refine AllReadyH.cons rfl (fun K hK => ?_) ?_
                          · rw [if_pos (by rfl)]
                            refine wp_append_file _ _ rfl (w.heap.size + 1) _ hs.length hs rfl HD5.out.own (by omega) HD5.out.size.2 _ _ ⟨nm, [], 0⟩ rfl HK5.out ?_
                            intro v6 x6 ho6 hg6
                            have HR6 := hide (HD5.out.rv.rowD HD5.out.own hg6)
                            obtain ⟨ES, hES⟩ : ∃ ES, ES = hs ++ [⟨nm, [], 0⟩] := ⟨_, rfl⟩
                            have ho7 : x6.ownsRow (w.heap.size + 1) 49 3 v6 ES.length (ES.flatMap fcells) := by rw [hES, List.length_append]; first | exact ho6 | simpa using ho6
                            have HES := hide hES
                            obtain ⟨o6, c6, rfl⟩ := own_form ho7
                            have HO6 := hide ho7
                            clear hES ho6 hg6 ho7
                            try go_simp
                            refine hK.out _ _ ?_ (fun hHeld => ?_)
                            · trivial
                            clear hK K
                            try simp only [Act.put, List.getElem_toArray, List.getElem_cons_zero, List.getElem_cons_succ, List.setIfInBounds_toArray, List.set_cons_zero, List.set_cons_succ]
                            refine wpAnyH_take (i := 9) (v := ?_) rfl (by kernel_rfl) (by kernel_rfl) (by kernel_rfl) (fun _ _ _ h => h) (Or.inl ⟨by rfl, ?_⟩) (by assumption) ?_; rotate_left
                            · (intro w hSw; (try dsimp only at hSw); go_simp; first | done | with_reducible rfl)
                            try simp only [Act.put, List.getElem_toArray, List.getElem_cons_zero, List.getElem_cons_succ, List.setIfInBounds_toArray, List.set_cons_zero, List.set_cons_succ]
                            refine wpAnyH_ready (rs := [10]) (by kernel_rfl) (by simp) ?_
                            refine AllReadyH.cons rfl (fun K hK => ?_) ?_
                            · have q2 := blk_cell HR6.out.xb 0 rfl
                              have f2 := blk_free HR6.out.xb 0
                              simp only [List.getElem_toArray, List.getElem_cons_zero] at q2
                              have HDN := hide (DkD.put HR6.out HO6.out)
                              rw [if_pos (by rfl)]
                              go_simp
                              refine hK.out _ _ ?_ (fun hHeld => ?_)
                              · trivial
                              clear hK K
                              try simp only [Act.put, List.getElem_toArray, List.getElem_cons_zero, List.getElem_cons_succ, List.setIfInBounds_toArray, List.set_cons_zero, List.set_cons_succ]
                              clear q2 f2
                              refine wpAnyH_done (by kernel_rfl) ?_ _
                              clear hHeld
                              have HW2 := hide (show ∀ q ∈ ES, Fine q by rw [HES.out]; intro q hq; rcases List.mem_append.1 hq with h | h; exact HHW.out q h; rw [List.mem_singleton.1 h]; exact fine_small HNM.out (by simp) (by omega) (by omega))
                              have HL2 := hide (show ES.length = j + 1 by rw [HES.out, List.length_append, HHL.out]; rfl)
                              go_wp2_with fail
                              go_roundw
                              case rel => exact ⟨j + 1, o6, c6, ES, by go_num, by omega, HL2.out, HW2.out, HDN.out⟩
                              case measure => simp [intOf]; omega
                            exact AllReadyH.nil
                          exact AllReadyH.nil
                        exact AllReadyH.nil
                      exact AllReadyH.nil
                    refine AllReadyH.cons rfl (fun K hK => ?_) ?_
                    · rw [if_pos (by rfl)]
                      go_simp
                      go_at_call 34
                      refine (HDEC.out _).mono ?_
                      rintro r x4 ⟨rfl, hb4⟩
                      have HD4 := hide (HDs.out.on hb4)
                      clear hb4
                      try go_simp
                      refine hK.out _ _ ?_ (fun hHeld => ?_)
                      · trivial
                      clear hK K
                      try simp only [Act.put, List.getElem_toArray, List.getElem_cons_zero, List.getElem_cons_succ, List.setIfInBounds_toArray, List.set_cons_zero, List.set_cons_succ]
                      refine wpAnyH_take (i := 5) (v := ?_) rfl (by kernel_rfl) (by kernel_rfl) (by kernel_rfl) (fun _ _ _ h => h) (Or.inl ⟨by rfl, ?_⟩) (by assumption) ?_; rotate_left
                      · (intro w hSw; (try dsimp only at hSw); go_simp; first | done | with_reducible rfl)
                      try simp only [Act.put, List.getElem_toArray, List.getElem_cons_zero, List.getElem_cons_succ, List.setIfInBounds_toArray, List.set_cons_zero, List.set_cons_succ]
                      refine wpAnyH_take (i := 6) (v := ?_) rfl (by kernel_rfl) (by kernel_rfl) (by kernel_rfl) (fun _ _ _ h => h) (Or.inl ⟨by rfl, ?_⟩) (by assumption) ?_; rotate_left
                      · (intro w hSw; (try dsimp only at hSw); go_simp; first | done | with_reducible rfl)
                      try simp only [Act.put, List.getElem_toArray, List.getElem_cons_zero, List.getElem_cons_succ, List.setIfInBounds_toArray, List.set_cons_zero, List.set_cons_succ]
                      refine wpAnyH_ready (rs := [1, 7]) (by kernel_rfl) (by simp) ?_
                      refine AllReadyH.cons rfl (fun K hK => ?_) ?_
                      · have hcd := HD4.out.cell
                        rw [if_pos (by rfl)]
                        go_simp
                        refine hK.out _ _ ?_ (fun hHeld => ?_)
                        · trivial
                        clear hK K
                        try simp only [Act.put, List.getElem_toArray, List.getElem_cons_zero, List.getElem_cons_succ, List.setIfInBounds_toArray, List.set_cons_zero, List.set_cons_succ]
                        clear hcd
                        refine wpAnyH_ready (rs := [7]) (by kernel_rfl) (by simp) ?_
                        refine AllReadyH.cons rfl (fun K hK => ?_) ?_
                        · have HD5 := hide (HD4.out.on ((Below.refl _ _).alloc (Nat.le_refl _) (Obj.cells #[Value.string ⟨nm.toArray⟩, Value.string ⟨#[]⟩, Value.int IntKind.i64 0] 49)))
                          have hk5 := heap_alloc_new x4 (Obj.cells #[Value.string ⟨nm.toArray⟩, Value.string ⟨#[]⟩, Value.int IntKind.i64 0] 49)
                          rw [if_pos (by rfl)]
                          go_simp
                          refine hK.out _ _ ?_ (fun hHeld => ?_)
                          · trivial
                          clear hK K
                          try simp only [Act.put, List.getElem_toArray, List.getElem_cons_zero, List.getElem_cons_succ, List.setIfInBounds_toArray, List.set_cons_zero, List.set_cons_succ]
                          generalize x4.alloc (Obj.cells #[Value.string ⟨nm.toArray⟩, Value.string ⟨#[]⟩, Value.int IntKind.i64 0] 49) = x5 at HD5 hk5 ⊢
                          have HK5 := hide hk5
                          clear hk5
                          refine wpAnyH_ready (rs := [8]) (by kernel_rfl) (by simp) ?_
                          refine AllReadyH.cons rfl (fun K hK => ?_) ?_
                          · rw [if_pos (by rfl)]
                            refine wp_append_file _ _ rfl (w.heap.size + 1) _ hs.length hs rfl HD5.out.own (by omega) HD5.out.size.2 _ _ ⟨nm, [], 0⟩ rfl HK5.out ?_
                            intro v6 x6 ho6 hg6
                            have HR6 := hide (HD5.out.rv.rowD HD5.out.own hg6)
                            obtain ⟨ES, hES⟩ : ∃ ES, ES = hs ++ [⟨nm, [], 0⟩] := ⟨_, rfl⟩
                            have ho7 : x6.ownsRow (w.heap.size + 1) 49 3 v6 ES.length (ES.flatMap fcells) := by rw [hES, List.length_append]; first | exact ho6 | simpa using ho6
                            have HES := hide hES
                            obtain ⟨o6, c6, rfl⟩ := own_form ho7
                            have HO6 := hide ho7
                            clear hES ho6 hg6 ho7
                            try go_simp
                            refine hK.out _ _ ?_ (fun hHeld => ?_)
                            · trivial
                            clear hK K
                            try simp only [Act.put, List.getElem_toArray, List.getElem_cons_zero, List.getElem_cons_succ, List.setIfInBounds_toArray, List.set_cons_zero, List.set_cons_succ]
                            refine wpAnyH_take (i := 9) (v := ?_) rfl (by kernel_rfl) (by kernel_rfl) (by kernel_rfl) (fun _ _ _ h => h) (Or.inl ⟨by rfl, ?_⟩) (by assumption) ?_; rotate_left
                            · (intro w hSw; (try dsimp only at hSw); go_simp; first | done | with_reducible rfl)
                            try simp only [Act.put, List.getElem_toArray, List.getElem_cons_zero, List.getElem_cons_succ, List.setIfInBounds_toArray, List.set_cons_zero, List.set_cons_succ]
                            refine wpAnyH_ready (rs := [10]) (by kernel_rfl) (by simp) ?_
                            refine AllReadyH.cons rfl (fun K hK => ?_) ?_
                            · have q2 := blk_cell HR6.out.xb 0 rfl
                              have f2 := blk_free HR6.out.xb 0
                              simp only [List.getElem_toArray, List.getElem_cons_zero] at q2
                              have HDN := hide (DkD.put HR6.out HO6.out)
                              rw [if_pos (by rfl)]
                              go_simp
                              refine hK.out _ _ ?_ (fun hHeld => ?_)
                              · trivial
                              clear hK K
                              try simp only [Act.put, List.getElem_toArray, List.getElem_cons_zero, List.getElem_cons_succ, List.setIfInBounds_toArray, List.set_cons_zero, List.set_cons_succ]
                              clear q2 f2
                              refine wpAnyH_done (by kernel_rfl) ?_ _
                              clear hHeld
                              have HW2 := hide (show ∀ q ∈ ES, Fine q by rw [HES.out]; intro q hq; rcases List.mem_append.1 hq with h | h; exact HHW.out q h; rw [List.mem_singleton.1 h]; exact fine_small HNM.out (by simp) (by omega) (by omega))
                              have HL2 := hide (show ES.length = j + 1 by rw [HES.out, List.length_append, HHL.out]; rfl)
                              go_wp2_with fail
                              go_roundw
                              case rel => exact ⟨j + 1, o6, c6, ES, by go_num, by omega, HL2.out, HW2.out, HDN.out⟩
                              case measure => simp [intOf]; omega
                            exact AllReadyH.nil
                          exact AllReadyH.nil
                        exact AllReadyH.nil
                      refine AllReadyH.cons rfl (fun K hK => ?_) ?_
                      · have HD5 := hide (HD4.out.on ((Below.refl _ _).alloc (Nat.le_refl _) (Obj.cells #[Value.string ⟨nm.toArray⟩, Value.string ⟨#[]⟩, Value.int IntKind.i64 0] 49)))
                        have hk5 := heap_alloc_new x4 (Obj.cells #[Value.string ⟨nm.toArray⟩, Value.string ⟨#[]⟩, Value.int IntKind.i64 0] 49)
                        rw [if_pos (by rfl)]
                        go_simp
                        refine hK.out _ _ ?_ (fun hHeld => ?_)
                        · trivial
                        clear hK K
                        try simp only [Act.put, List.getElem_toArray, List.getElem_cons_zero, List.getElem_cons_succ, List.setIfInBounds_toArray, List.set_cons_zero, List.set_cons_succ]
                        generalize x4.alloc (Obj.cells #[Value.string ⟨nm.toArray⟩, Value.string ⟨#[]⟩, Value.int IntKind.i64 0] 49) = x5 at HD5 hk5 ⊢
                        have HK5 := hide hk5
                        clear hk5
                        refine wpAnyH_ready (rs := [1]) (by kernel_rfl) (by simp) ?_
                        refine AllReadyH.cons rfl (fun K hK => ?_) ?_
                        · have hcd := HD5.out.cell
                          rw [if_pos (by rfl)]
                          go_simp
                          refine hK.out _ _ ?_ (fun hHeld => ?_)
                          · trivial
                          clear hK K
                          try simp only [Act.put, List.getElem_toArray, List.getElem_cons_zero, List.getElem_cons_succ, List.setIfInBounds_toArray, List.set_cons_zero, List.set_cons_succ]
                          clear hcd
                          refine wpAnyH_ready (rs := [8]) (by kernel_rfl) (by simp) ?_
                          refine AllReadyH.cons rfl (fun K hK => ?_) ?_
                          · rw [if_pos (by rfl)]
                            refine wp_append_file _ _ rfl (w.heap.size + 1) _ hs.length hs rfl HD5.out.own (by omega) HD5.out.size.2 _ _ ⟨nm, [], 0⟩ rfl HK5.out ?_
                            intro v6 x6 ho6 hg6
                            have HR6 := hide (HD5.out.rv.rowD HD5.out.own hg6)
                            obtain ⟨ES, hES⟩ : ∃ ES, ES = hs ++ [⟨nm, [], 0⟩] := ⟨_, rfl⟩
                            have ho7 : x6.ownsRow (w.heap.size + 1) 49 3 v6 ES.length (ES.flatMap fcells) := by rw [hES, List.length_append]; first | exact ho6 | simpa using ho6
                            have HES := hide hES
                            obtain ⟨o6, c6, rfl⟩ := own_form ho7
                            have HO6 := hide ho7
                            clear hES ho6 hg6 ho7
                            try go_simp
                            refine hK.out _ _ ?_ (fun hHeld => ?_)
                            · trivial
                            clear hK K
                            try simp only [Act.put, List.getElem_toArray, List.getElem_cons_zero, List.getElem_cons_succ, List.setIfInBounds_toArray, List.set_cons_zero, List.set_cons_succ]
                            refine wpAnyH_take (i := 9) (v := ?_) rfl (by kernel_rfl) (by kernel_rfl) (by kernel_rfl) (fun _ _ _ h => h) (Or.inl ⟨by rfl, ?_⟩) (by assumption) ?_; rotate_left
                            · (intro w hSw; (try dsimp only at hSw); go_simp; first | done | with_reducible rfl)
                            try simp only [Act.put, List.getElem_toArray, List.getElem_cons_zero, List.getElem_cons_succ, List.setIfInBounds_toArray, List.set_cons_zero, List.set_cons_succ]
                            refine wpAnyH_ready (rs := [10]) (by kernel_rfl) (by simp) ?_
                            refine AllReadyH.cons rfl (fun K hK => ?_) ?_
                            · have q2 := blk_cell HR6.out.xb 0 rfl
                              have f2 := blk_free HR6.out.xb 0
                              simp only [List.getElem_toArray, List.getElem_cons_zero] at q2
                              have HDN := hide (DkD.put HR6.out HO6.out)
                              rw [if_pos (by rfl)]
                              go_simp
                              refine hK.out _ _ ?_ (fun hHeld => ?_)
                              · trivial
                              clear hK K
                              try simp only [Act.put, List.getElem_toArray, List.getElem_cons_zero, List.getElem_cons_succ, List.setIfInBounds_toArray, List.set_cons_zero, List.set_cons_succ]
                              clear q2 f2
                              refine wpAnyH_done (by kernel_rfl) ?_ _
                              clear hHeld
                              have HW2 := hide (show ∀ q ∈ ES, Fine q by rw [HES.out]; intro q hq; rcases List.mem_append.1 hq with h | h; exact HHW.out q h; rw [List.mem_singleton.1 h]; exact fine_small HNM.out (by simp) (by omega) (by omega))
                              have HL2 := hide (show ES.length = j + 1 by rw [HES.out, List.length_append, HHL.out]; rfl)
                              go_wp2_with fail
                              go_roundw
                              case rel => exact ⟨j + 1, o6, c6, ES, by go_num, by omega, HL2.out, HW2.out, HDN.out⟩
                              case measure => simp [intOf]; omega
                            exact AllReadyH.nil
                          exact AllReadyH.nil
                        exact AllReadyH.nil
                      exact AllReadyH.nil
                    exact AllReadyH.nil
                  · have j0 : ¬ (j : Int) < 30 + (q : Int) := by omega
                    have hg40 : hs.length ≤ 40 := by have := HHL.out; omega
                    have r0 := blk_cell HD6.out.rv.rs.rb 0 rfl
                    have t0 := blk_free HD6.out.rv.rs.rb 0
                    simp only [List.getElem_toArray, List.getElem_cons_zero] at r0
                    have c0 := HD6.out.cell
                    have l0 := HD6.out.lt
                    go_wp2_with fail
                    obtain ⟨hr, hc9, hg9, ho9⟩ := HD6.out.ret
                    generalize w6.setCell ⟨w.heap.size, 0, none⟩ (Value.slice ov hs.length cv) = wz9 at hr hc9 hg9 ho9 ⊢
                    have q9 : wz9.cell? ⟨w.heap.size, 0, none⟩ = some (Value.slice ov hs.length cv) := blk_cell hr 0 rfl
                    exact bodyPost_ret (v := .agg #[(Value.slice ov hs.length cv)]) (by simp [results, Try.results14, go_sem, q9]) rfl ⟨_, hs, hg40, HHW.out, rfl, hc9, hg9, ho9⟩
              · have g3 : ((y : Int) == 3) = false := by rw [beq_eq_false_iff_ne]; omega
                by_cases y4 : y = 4
                · subst y4
                  go_wp2_with fail
                  have HDs := hide (HR4.out.on (Below.refl _ _).drew)
                  clear HR4
                  refine wp_region_held_drew (S := (fun w' => w'.cell? ⟨b, 0, none⟩ = some (.slice (some ⟨g, 0, none⟩) gs.length cv))) (by kernel_rfl) HDs.out.cell (fun hHeld => ?_)
                  generalize w4.drew = xs at HDs hHeld ⊢
                  refine wpAnyH_take (i := 0) (v := ?_) rfl (by kernel_rfl) (by kernel_rfl) (by kernel_rfl) (fun _ _ _ h => h) (Or.inl ⟨by rfl, ?_⟩) (by assumption) ?_; rotate_left
                  · (intro wz hSw; replace hSw : wz.cell? ⟨b, 0, none⟩ = some (.slice (some ⟨g, 0, none⟩) gs.length cv) := hSw; go_simp; first | done | with_reducible rfl)
                  try simp only [Act.put, List.getElem_toArray, List.getElem_cons_zero, List.getElem_cons_succ, List.setIfInBounds_toArray, List.set_cons_zero, List.set_cons_succ]
                  refine wpAnyH_take (i := 1) (v := ?_) rfl (by kernel_rfl) (by kernel_rfl) (by kernel_rfl) (fun _ _ _ h => h) (Or.inl ⟨by rfl, ?_⟩) (by assumption) ?_; rotate_left
                  · (intro wz hSw; replace hSw : wz.cell? ⟨b, 0, none⟩ = some (.slice (some ⟨g, 0, none⟩) gs.length cv) := hSw; go_simp; first | done | with_reducible rfl)
                  try simp only [Act.put, List.getElem_toArray, List.getElem_cons_zero, List.getElem_cons_succ, List.setIfInBounds_toArray, List.set_cons_zero, List.set_cons_succ]
                  refine wpAnyH_take (i := 2) (v := ?_) rfl (by kernel_rfl) (by kernel_rfl) (by kernel_rfl) (fun _ _ _ h => h) (Or.inl ⟨by rfl, ?_⟩) (by assumption) ?_; rotate_left
                  · (intro wz hSw; replace hSw : wz.cell? ⟨b, 0, none⟩ = some (.slice (some ⟨g, 0, none⟩) gs.length cv) := hSw; go_simp; first | done | with_reducible rfl)
                  try simp only [Act.put, List.getElem_toArray, List.getElem_cons_zero, List.getElem_cons_succ, List.setIfInBounds_toArray, List.set_cons_zero, List.set_cons_succ]
                  refine wpAnyH_take (i := 3) (v := ?_) rfl (by kernel_rfl) (by kernel_rfl) (by kernel_rfl) (fun _ _ _ h => h) (Or.inl ⟨by rfl, ?_⟩) (by assumption) ?_; rotate_left
                  · (intro wz hSw; replace hSw : wz.cell? ⟨b, 0, none⟩ = some (.slice (some ⟨g, 0, none⟩) gs.length cv) := hSw; go_simp; first | done | with_reducible rfl)
                  try simp only [Act.put, List.getElem_toArray, List.getElem_cons_zero, List.getElem_cons_succ, List.setIfInBounds_toArray, List.set_cons_zero, List.set_cons_succ]
                  refine wpAnyH_ready (rs := [4]) (by kernel_rfl) (by simp) ?_
                  refine AllReadyH.cons rfl (fun K hK => ?_) ?_
                  · rw [if_pos (by rfl)]
                    go_simp
                    go_at_call 28
                    refine (l01Below_any B p a len cap 3 (by decide) (by decide) _ HDs.out.rv.rs.cur).mono ?_
                    rintro r x5 ⟨m, hm, rfl, hc5, hg5⟩
                    have HD5 := hide (HDs.out.drawn hc5 hg5)
                    have hwr : IntKind.i64.wrap (19999 + (m : Int)) = 19999 + (m : Int) := by rw [IntKind.wrap_i64]; omega
                    have HLG := hide (l01Long_any (19999 + m) (by omega) 65)
                    have e1 : ((19999 + m : Nat) : Int) = 19999 + (m : Int) := by omega
                    rw [e1] at HLG
                    clear hc5 hg5 e1
                    try go_simp
                    refine hK.out _ _ ?_ (fun hHeld => ?_)
                    · exact HD5.out.cell
                    clear hK K
                    try simp only [Act.put, List.getElem_toArray, List.getElem_cons_zero, List.getElem_cons_succ, List.setIfInBounds_toArray, List.set_cons_zero, List.set_cons_succ]
                    refine wpAnyH_take (i := 5) (v := ?_) rfl (by kernel_rfl) (by kernel_rfl) (by kernel_rfl) (fun _ _ _ h => h) (Or.inl ⟨by rfl, ?_⟩) (by assumption) ?_; rotate_left
                    · (intro wz hSw; replace hSw : wz.cell? ⟨b, 0, none⟩ = some (.slice (some ⟨g, 0, none⟩) gs.length cv) := hSw; go_simp; first | done | with_reducible rfl)
                    try simp only [Act.put, List.getElem_toArray, List.getElem_cons_zero, List.getElem_cons_succ, List.setIfInBounds_toArray, List.set_cons_zero, List.set_cons_succ]
                    refine wpAnyH_ready (rs := [6]) (by kernel_rfl) (by simp) ?_
                    refine AllReadyH.cons rfl (fun K hK => ?_) ?_
                    · rw [if_pos (by rfl)]
                      go_simp
                      go_at_call 35
                      refine (HLG.out _).mono ?_
                      rintro r x6 ⟨l, hl, rfl, hb6⟩
                      have HD6 := hide (HD5.out.on hb6)
                      have hl9 : l.length ≤ 30000 := by omega
                      clear hb6 hl
                      try go_simp
                      refine hK.out _ _ ?_ (fun hHeld => ?_)
                      · exact HD6.out.cell
                      clear hK K
                      try simp only [Act.put, List.getElem_toArray, List.getElem_cons_zero, List.getElem_cons_succ, List.setIfInBounds_toArray, List.set_cons_zero, List.set_cons_succ]
                      refine wpAnyH_take (i := 7) (v := ?_) rfl (by kernel_rfl) (by kernel_rfl) (by kernel_rfl) (fun _ _ _ h => h) (Or.inl ⟨by rfl, ?_⟩) (by assumption) ?_; rotate_left
                      · (intro wz hSw; replace hSw : wz.cell? ⟨b, 0, none⟩ = some (.slice (some ⟨g, 0, none⟩) gs.length cv) := hSw; go_simp; first | done | with_reducible rfl)
                      try simp only [Act.put, List.getElem_toArray, List.getElem_cons_zero, List.getElem_cons_succ, List.setIfInBounds_toArray, List.set_cons_zero, List.set_cons_succ]
                      refine wpAnyH_take (i := 8) (v := ?_) rfl (by kernel_rfl) (by kernel_rfl) (by kernel_rfl) (fun _ _ _ h => h) (Or.inl ⟨by rfl, ?_⟩) (by assumption) ?_; rotate_left
                      · (intro wz hSw; replace hSw : wz.cell? ⟨b, 0, none⟩ = some (.slice (some ⟨g, 0, none⟩) gs.length cv) := hSw; go_simp; first | done | with_reducible rfl)
                      try simp only [Act.put, List.getElem_toArray, List.getElem_cons_zero, List.getElem_cons_succ, List.setIfInBounds_toArray, List.set_cons_zero, List.set_cons_succ]
                      refine wpAnyH_ready (rs := [9]) (by kernel_rfl) (by simp) ?_
                      refine AllReadyH.cons rfl (fun K hK => ?_) ?_
                      · obtain ⟨⟨y0, z0⟩, ⟨y1, z1⟩, ⟨y2, z2⟩⟩ := own_three HD6.out.own k hk
                        have f1 := HD6.out.own.frozenAt (k * 3 + 1)
                        have HDT := hide (HD6.out.turn (f' := ⟨f.name, l, f.kept⟩) (c := 1) (u := .string ⟨l.toArray⟩) HF.out (by omega) rfl (by intro j hj; match j with | 0 => rfl | 1 => exact absurd rfl hj | 2 => rfl | j + 3 => rfl))
                        rw [if_pos (by rfl)]
                        go_simp
                        refine hK.out _ _ ?_ (fun hHeld => ?_)
                        · exact (by have h := HDT.out.cell; rw [List.length_set] at h; exact h)
                        clear hK K
                        try simp only [Act.put, List.getElem_toArray, List.getElem_cons_zero, List.getElem_cons_succ, List.setIfInBounds_toArray, List.set_cons_zero, List.set_cons_succ]
                        clear z0 z1 z2 f1
                        refine wpAnyH_done (by kernel_rfl) ?_ _
                        clear hHeld
                        obtain ⟨GS, hGS⟩ : ∃ GS, GS = gs.set k ⟨f.name, l, f.kept⟩ := ⟨_, rfl⟩
                        rw [← hGS] at HDT
                        have hgl : GS.length = gs.length := by rw [hGS, List.length_set]
                        have HFG := hide (show ∀ q ∈ GS, Fine q by rw [hGS]; exact fine_set HFN.out ⟨HFF.out.1, by show l.length ≤ 4194304; omega, HFF.out.2.2⟩)
                        rw [← hgl]
                        generalize x6.setCell ⟨g, k * 3 + 1, none⟩ (Value.string ⟨l.toArray⟩) = xz at HDT ⊢
                        have hg40 : GS.length ≤ 40 := by omega
                        clear hGS hgl
                        have r0 := blk_cell HDT.out.rv.rs.rb 0 rfl
                        have t0 := blk_free HDT.out.rv.rs.rb 0
                        simp only [List.getElem_toArray, List.getElem_cons_zero] at r0
                        have c0 := HDT.out.cell
                        have l0 := HDT.out.lt
                        go_wp2_with fail
                        obtain ⟨hr, hc9, hg9, ho9⟩ := HDT.out.ret
                        generalize xz.setCell ⟨w.heap.size, 0, none⟩ (Value.slice (some ⟨g, 0, none⟩) GS.length cv) = wz9 at hr hc9 hg9 ho9 ⊢
                        have q9 : wz9.cell? ⟨w.heap.size, 0, none⟩ = some (Value.slice (some ⟨g, 0, none⟩) GS.length cv) := blk_cell hr 0 rfl
                        exact bodyPost_ret (v := .agg #[(Value.slice (some ⟨g, 0, none⟩) GS.length cv)]) (by simp [results, Try.results14, go_sem, q9]) rfl ⟨_, GS, hg40, HFG.out, rfl, hc9, hg9, ho9⟩
                      exact AllReadyH.nil
                    exact AllReadyH.nil
                  exact AllReadyH.nil
                · have g4 : ((y : Int) == 4) = false := by rw [beq_eq_false_iff_ne]; omega
                  have hg40 : gs.length ≤ 40 := by omega
                  have r0 := blk_cell HR4.out.rv.rs.rb 0 rfl
                  have t0 := blk_free HR4.out.rv.rs.rb 0
                  simp only [List.getElem_toArray, List.getElem_cons_zero] at r0
                  have c0 := HR4.out.cell
                  have l0 := HR4.out.lt
                  go_wp2_with fail
                  obtain ⟨hr, hc9, hg9, ho9⟩ := HR4.out.ret
                  generalize w4.setCell ⟨w.heap.size, 0, none⟩ (Value.slice (some ⟨g, 0, none⟩) gs.length cv) = wz9 at hr hc9 hg9 ho9 ⊢
                  have q9 : wz9.cell? ⟨w.heap.size, 0, none⟩ = some (Value.slice (some ⟨g, 0, none⟩) gs.length cv) := blk_cell hr 0 rfl
                  exact bodyPost_ret (v := .agg #[(Value.slice (some ⟨g, 0, none⟩) gs.length cv)]) (by simp [results, Try.results14, go_sem, q9]) rfl ⟨_, gs, hg40, HFN.out, rfl, hc9, hg9, ho9⟩

end Go.Proofs.Ytdcdlfkbdeogeaa
