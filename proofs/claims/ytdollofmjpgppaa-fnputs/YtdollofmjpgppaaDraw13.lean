/-
  Draws of chapter 6: a right log (made by wip/tools/gen13.py).
-/
import Derived.Test.YtdollofmjpgppaaPiece
import Derived.Test.YtdollofmjpgppaaDraw9
import Derived.Test.YtdollofmjpgppaaPack23
namespace Go.Proofs.Ytdollofmjpgppaa
open Go.RowKit P1 P9 K
attribute [local go_sem ↓] Go.wp_at_zero Go.wp_at_succ
set_option linter.unusedVariables false
set_option linter.unusedSimpArgs false

/-- The row that the call owns is written, or new memory is made: the cursor and both variables stand. -/
theorem RvV.row {B p : Nat} {a : Option Addr} {len cap : Nat} {w : World} {Z : Array Value} {b : Nat} {X : Array Value} {v : Value} {n : Nat} {xs : List Value} {w1 w2 : World} (h : RvV B p a len cap w Z 26 b X 26 w1) (ho : w1.ownsRow (w.heap.size + 1) 28 3 v n xs) (hg : w1.grownBy w2 v.ownBlock) : RvV B p a len cap w Z 26 b X 26 w2 := by
  have hp := h.rs.hp
  have hB := h.rs.hB
  have hs := h.rs.size
  have hlo : ∀ g, v.ownBlock = some g → w.heap.size + 1 ≤ g := fun g hq => (ho.lt g hq).1
  have hno : ∀ i, i ≤ w.heap.size → some i ≠ v.ownBlock := fun i hi e1 => by have := hlo i e1.symm; omega
  have hbel : Below B w1 w2 := (Below.refl B w1).grown hg (by omega) (fun k hk => by have := hlo k hk; omega)
  refine ⟨⟨h.rs.cur.kept hbel (hg.block p (by omega) (hno p (by omega))), ?_, (hg.block _ hs (hno _ (Nat.le_refl _))).trans h.rs.rb, hp, hB⟩, (hg.block _ (blk_lt h.xb) (fun e1 => ?_)).trans h.xb, h.hb⟩
  · exact ⟨hg.os.trans h.rs.gr.os, hg.tape.trans h.rs.gr.tape, hg.output.trans h.rs.gr.output, Nat.le_trans h.rs.gr.size hg.size, fun i hi hne => (hg.block i (by omega) (hno i (by omega))).trans (h.rs.gr.block i hi hne)⟩
  · rcases ho.2 with ⟨rfl, -⟩ | ⟨g, cap, cur, rfl, -, hgb, -⟩
    · cases e1
    · cases e1
      have k := h.xb
      rw [hgb] at k
      cases k

/-- A log in the making: the cursor, the answer's variable, the log's variable, its row. -/
structure LgD (B p : Nat) (a : Option Addr) (len cap : Nat) (w : World) (b : Nat) (s u : Int) (v : Value) (es : List EntV) (wr : World) : Prop where
  rv : RvV B p a len cap w #[.int .i64 0, .int .i64 0, .slice none 0 0] 26 b #[.int .i64 s, .int .i64 u, v] 26 wr
  own : wr.ownsRow (w.heap.size + 1) 28 3 v es.length (es.flatMap ecells)

section
variable {B p : Nat} {a : Option Addr} {len cap : Nat} {w : World} {b : Nat} {s u : Int} {v v' : Value} {es fs : List EntV} {w1 w2 : World}

theorem LgD.size (h : LgD B p a len cap w b s u v es w1) : B ≤ w1.heap.size ∧ w.heap.size + 1 ≤ w1.heap.size := by
  have h1 := h.rv.rs.hB
  have h2 := h.rv.rs.size
  omega

theorem LgD.drawn (h : LgD B p a len cap w b s u v es w1) (hc : CurAt B w2 p a len cap) (hg : w1.grownBy w2 (some p)) : LgD B p a len cap w b s u v es w2 :=
  ⟨h.rv.drawn hc hg, h.own.kept hg (by
    cases hv : v.ownBlock with
    | none => exact Or.inl rfl
    | some g =>
      right
      intro e1
      cases e1
      have := (h.own.lt _ hv).1
      have := h.rv.rs.hp
      omega)⟩

theorem LgD.on (h : LgD B p a len cap w b s u v es w1) (hb : Below w1.heap.size w1 w2) : LgD B p a len cap w b s u v es w2 := ⟨h.rv.on hb, own_below h.own hb⟩

theorem LgD.ne (h : LgD B p a len cap w b s u v es w1) : ∀ g, v.ownBlock = some g → g ≠ b := by
  rcases h.own.2 with ⟨rfl, -⟩ | ⟨g, cap, cur, rfl, -, hgb, -⟩
  · intro g hg; cases hg
  · intro q hq e1
    cases hq
    subst e1
    have k := h.rv.xb
    rw [hgb] at k
    cases k

theorem LgD.put0 (h : LgD B p a len cap w b s u v es w1) (x : Int) : LgD B p a len cap w b x u v es (w1.setCell ⟨b, 0, none⟩ (.int .i64 x)) :=
  ⟨h.rv.put 0 [.int .i64 x], own_setOther h.own h.ne⟩
theorem LgD.put1 (h : LgD B p a len cap w b s u v es w1) (x : Int) : LgD B p a len cap w b s x v es (w1.setCell ⟨b, 1, none⟩ (.int .i64 x)) :=
  ⟨h.rv.put 1 [.int .i64 x], own_setOther h.own h.ne⟩

/-- Another row put into the log's variable. -/
theorem LgD.put2 (h : RvV B p a len cap w #[.int .i64 0, .int .i64 0, .slice none 0 0] 26 b #[.int .i64 s, .int .i64 u, v] 26 w1) (ho : w1.ownsRow (w.heap.size + 1) 28 3 v' fs.length (fs.flatMap ecells)) : LgD B p a len cap w b s u v' fs (w1.setCell ⟨b, 2, none⟩ v') := by
  refine ⟨h.put 2 [v'], own_setOther ho ?_⟩
  rcases ho.2 with ⟨rfl, -⟩ | ⟨g, cap, cur, rfl, -, hgb, -⟩
  · intro g hg; cases hg
  · intro q hq e1
    cases hq
    subst e1
    have k := h.xb
    rw [hgb] at k
    cases k

theorem LgD.cells (h : LgD B p a len cap w b s u v es w1) : w1.cell? ⟨b, 0, none⟩ = some (.int .i64 s) ∧ w1.cell? ⟨b, 1, none⟩ = some (.int .i64 u) ∧ w1.cell? ⟨b, 2, none⟩ = some v := ⟨blk_cell h.rv.xb 0 rfl, blk_cell h.rv.xb 1 rfl, blk_cell h.rv.xb 2 rfl⟩
theorem LgD.free (h : LgD B p a len cap w b s u v es w1) (k : Nat) : w1.frozen? ⟨b, k, none⟩ = false := blk_free h.rv.xb k
theorem LgD.lt (h : LgD B p a len cap w b s u v es w1) : b < w1.heap.size := blk_lt h.rv.xb
end

/-- A log drawn: whatever its numbers, not many entries, none of them long; in new memory. -/
def LgPost (B p : Nat) (a : Option Addr) (len cap N : Nat) (w : World) (e : Ending) (w' : World) : Prop :=
  ∃ (s u : Int) (v : Value) (es : List EntV), es.length ≤ N ∧ (∀ f ∈ es, f.data.size ≤ 1000) ∧ e = .returned (lgv s u v) ∧ CurAt B w' p a len cap ∧ w.grownBy w' (some p) ∧ w'.ownsRow (w.heap.size + 1) 28 3 v es.length (es.flatMap ecells)

/-- The log handed back. -/
theorem LgD.ret {B p : Nat} {a : Option Addr} {len cap : Nat} {w : World} {b : Nat} {s u : Int} {v : Value} {es : List EntV} {w1 : World} (h : LgD B p a len cap w b s u v es w1) :
    (((w1.setCell ⟨w.heap.size, 0, none⟩ (.int .i64 s)).setCell ⟨w.heap.size, 1, none⟩ (.int .i64 u)).setCell ⟨w.heap.size, 2, none⟩ v).heap[w.heap.size]? = some (.cells #[.int .i64 s, .int .i64 u, v] 26 (0, 0)) ∧
    CurAt B (((w1.setCell ⟨w.heap.size, 0, none⟩ (.int .i64 s)).setCell ⟨w.heap.size, 1, none⟩ (.int .i64 u)).setCell ⟨w.heap.size, 2, none⟩ v) p a len cap ∧
    w.grownBy (((w1.setCell ⟨w.heap.size, 0, none⟩ (.int .i64 s)).setCell ⟨w.heap.size, 1, none⟩ (.int .i64 u)).setCell ⟨w.heap.size, 2, none⟩ v) (some p) ∧
    (((w1.setCell ⟨w.heap.size, 0, none⟩ (.int .i64 s)).setCell ⟨w.heap.size, 1, none⟩ (.int .i64 u)).setCell ⟨w.heap.size, 2, none⟩ v).ownsRow (w.heap.size + 1) 28 3 v es.length (es.flatMap ecells) := by
  obtain ⟨h1, h2, h3⟩ := h.rv.rs.ret [.int .i64 s, .int .i64 u, v]
  have hne : ∀ g, v.ownBlock = some g → g ≠ w.heap.size := fun g hg e1 => by have := (h.own.lt g hg).1; omega
  exact ⟨h1, h2, h3, own_setOther (own_setOther (own_setOther h.own hne) hne) hne⟩

set_option maxRecDepth 100000 in
set_option maxHeartbeats 4000000 in
theorem l06Right_any (B p : Nat) (a : Option Addr) (len cap : Nat) (w : World) (hB : B ≤ w.heap.size) (hc : CurAt B w p a len cap) :
    Calls Try.prog 26 #[.pointer (some ⟨p, 0, none⟩)] w (LgPost B p a len cap 8 w) := by
  have H0 := hide (RvS.start hB hc #[.int .i64 0, .int .i64 0, .slice none 0 0] 26)
  clear hc
  go_enter Try.func26, Try.ntmps26
  go_wp2_with fail
  refine (l01Below_any B p a len cap 3 (by decide) (by decide) _ H0.out.cur).mono ?_
  rintro r w1 ⟨x1, hx1, rfl, hc1, hg1⟩
  have H1 := hide (H0.out.drawn hc1 hg1)
  clear hc1 hg1 H0
  go_wp2_with fail
  refine (l01Below_any B p a len cap 4 (by decide) (by decide) _ H1.out.cur).mono ?_
  rintro r w2 ⟨x2, hx2, rfl, hc2, hg2⟩
  have H2 := hide (H1.out.drawn hc2 hg2)
  clear hc2 hg2 H1
  obtain ⟨s, hs⟩ : ∃ s : Int, (x1 : Int) * (x2 : Int) = s := ⟨_, rfl⟩
  have hs1 : 0 ≤ s ∧ s ≤ 12 := by
    have h3 : x1 * x2 ≤ 2 * 3 := Nat.mul_le_mul (by omega) (by omega)
    have h4 : ((x1 * x2 : Nat) : Int) = s := by rw [← hs]; simp
    omega
  obtain ⟨hs0, hs1⟩ := hs1
  have hsw : IntKind.i64.wrap s = s := by rw [IntKind.wrap_i64]; omega
  have hsw2 : wrap64 s = s := by unfold wrap64; omega
  go_wp2_with fail
  refine (l01Below_any B p a len cap 3 (by decide) (by decide) _ H2.out.cur).mono ?_
  rintro r w3 ⟨u, hu, rfl, hc3, hg3⟩
  have H3 := hide (H2.out.drawn hc3 hg3)
  have HD0 : Hid (LgD B p a len cap w w3.heap.size s (u : Int) (.slice none 0 0) [] (w3.alloc (.cells #[.int .i64 s, .int .i64 (u : Int), .slice none 0 0] 26))) := hide ⟨H3.out.var _ _, World.ownsRow_nil _ _ _ _⟩
  have hb3 : w.heap.size < w3.heap.size := H3.out.size
  clear hc3 hg3 H2
  go_wp2_with fail
  obtain ⟨W0, hW0⟩ : ∃ W0, W0 = w3.alloc (.cells #[.int .i64 s, .int .i64 (u : Int), .slice none 0 0] 26) := ⟨_, rfl⟩
  obtain ⟨b, hb⟩ : ∃ b, b = w3.heap.size := ⟨_, rfl⟩
  rw [← hW0, ← hb] at HD0 ⊢
  clear hW0 hb H3
  go_loopw [5, 4] (fun i t wr => ∃ (j : Nat) (tm : Int) (ov : Option Addr) (cv : Nat) (es : List EntV), i = .int .i64 (j : Int) ∧ t = .int .i64 tm ∧ 0 ≤ tm ∧ tm ≤ 2 + 2 * (j : Int) ∧ j ≤ 8 ∧ es.length = j ∧ (∀ f ∈ es, f.data.size ≤ 1000) ∧ LgD B p a len cap w b s (u : Int) (.slice ov es.length cv) es wr) (fun i _ _ => 8 - (intOf i).toNat)
  case atStart => exact ⟨0, u, none, 0, [], rfl, rfl, by omega, by omega, by omega, rfl, (by simp), HD0.out⟩
  case round =>
    obtain ⟨j, tm, ov, cv, es, rfl, rfl, ht0, ht1, hj, hel, hew, hd⟩ := hrel
    have HD1 := hide hd
    have HEL := hide hel
    have HEW := hide hew
    clear hd hel hew HD0
    go_wp2_with fail
    refine (l01Below_any B p a len cap 8 (by decide) (by decide) _ HD1.out.rv.rs.cur).mono ?_
    rintro r w5 ⟨y, hy, rfl, hc5, hg5⟩
    have HD5a := hide (HD1.out.drawn hc5 hg5)
    clear hc5 hg5 HD1
    by_cases hjy : j < y
    · have j0 : (j : Int) < (y : Int) := by omega
      have hj8 : j < 8 := by omega
      have hel8 : es.length < 8 := by rw [HEL.out]; exact hj8
      go_wp2_with fail
      refine (l01Once_any B p a len cap 3 (by decide) (by decide) _ HD5a.out.rv.rs.cur).mono ?_
      rintro r w6 ⟨q, rfl, hc6, hg6⟩
      have HD6 := hide (HD5a.out.drawn hc6 hg6)
      clear hc6 hg6 HD5a
      cases q with
      | true =>
        go_wp2_with fail
        refine (l01Below_any B p a len cap 2 (by decide) (by decide) _ HD6.out.rv.rs.cur).mono ?_
        rintro r w7 ⟨z, hz, rfl, hc7, hg7⟩
        have HD7 := hide (HD6.out.drawn hc7 hg7)
        clear hc7 hg7 HD6
        go_wp2_with fail
        have HDs := hide (HD7.out.on (Below.refl _ _).drew)
        clear HD7
        refine wp_region_held_drew (S := fun _ => True) (by kernel_rfl) trivial (fun hHeld => ?_)
        generalize w7.drew = xs at HDs ⊢
        refine wpAnyH_take (i := 0) (v := ?_) rfl (by kernel_rfl) (by kernel_rfl) (by kernel_rfl) (fun _ _ _ h => h) (Or.inl ⟨by rfl, ?_⟩) (by assumption) ?_; rotate_left
        · (intro w hSw; (try dsimp only at hSw); go_simp; first | done | with_reducible rfl)
        try simp only [Act.put, List.getElem_toArray, List.getElem_cons_zero, List.getElem_cons_succ, List.setIfInBounds_toArray, List.set_cons_zero, List.set_cons_succ]
        refine wpAnyH_take (i := 2) (v := ?_) rfl (by kernel_rfl) (by kernel_rfl) (by kernel_rfl) (fun _ _ _ h => h) (Or.inl ⟨by rfl, ?_⟩) (by assumption) ?_; rotate_left
        · (intro w hSw; (try dsimp only at hSw); go_simp; first | done | with_reducible rfl)
        try simp only [Act.put, List.getElem_toArray, List.getElem_cons_zero, List.getElem_cons_succ, List.setIfInBounds_toArray, List.set_cons_zero, List.set_cons_succ]
        refine wpAnyH_take (i := 3) (v := ?_) rfl (by kernel_rfl) (by kernel_rfl) (by kernel_rfl) (fun _ _ _ h => h) (Or.inl ⟨by rfl, ?_⟩) (by assumption) ?_; rotate_left
        · (intro w hSw; (try dsimp only at hSw); go_simp; first | done | with_reducible rfl)
        try simp only [Act.put, List.getElem_toArray, List.getElem_cons_zero, List.getElem_cons_succ, List.setIfInBounds_toArray, List.set_cons_zero, List.set_cons_succ]
        refine wpAnyH_ready (rs := [1, 4]) (by kernel_rfl) (by simp) ?_
        refine AllReadyH.cons rfl (fun K hK => ?_) ?_
        · have hcd := HDs.out.cells.2.2
          rw [if_pos (by rfl)]
          go_simp
          refine hK.out _ _ ?_ (fun hHeld => ?_)
          · trivial
          clear hK K
          try simp only [Act.put, List.getElem_toArray, List.getElem_cons_zero, List.getElem_cons_succ, List.setIfInBounds_toArray, List.set_cons_zero, List.set_cons_succ]
          clear hcd
          refine wpAnyH_ready (rs := [4]) (by kernel_rfl) (by simp) ?_
          refine AllReadyH.cons rfl (fun K hK => ?_) ?_
          · rw [if_pos (by rfl)]
            go_simp
            go_at_call 13
            refine (l05Right_any B p a len cap _ _ HDs.out.size.1 HDs.out.rv.rs.cur).mono ?_
            rintro r x4 ⟨et, ek, ez, hez, rfl, hc4, hg4⟩
            have HD4 := hide (HDs.out.drawn hc4 hg4)
            have HEZ := hide hez
            clear hc4 hg4 hez
            try go_simp
            refine hK.out _ _ ?_ (fun hHeld => ?_)
            · trivial
            clear hK K
            try simp only [Act.put, List.getElem_toArray, List.getElem_cons_zero, List.getElem_cons_succ, List.setIfInBounds_toArray, List.set_cons_zero, List.set_cons_succ]
            refine wpAnyH_ready (rs := [5]) (by kernel_rfl) (by simp) ?_
            refine AllReadyH.cons rfl (fun K hK => ?_) ?_
            · have HD5 := hide (HD4.out.on ((Below.refl _ _).alloc (Nat.le_refl _) (Obj.cells #[Value.int IntKind.i64 et, Value.int IntKind.i64 ek, Value.string ez] 28)))
              have hk5 := heap_alloc_new x4 (Obj.cells #[Value.int IntKind.i64 et, Value.int IntKind.i64 ek, Value.string ez] 28)
              rw [if_pos (by rfl)]
              go_simp
              refine hK.out _ _ ?_ (fun hHeld => ?_)
              · trivial
              clear hK K
              try simp only [Act.put, List.getElem_toArray, List.getElem_cons_zero, List.getElem_cons_succ, List.setIfInBounds_toArray, List.set_cons_zero, List.set_cons_succ]
              have z5 : (x4.alloc (Obj.cells #[Value.int IntKind.i64 et, Value.int IntKind.i64 ek, Value.string ez] 28)).heap.size = x4.heap.size + 1 := by simp
              generalize x4.alloc (Obj.cells #[Value.int IntKind.i64 et, Value.int IntKind.i64 ek, Value.string ez] 28) = x5 at HD5 hk5 ⊢
              have HK5 := hide hk5
              clear hk5
              refine wpAnyH_ready (rs := [6]) (by kernel_rfl) (by simp) ?_
              refine AllReadyH.cons rfl (fun K hK => ?_) ?_
              · rw [if_pos (by rfl)]
                refine wp_append_entry _ _ rfl (w.heap.size + 1) _ es.length es rfl HD5.out.own (by omega) HD5.out.size.2 _ _ (EntV.mk et ek ez) rfl HK5.out ?_
                intro v6 x6 ho6 hg6
                have HR6 := hide (HD5.out.rv.row HD5.out.own hg6)
                obtain ⟨ES, hES⟩ : ∃ ES, ES = es ++ [EntV.mk et ek ez] := ⟨_, rfl⟩
                have ho7 : x6.ownsRow (w.heap.size + 1) 28 3 v6 ES.length (ES.flatMap ecells) := by rw [hES, List.length_append]; exact ho6
                have HES := hide hES
                clear hES
                obtain ⟨o6, c6, rfl⟩ := own_form3 ho7
                have HO6 := hide ho7
                clear ho6 hg6 ho7
                try go_simp
                refine hK.out _ _ ?_ (fun hHeld => ?_)
                · trivial
                clear hK K
                try simp only [Act.put, List.getElem_toArray, List.getElem_cons_zero, List.getElem_cons_succ, List.setIfInBounds_toArray, List.set_cons_zero, List.set_cons_succ]
                refine wpAnyH_take (i := 7) (v := ?_) rfl (by kernel_rfl) (by kernel_rfl) (by kernel_rfl) (fun _ _ _ h => h) (Or.inl ⟨by rfl, ?_⟩) (by assumption) ?_; rotate_left
                · (intro w hSw; (try dsimp only at hSw); go_simp; first | done | with_reducible rfl)
                try simp only [Act.put, List.getElem_toArray, List.getElem_cons_zero, List.getElem_cons_succ, List.setIfInBounds_toArray, List.set_cons_zero, List.set_cons_succ]
                refine wpAnyH_ready (rs := [8]) (by kernel_rfl) (by simp) ?_
                refine AllReadyH.cons rfl (fun K hK => ?_) ?_
                · have q2 := blk_cell HR6.out.xb 2 rfl
                  have f2 := blk_free HR6.out.xb 2
                  simp only [List.getElem_toArray, List.getElem_cons_zero, List.getElem_cons_succ] at q2
                  have HDN := hide (LgD.put2 HR6.out HO6.out)
                  rw [if_pos (by rfl)]
                  go_simp
                  refine hK.out _ _ ?_ (fun hHeld => ?_)
                  · trivial
                  clear hK K
                  try simp only [Act.put, List.getElem_toArray, List.getElem_cons_zero, List.getElem_cons_succ, List.setIfInBounds_toArray, List.set_cons_zero, List.set_cons_succ]
                  clear q2 f2
                  refine wpAnyH_done (by kernel_rfl) ?_ _
                  have HW2 := hide (show ∀ f ∈ ES, f.data.size ≤ 1000 from fun f hf => (List.mem_append.1 (by rw [HES.out] at hf; exact hf)).elim (HEW.out f) (fun h => by rw [List.mem_singleton.1 h]; have := HEZ.out; show ez.size ≤ 1000; omega))
                  have HL2 := hide (show ES.length = j + 1 by rw [HES.out, List.length_append, HEL.out]; rfl)
                  clear hHeld
                  go_wp2_with fail
                  go_roundw
                  case rel => exact ⟨j + 1, tm + 1 + z, o6, c6, ES, by go_num, by first | rfl | go_num, by omega, by omega, by omega, HL2.out, HW2.out, HDN.out⟩
                  case measure => simp [intOf]; omega
                exact AllReadyH.nil
              exact AllReadyH.nil
            exact AllReadyH.nil
          exact AllReadyH.nil
        refine AllReadyH.cons rfl (fun K hK => ?_) ?_
        · rw [if_pos (by rfl)]
          go_simp
          go_at_call 13
          refine (l05Right_any B p a len cap _ _ HDs.out.size.1 HDs.out.rv.rs.cur).mono ?_
          rintro r x4 ⟨et, ek, ez, hez, rfl, hc4, hg4⟩
          have HD4 := hide (HDs.out.drawn hc4 hg4)
          have HEZ := hide hez
          clear hc4 hg4 hez
          try go_simp
          refine hK.out _ _ ?_ (fun hHeld => ?_)
          · trivial
          clear hK K
          try simp only [Act.put, List.getElem_toArray, List.getElem_cons_zero, List.getElem_cons_succ, List.setIfInBounds_toArray, List.set_cons_zero, List.set_cons_succ]
          refine wpAnyH_ready (rs := [1, 5]) (by kernel_rfl) (by simp) ?_
          refine AllReadyH.cons rfl (fun K hK => ?_) ?_
          · have hcd := HD4.out.cells.2.2
            rw [if_pos (by rfl)]
            go_simp
            refine hK.out _ _ ?_ (fun hHeld => ?_)
            · trivial
            clear hK K
            try simp only [Act.put, List.getElem_toArray, List.getElem_cons_zero, List.getElem_cons_succ, List.setIfInBounds_toArray, List.set_cons_zero, List.set_cons_succ]
            clear hcd
            refine wpAnyH_ready (rs := [5]) (by kernel_rfl) (by simp) ?_
            refine AllReadyH.cons rfl (fun K hK => ?_) ?_
            · have HD5 := hide (HD4.out.on ((Below.refl _ _).alloc (Nat.le_refl _) (Obj.cells #[Value.int IntKind.i64 et, Value.int IntKind.i64 ek, Value.string ez] 28)))
              have hk5 := heap_alloc_new x4 (Obj.cells #[Value.int IntKind.i64 et, Value.int IntKind.i64 ek, Value.string ez] 28)
              rw [if_pos (by rfl)]
              go_simp
              refine hK.out _ _ ?_ (fun hHeld => ?_)
              · trivial
              clear hK K
              try simp only [Act.put, List.getElem_toArray, List.getElem_cons_zero, List.getElem_cons_succ, List.setIfInBounds_toArray, List.set_cons_zero, List.set_cons_succ]
              have z5 : (x4.alloc (Obj.cells #[Value.int IntKind.i64 et, Value.int IntKind.i64 ek, Value.string ez] 28)).heap.size = x4.heap.size + 1 := by simp
              generalize x4.alloc (Obj.cells #[Value.int IntKind.i64 et, Value.int IntKind.i64 ek, Value.string ez] 28) = x5 at HD5 hk5 ⊢
              have HK5 := hide hk5
              clear hk5
              refine wpAnyH_ready (rs := [6]) (by kernel_rfl) (by simp) ?_
              refine AllReadyH.cons rfl (fun K hK => ?_) ?_
              · rw [if_pos (by rfl)]
                refine wp_append_entry _ _ rfl (w.heap.size + 1) _ es.length es rfl HD5.out.own (by omega) HD5.out.size.2 _ _ (EntV.mk et ek ez) rfl HK5.out ?_
                intro v6 x6 ho6 hg6
                have HR6 := hide (HD5.out.rv.row HD5.out.own hg6)
                obtain ⟨ES, hES⟩ : ∃ ES, ES = es ++ [EntV.mk et ek ez] := ⟨_, rfl⟩
                have ho7 : x6.ownsRow (w.heap.size + 1) 28 3 v6 ES.length (ES.flatMap ecells) := by rw [hES, List.length_append]; exact ho6
                have HES := hide hES
                clear hES
                obtain ⟨o6, c6, rfl⟩ := own_form3 ho7
                have HO6 := hide ho7
                clear ho6 hg6 ho7
                try go_simp
                refine hK.out _ _ ?_ (fun hHeld => ?_)
                · trivial
                clear hK K
                try simp only [Act.put, List.getElem_toArray, List.getElem_cons_zero, List.getElem_cons_succ, List.setIfInBounds_toArray, List.set_cons_zero, List.set_cons_succ]
                refine wpAnyH_take (i := 7) (v := ?_) rfl (by kernel_rfl) (by kernel_rfl) (by kernel_rfl) (fun _ _ _ h => h) (Or.inl ⟨by rfl, ?_⟩) (by assumption) ?_; rotate_left
                · (intro w hSw; (try dsimp only at hSw); go_simp; first | done | with_reducible rfl)
                try simp only [Act.put, List.getElem_toArray, List.getElem_cons_zero, List.getElem_cons_succ, List.setIfInBounds_toArray, List.set_cons_zero, List.set_cons_succ]
                refine wpAnyH_ready (rs := [8]) (by kernel_rfl) (by simp) ?_
                refine AllReadyH.cons rfl (fun K hK => ?_) ?_
                · have q2 := blk_cell HR6.out.xb 2 rfl
                  have f2 := blk_free HR6.out.xb 2
                  simp only [List.getElem_toArray, List.getElem_cons_zero, List.getElem_cons_succ] at q2
                  have HDN := hide (LgD.put2 HR6.out HO6.out)
                  rw [if_pos (by rfl)]
                  go_simp
                  refine hK.out _ _ ?_ (fun hHeld => ?_)
                  · trivial
                  clear hK K
                  try simp only [Act.put, List.getElem_toArray, List.getElem_cons_zero, List.getElem_cons_succ, List.setIfInBounds_toArray, List.set_cons_zero, List.set_cons_succ]
                  clear q2 f2
                  refine wpAnyH_done (by kernel_rfl) ?_ _
                  have HW2 := hide (show ∀ f ∈ ES, f.data.size ≤ 1000 from fun f hf => (List.mem_append.1 (by rw [HES.out] at hf; exact hf)).elim (HEW.out f) (fun h => by rw [List.mem_singleton.1 h]; have := HEZ.out; show ez.size ≤ 1000; omega))
                  have HL2 := hide (show ES.length = j + 1 by rw [HES.out, List.length_append, HEL.out]; rfl)
                  clear hHeld
                  go_wp2_with fail
                  go_roundw
                  case rel => exact ⟨j + 1, tm + 1 + z, o6, c6, ES, by go_num, by first | rfl | go_num, by omega, by omega, by omega, HL2.out, HW2.out, HDN.out⟩
                  case measure => simp [intOf]; omega
                exact AllReadyH.nil
              exact AllReadyH.nil
            exact AllReadyH.nil
          refine AllReadyH.cons rfl (fun K hK => ?_) ?_
          · have HD5 := hide (HD4.out.on ((Below.refl _ _).alloc (Nat.le_refl _) (Obj.cells #[Value.int IntKind.i64 et, Value.int IntKind.i64 ek, Value.string ez] 28)))
            have hk5 := heap_alloc_new x4 (Obj.cells #[Value.int IntKind.i64 et, Value.int IntKind.i64 ek, Value.string ez] 28)
            rw [if_pos (by rfl)]
            go_simp
            refine hK.out _ _ ?_ (fun hHeld => ?_)
            · trivial
            clear hK K
            try simp only [Act.put, List.getElem_toArray, List.getElem_cons_zero, List.getElem_cons_succ, List.setIfInBounds_toArray, List.set_cons_zero, List.set_cons_succ]
            have z5 : (x4.alloc (Obj.cells #[Value.int IntKind.i64 et, Value.int IntKind.i64 ek, Value.string ez] 28)).heap.size = x4.heap.size + 1 := by simp
            generalize x4.alloc (Obj.cells #[Value.int IntKind.i64 et, Value.int IntKind.i64 ek, Value.string ez] 28) = x5 at HD5 hk5 ⊢
            have HK5 := hide hk5
            clear hk5
            refine wpAnyH_ready (rs := [1]) (by kernel_rfl) (by simp) ?_
            refine AllReadyH.cons rfl (fun K hK => ?_) ?_
            · have hcd := HD5.out.cells.2.2
              rw [if_pos (by rfl)]
              go_simp
              refine hK.out _ _ ?_ (fun hHeld => ?_)
              · trivial
              clear hK K
              try simp only [Act.put, List.getElem_toArray, List.getElem_cons_zero, List.getElem_cons_succ, List.setIfInBounds_toArray, List.set_cons_zero, List.set_cons_succ]
              clear hcd
              refine wpAnyH_ready (rs := [6]) (by kernel_rfl) (by simp) ?_
              refine AllReadyH.cons rfl (fun K hK => ?_) ?_
              · rw [if_pos (by rfl)]
                refine wp_append_entry _ _ rfl (w.heap.size + 1) _ es.length es rfl HD5.out.own (by omega) HD5.out.size.2 _ _ (EntV.mk et ek ez) rfl HK5.out ?_
                intro v6 x6 ho6 hg6
                have HR6 := hide (HD5.out.rv.row HD5.out.own hg6)
                obtain ⟨ES, hES⟩ : ∃ ES, ES = es ++ [EntV.mk et ek ez] := ⟨_, rfl⟩
                have ho7 : x6.ownsRow (w.heap.size + 1) 28 3 v6 ES.length (ES.flatMap ecells) := by rw [hES, List.length_append]; exact ho6
                have HES := hide hES
                clear hES
                obtain ⟨o6, c6, rfl⟩ := own_form3 ho7
                have HO6 := hide ho7
                clear ho6 hg6 ho7
                try go_simp
                refine hK.out _ _ ?_ (fun hHeld => ?_)
                · trivial
                clear hK K
                try simp only [Act.put, List.getElem_toArray, List.getElem_cons_zero, List.getElem_cons_succ, List.setIfInBounds_toArray, List.set_cons_zero, List.set_cons_succ]
                refine wpAnyH_take (i := 7) (v := ?_) rfl (by kernel_rfl) (by kernel_rfl) (by kernel_rfl) (fun _ _ _ h => h) (Or.inl ⟨by rfl, ?_⟩) (by assumption) ?_; rotate_left
                · (intro w hSw; (try dsimp only at hSw); go_simp; first | done | with_reducible rfl)
                try simp only [Act.put, List.getElem_toArray, List.getElem_cons_zero, List.getElem_cons_succ, List.setIfInBounds_toArray, List.set_cons_zero, List.set_cons_succ]
                refine wpAnyH_ready (rs := [8]) (by kernel_rfl) (by simp) ?_
                refine AllReadyH.cons rfl (fun K hK => ?_) ?_
                · have q2 := blk_cell HR6.out.xb 2 rfl
                  have f2 := blk_free HR6.out.xb 2
                  simp only [List.getElem_toArray, List.getElem_cons_zero, List.getElem_cons_succ] at q2
                  have HDN := hide (LgD.put2 HR6.out HO6.out)
                  rw [if_pos (by rfl)]
                  go_simp
                  refine hK.out _ _ ?_ (fun hHeld => ?_)
                  · trivial
                  clear hK K
                  try simp only [Act.put, List.getElem_toArray, List.getElem_cons_zero, List.getElem_cons_succ, List.setIfInBounds_toArray, List.set_cons_zero, List.set_cons_succ]
                  clear q2 f2
                  refine wpAnyH_done (by kernel_rfl) ?_ _
                  have HW2 := hide (show ∀ f ∈ ES, f.data.size ≤ 1000 from fun f hf => (List.mem_append.1 (by rw [HES.out] at hf; exact hf)).elim (HEW.out f) (fun h => by rw [List.mem_singleton.1 h]; have := HEZ.out; show ez.size ≤ 1000; omega))
                  have HL2 := hide (show ES.length = j + 1 by rw [HES.out, List.length_append, HEL.out]; rfl)
                  clear hHeld
                  go_wp2_with fail
                  go_roundw
                  case rel => exact ⟨j + 1, tm + 1 + z, o6, c6, ES, by go_num, by first | rfl | go_num, by omega, by omega, by omega, HL2.out, HW2.out, HDN.out⟩
                  case measure => simp [intOf]; omega
                exact AllReadyH.nil
              exact AllReadyH.nil
            exact AllReadyH.nil
          exact AllReadyH.nil
        exact AllReadyH.nil
      | false =>
        go_wp2_with fail
        have HDs := hide (HD6.out.on (Below.refl _ _).drew)
        clear HD6
        refine wp_region_held_drew (S := fun _ => True) (by kernel_rfl) trivial (fun hHeld => ?_)
        generalize w6.drew = xs at HDs ⊢
        refine wpAnyH_take (i := 0) (v := ?_) rfl (by kernel_rfl) (by kernel_rfl) (by kernel_rfl) (fun _ _ _ h => h) (Or.inl ⟨by rfl, ?_⟩) (by assumption) ?_; rotate_left
        · (intro w hSw; (try dsimp only at hSw); go_simp; first | done | with_reducible rfl)
        try simp only [Act.put, List.getElem_toArray, List.getElem_cons_zero, List.getElem_cons_succ, List.setIfInBounds_toArray, List.set_cons_zero, List.set_cons_succ]
        refine wpAnyH_take (i := 2) (v := ?_) rfl (by kernel_rfl) (by kernel_rfl) (by kernel_rfl) (fun _ _ _ h => h) (Or.inl ⟨by rfl, ?_⟩) (by assumption) ?_; rotate_left
        · (intro w hSw; (try dsimp only at hSw); go_simp; first | done | with_reducible rfl)
        try simp only [Act.put, List.getElem_toArray, List.getElem_cons_zero, List.getElem_cons_succ, List.setIfInBounds_toArray, List.set_cons_zero, List.set_cons_succ]
        refine wpAnyH_take (i := 3) (v := ?_) rfl (by kernel_rfl) (by kernel_rfl) (by kernel_rfl) (fun _ _ _ h => h) (Or.inl ⟨by rfl, ?_⟩) (by assumption) ?_; rotate_left
        · (intro w hSw; (try dsimp only at hSw); go_simp; first | done | with_reducible rfl)
        try simp only [Act.put, List.getElem_toArray, List.getElem_cons_zero, List.getElem_cons_succ, List.setIfInBounds_toArray, List.set_cons_zero, List.set_cons_succ]
        refine wpAnyH_ready (rs := [1, 4]) (by kernel_rfl) (by simp) ?_
        refine AllReadyH.cons rfl (fun K hK => ?_) ?_
        · have hcd := HDs.out.cells.2.2
          rw [if_pos (by rfl)]
          go_simp
          refine hK.out _ _ ?_ (fun hHeld => ?_)
          · trivial
          clear hK K
          try simp only [Act.put, List.getElem_toArray, List.getElem_cons_zero, List.getElem_cons_succ, List.setIfInBounds_toArray, List.set_cons_zero, List.set_cons_succ]
          clear hcd
          refine wpAnyH_ready (rs := [4]) (by kernel_rfl) (by simp) ?_
          refine AllReadyH.cons rfl (fun K hK => ?_) ?_
          · rw [if_pos (by rfl)]
            go_simp
            go_at_call 13
            refine (l05Right_any B p a len cap _ _ HDs.out.size.1 HDs.out.rv.rs.cur).mono ?_
            rintro r x4 ⟨et, ek, ez, hez, rfl, hc4, hg4⟩
            have HD4 := hide (HDs.out.drawn hc4 hg4)
            have HEZ := hide hez
            clear hc4 hg4 hez
            try go_simp
            refine hK.out _ _ ?_ (fun hHeld => ?_)
            · trivial
            clear hK K
            try simp only [Act.put, List.getElem_toArray, List.getElem_cons_zero, List.getElem_cons_succ, List.setIfInBounds_toArray, List.set_cons_zero, List.set_cons_succ]
            refine wpAnyH_ready (rs := [5]) (by kernel_rfl) (by simp) ?_
            refine AllReadyH.cons rfl (fun K hK => ?_) ?_
            · have HD5 := hide (HD4.out.on ((Below.refl _ _).alloc (Nat.le_refl _) (Obj.cells #[Value.int IntKind.i64 et, Value.int IntKind.i64 ek, Value.string ez] 28)))
              have hk5 := heap_alloc_new x4 (Obj.cells #[Value.int IntKind.i64 et, Value.int IntKind.i64 ek, Value.string ez] 28)
              rw [if_pos (by rfl)]
              go_simp
              refine hK.out _ _ ?_ (fun hHeld => ?_)
              · trivial
              clear hK K
              try simp only [Act.put, List.getElem_toArray, List.getElem_cons_zero, List.getElem_cons_succ, List.setIfInBounds_toArray, List.set_cons_zero, List.set_cons_succ]
              have z5 : (x4.alloc (Obj.cells #[Value.int IntKind.i64 et, Value.int IntKind.i64 ek, Value.string ez] 28)).heap.size = x4.heap.size + 1 := by simp
              generalize x4.alloc (Obj.cells #[Value.int IntKind.i64 et, Value.int IntKind.i64 ek, Value.string ez] 28) = x5 at HD5 hk5 ⊢
              have HK5 := hide hk5
              clear hk5
              refine wpAnyH_ready (rs := [6]) (by kernel_rfl) (by simp) ?_
              refine AllReadyH.cons rfl (fun K hK => ?_) ?_
              · rw [if_pos (by rfl)]
                refine wp_append_entry _ _ rfl (w.heap.size + 1) _ es.length es rfl HD5.out.own (by omega) HD5.out.size.2 _ _ (EntV.mk et ek ez) rfl HK5.out ?_
                intro v6 x6 ho6 hg6
                have HR6 := hide (HD5.out.rv.row HD5.out.own hg6)
                obtain ⟨ES, hES⟩ : ∃ ES, ES = es ++ [EntV.mk et ek ez] := ⟨_, rfl⟩
                have ho7 : x6.ownsRow (w.heap.size + 1) 28 3 v6 ES.length (ES.flatMap ecells) := by rw [hES, List.length_append]; exact ho6
                have HES := hide hES
                clear hES
                obtain ⟨o6, c6, rfl⟩ := own_form3 ho7
                have HO6 := hide ho7
                clear ho6 hg6 ho7
                try go_simp
                refine hK.out _ _ ?_ (fun hHeld => ?_)
                · trivial
                clear hK K
                try simp only [Act.put, List.getElem_toArray, List.getElem_cons_zero, List.getElem_cons_succ, List.setIfInBounds_toArray, List.set_cons_zero, List.set_cons_succ]
                refine wpAnyH_take (i := 7) (v := ?_) rfl (by kernel_rfl) (by kernel_rfl) (by kernel_rfl) (fun _ _ _ h => h) (Or.inl ⟨by rfl, ?_⟩) (by assumption) ?_; rotate_left
                · (intro w hSw; (try dsimp only at hSw); go_simp; first | done | with_reducible rfl)
                try simp only [Act.put, List.getElem_toArray, List.getElem_cons_zero, List.getElem_cons_succ, List.setIfInBounds_toArray, List.set_cons_zero, List.set_cons_succ]
                refine wpAnyH_ready (rs := [8]) (by kernel_rfl) (by simp) ?_
                refine AllReadyH.cons rfl (fun K hK => ?_) ?_
                · have q2 := blk_cell HR6.out.xb 2 rfl
                  have f2 := blk_free HR6.out.xb 2
                  simp only [List.getElem_toArray, List.getElem_cons_zero, List.getElem_cons_succ] at q2
                  have HDN := hide (LgD.put2 HR6.out HO6.out)
                  rw [if_pos (by rfl)]
                  go_simp
                  refine hK.out _ _ ?_ (fun hHeld => ?_)
                  · trivial
                  clear hK K
                  try simp only [Act.put, List.getElem_toArray, List.getElem_cons_zero, List.getElem_cons_succ, List.setIfInBounds_toArray, List.set_cons_zero, List.set_cons_succ]
                  clear q2 f2
                  refine wpAnyH_done (by kernel_rfl) ?_ _
                  have HW2 := hide (show ∀ f ∈ ES, f.data.size ≤ 1000 from fun f hf => (List.mem_append.1 (by rw [HES.out] at hf; exact hf)).elim (HEW.out f) (fun h => by rw [List.mem_singleton.1 h]; have := HEZ.out; show ez.size ≤ 1000; omega))
                  have HL2 := hide (show ES.length = j + 1 by rw [HES.out, List.length_append, HEL.out]; rfl)
                  clear hHeld
                  go_wp2_with fail
                  go_roundw
                  case rel => exact ⟨j + 1, tm, o6, c6, ES, by go_num, by first | rfl | go_num, by omega, by omega, by omega, HL2.out, HW2.out, HDN.out⟩
                  case measure => simp [intOf]; omega
                exact AllReadyH.nil
              exact AllReadyH.nil
            exact AllReadyH.nil
          exact AllReadyH.nil
        refine AllReadyH.cons rfl (fun K hK => ?_) ?_
        · rw [if_pos (by rfl)]
          go_simp
          go_at_call 13
          refine (l05Right_any B p a len cap _ _ HDs.out.size.1 HDs.out.rv.rs.cur).mono ?_
          rintro r x4 ⟨et, ek, ez, hez, rfl, hc4, hg4⟩
          have HD4 := hide (HDs.out.drawn hc4 hg4)
          have HEZ := hide hez
          clear hc4 hg4 hez
          try go_simp
          refine hK.out _ _ ?_ (fun hHeld => ?_)
          · trivial
          clear hK K
          try simp only [Act.put, List.getElem_toArray, List.getElem_cons_zero, List.getElem_cons_succ, List.setIfInBounds_toArray, List.set_cons_zero, List.set_cons_succ]
          refine wpAnyH_ready (rs := [1, 5]) (by kernel_rfl) (by simp) ?_
          refine AllReadyH.cons rfl (fun K hK => ?_) ?_
          · have hcd := HD4.out.cells.2.2
            rw [if_pos (by rfl)]
            go_simp
            refine hK.out _ _ ?_ (fun hHeld => ?_)
            · trivial
            clear hK K
            try simp only [Act.put, List.getElem_toArray, List.getElem_cons_zero, List.getElem_cons_succ, List.setIfInBounds_toArray, List.set_cons_zero, List.set_cons_succ]
            clear hcd
            refine wpAnyH_ready (rs := [5]) (by kernel_rfl) (by simp) ?_
            refine AllReadyH.cons rfl (fun K hK => ?_) ?_
            · have HD5 := hide (HD4.out.on ((Below.refl _ _).alloc (Nat.le_refl _) (Obj.cells #[Value.int IntKind.i64 et, Value.int IntKind.i64 ek, Value.string ez] 28)))
              have hk5 := heap_alloc_new x4 (Obj.cells #[Value.int IntKind.i64 et, Value.int IntKind.i64 ek, Value.string ez] 28)
              rw [if_pos (by rfl)]
              go_simp
              refine hK.out _ _ ?_ (fun hHeld => ?_)
              · trivial
              clear hK K
              try simp only [Act.put, List.getElem_toArray, List.getElem_cons_zero, List.getElem_cons_succ, List.setIfInBounds_toArray, List.set_cons_zero, List.set_cons_succ]
              have z5 : (x4.alloc (Obj.cells #[Value.int IntKind.i64 et, Value.int IntKind.i64 ek, Value.string ez] 28)).heap.size = x4.heap.size + 1 := by simp
              generalize x4.alloc (Obj.cells #[Value.int IntKind.i64 et, Value.int IntKind.i64 ek, Value.string ez] 28) = x5 at HD5 hk5 ⊢
              have HK5 := hide hk5
              clear hk5
              refine wpAnyH_ready (rs := [6]) (by kernel_rfl) (by simp) ?_
              refine AllReadyH.cons rfl (fun K hK => ?_) ?_
              · rw [if_pos (by rfl)]
                refine wp_append_entry _ _ rfl (w.heap.size + 1) _ es.length es rfl HD5.out.own (by omega) HD5.out.size.2 _ _ (EntV.mk et ek ez) rfl HK5.out ?_
                intro v6 x6 ho6 hg6
                have HR6 := hide (HD5.out.rv.row HD5.out.own hg6)
                obtain ⟨ES, hES⟩ : ∃ ES, ES = es ++ [EntV.mk et ek ez] := ⟨_, rfl⟩
                have ho7 : x6.ownsRow (w.heap.size + 1) 28 3 v6 ES.length (ES.flatMap ecells) := by rw [hES, List.length_append]; exact ho6
                have HES := hide hES
                clear hES
                obtain ⟨o6, c6, rfl⟩ := own_form3 ho7
                have HO6 := hide ho7
                clear ho6 hg6 ho7
                try go_simp
                refine hK.out _ _ ?_ (fun hHeld => ?_)
                · trivial
                clear hK K
                try simp only [Act.put, List.getElem_toArray, List.getElem_cons_zero, List.getElem_cons_succ, List.setIfInBounds_toArray, List.set_cons_zero, List.set_cons_succ]
                refine wpAnyH_take (i := 7) (v := ?_) rfl (by kernel_rfl) (by kernel_rfl) (by kernel_rfl) (fun _ _ _ h => h) (Or.inl ⟨by rfl, ?_⟩) (by assumption) ?_; rotate_left
                · (intro w hSw; (try dsimp only at hSw); go_simp; first | done | with_reducible rfl)
                try simp only [Act.put, List.getElem_toArray, List.getElem_cons_zero, List.getElem_cons_succ, List.setIfInBounds_toArray, List.set_cons_zero, List.set_cons_succ]
                refine wpAnyH_ready (rs := [8]) (by kernel_rfl) (by simp) ?_
                refine AllReadyH.cons rfl (fun K hK => ?_) ?_
                · have q2 := blk_cell HR6.out.xb 2 rfl
                  have f2 := blk_free HR6.out.xb 2
                  simp only [List.getElem_toArray, List.getElem_cons_zero, List.getElem_cons_succ] at q2
                  have HDN := hide (LgD.put2 HR6.out HO6.out)
                  rw [if_pos (by rfl)]
                  go_simp
                  refine hK.out _ _ ?_ (fun hHeld => ?_)
                  · trivial
                  clear hK K
                  try simp only [Act.put, List.getElem_toArray, List.getElem_cons_zero, List.getElem_cons_succ, List.setIfInBounds_toArray, List.set_cons_zero, List.set_cons_succ]
                  clear q2 f2
                  refine wpAnyH_done (by kernel_rfl) ?_ _
                  have HW2 := hide (show ∀ f ∈ ES, f.data.size ≤ 1000 from fun f hf => (List.mem_append.1 (by rw [HES.out] at hf; exact hf)).elim (HEW.out f) (fun h => by rw [List.mem_singleton.1 h]; have := HEZ.out; show ez.size ≤ 1000; omega))
                  have HL2 := hide (show ES.length = j + 1 by rw [HES.out, List.length_append, HEL.out]; rfl)
                  clear hHeld
                  go_wp2_with fail
                  go_roundw
                  case rel => exact ⟨j + 1, tm, o6, c6, ES, by go_num, by first | rfl | go_num, by omega, by omega, by omega, HL2.out, HW2.out, HDN.out⟩
                  case measure => simp [intOf]; omega
                exact AllReadyH.nil
              exact AllReadyH.nil
            exact AllReadyH.nil
          refine AllReadyH.cons rfl (fun K hK => ?_) ?_
          · have HD5 := hide (HD4.out.on ((Below.refl _ _).alloc (Nat.le_refl _) (Obj.cells #[Value.int IntKind.i64 et, Value.int IntKind.i64 ek, Value.string ez] 28)))
            have hk5 := heap_alloc_new x4 (Obj.cells #[Value.int IntKind.i64 et, Value.int IntKind.i64 ek, Value.string ez] 28)
            rw [if_pos (by rfl)]
            go_simp
            refine hK.out _ _ ?_ (fun hHeld => ?_)
            · trivial
            clear hK K
            try simp only [Act.put, List.getElem_toArray, List.getElem_cons_zero, List.getElem_cons_succ, List.setIfInBounds_toArray, List.set_cons_zero, List.set_cons_succ]
            have z5 : (x4.alloc (Obj.cells #[Value.int IntKind.i64 et, Value.int IntKind.i64 ek, Value.string ez] 28)).heap.size = x4.heap.size + 1 := by simp
            generalize x4.alloc (Obj.cells #[Value.int IntKind.i64 et, Value.int IntKind.i64 ek, Value.string ez] 28) = x5 at HD5 hk5 ⊢
            have HK5 := hide hk5
            clear hk5
            refine wpAnyH_ready (rs := [1]) (by kernel_rfl) (by simp) ?_
            refine AllReadyH.cons rfl (fun K hK => ?_) ?_
            · have hcd := HD5.out.cells.2.2
              rw [if_pos (by rfl)]
              go_simp
              refine hK.out _ _ ?_ (fun hHeld => ?_)
              · trivial
              clear hK K
              try simp only [Act.put, List.getElem_toArray, List.getElem_cons_zero, List.getElem_cons_succ, List.setIfInBounds_toArray, List.set_cons_zero, List.set_cons_succ]
              clear hcd
              refine wpAnyH_ready (rs := [6]) (by kernel_rfl) (by simp) ?_
              refine AllReadyH.cons rfl (fun K hK => ?_) ?_
              · rw [if_pos (by rfl)]
                refine wp_append_entry _ _ rfl (w.heap.size + 1) _ es.length es rfl HD5.out.own (by omega) HD5.out.size.2 _ _ (EntV.mk et ek ez) rfl HK5.out ?_
                intro v6 x6 ho6 hg6
                have HR6 := hide (HD5.out.rv.row HD5.out.own hg6)
                obtain ⟨ES, hES⟩ : ∃ ES, ES = es ++ [EntV.mk et ek ez] := ⟨_, rfl⟩
                have ho7 : x6.ownsRow (w.heap.size + 1) 28 3 v6 ES.length (ES.flatMap ecells) := by rw [hES, List.length_append]; exact ho6
                have HES := hide hES
                clear hES
                obtain ⟨o6, c6, rfl⟩ := own_form3 ho7
                have HO6 := hide ho7
                clear ho6 hg6 ho7
                try go_simp
                refine hK.out _ _ ?_ (fun hHeld => ?_)
                · trivial
                clear hK K
                try simp only [Act.put, List.getElem_toArray, List.getElem_cons_zero, List.getElem_cons_succ, List.setIfInBounds_toArray, List.set_cons_zero, List.set_cons_succ]
                refine wpAnyH_take (i := 7) (v := ?_) rfl (by kernel_rfl) (by kernel_rfl) (by kernel_rfl) (fun _ _ _ h => h) (Or.inl ⟨by rfl, ?_⟩) (by assumption) ?_; rotate_left
                · (intro w hSw; (try dsimp only at hSw); go_simp; first | done | with_reducible rfl)
                try simp only [Act.put, List.getElem_toArray, List.getElem_cons_zero, List.getElem_cons_succ, List.setIfInBounds_toArray, List.set_cons_zero, List.set_cons_succ]
                refine wpAnyH_ready (rs := [8]) (by kernel_rfl) (by simp) ?_
                refine AllReadyH.cons rfl (fun K hK => ?_) ?_
                · have q2 := blk_cell HR6.out.xb 2 rfl
                  have f2 := blk_free HR6.out.xb 2
                  simp only [List.getElem_toArray, List.getElem_cons_zero, List.getElem_cons_succ] at q2
                  have HDN := hide (LgD.put2 HR6.out HO6.out)
                  rw [if_pos (by rfl)]
                  go_simp
                  refine hK.out _ _ ?_ (fun hHeld => ?_)
                  · trivial
                  clear hK K
                  try simp only [Act.put, List.getElem_toArray, List.getElem_cons_zero, List.getElem_cons_succ, List.setIfInBounds_toArray, List.set_cons_zero, List.set_cons_succ]
                  clear q2 f2
                  refine wpAnyH_done (by kernel_rfl) ?_ _
                  have HW2 := hide (show ∀ f ∈ ES, f.data.size ≤ 1000 from fun f hf => (List.mem_append.1 (by rw [HES.out] at hf; exact hf)).elim (HEW.out f) (fun h => by rw [List.mem_singleton.1 h]; have := HEZ.out; show ez.size ≤ 1000; omega))
                  have HL2 := hide (show ES.length = j + 1 by rw [HES.out, List.length_append, HEL.out]; rfl)
                  clear hHeld
                  go_wp2_with fail
                  go_roundw
                  case rel => exact ⟨j + 1, tm, o6, c6, ES, by go_num, by first | rfl | go_num, by omega, by omega, by omega, HL2.out, HW2.out, HDN.out⟩
                  case measure => simp [intOf]; omega
                exact AllReadyH.nil
              exact AllReadyH.nil
            exact AllReadyH.nil
          exact AllReadyH.nil
        exact AllReadyH.nil
    · have j0 : ¬ (j : Int) < (y : Int) := by omega
      obtain ⟨x0, x1', x2'⟩ := HD5a.out.cells
      have r0 := blk_cell HD5a.out.rv.rs.rb 0 rfl
      have r1 := blk_cell HD5a.out.rv.rs.rb 1 rfl
      have r2 := blk_cell HD5a.out.rv.rs.rb 2 rfl
      have t0 := blk_free HD5a.out.rv.rs.rb 0
      have t1 := blk_free HD5a.out.rv.rs.rb 1
      have t2 := blk_free HD5a.out.rv.rs.rb 2
      simp only [List.getElem_toArray, List.getElem_cons_zero, List.getElem_cons_succ] at r0 r1 r2
      go_wp2_with fail
      obtain ⟨hr, hc9, hg9, ho9⟩ := HD5a.out.ret
      generalize (((w5.setCell ⟨w.heap.size, 0, none⟩ (Value.int IntKind.i64 s)).setCell ⟨w.heap.size, 1, none⟩ (Value.int IntKind.i64 (u : Int))).setCell ⟨w.heap.size, 2, none⟩ (Value.slice ov es.length cv)) = w9 at hr hc9 hg9 ho9 ⊢
      have q0 : w9.cell? ⟨w.heap.size, 0, none⟩ = some (.int .i64 s) := blk_cell hr 0 rfl
      have q1 : w9.cell? ⟨w.heap.size, 1, none⟩ = some (.int .i64 (u : Int)) := blk_cell hr 1 rfl
      have q2 : w9.cell? ⟨w.heap.size, 2, none⟩ = some (.slice ov es.length cv) := blk_cell hr 2 rfl
      exact bodyPost_ret (v := lgv s (u : Int) (.slice ov es.length cv)) (by simp [results, Try.results26, go_sem, q0, q1, q2]) rfl ⟨s, u, _, es, by have := HEL.out; omega, HEW.out, rfl, hc9, hg9, ho9⟩

end Go.Proofs.Ytdollofmjpgppaa
