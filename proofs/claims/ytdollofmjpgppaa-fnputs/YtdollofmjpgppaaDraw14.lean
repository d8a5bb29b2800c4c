/-
  Draws of chapter 6: any log (made by wip/tools/gen14.py).
-/
import Derived.Test.YtdollofmjpgppaaDraw13
namespace Go.Proofs.Ytdollofmjpgppaa
open Go.RowKit P1 P9 K
attribute [local go_sem ↓] Go.wp_at_zero Go.wp_at_succ
set_option linter.unusedVariables false
set_option linter.unusedSimpArgs false

/-- Another new block written leaves the log in the making. -/
theorem LgD.far {B p : Nat} {a : Option Addr} {len cap : Nat} {w : World} {b : Nat} {s u : Int} {v : Value} {es : List EntV} {w1 w2 : World} {q : Nat} (h : LgD B p a len cap w b s u v es w1) (hg : w1.grownBy w2 (some q)) (hq : w.heap.size < q) (hb : q ≠ b) (hv : ∀ g, v.ownBlock = some g → g ≠ q) : LgD B p a len cap w b s u v es w2 := by
  have hp := h.rv.rs.hp
  have hB := h.rv.rs.hB
  have hs := h.rv.rs.size
  have hno : ∀ i, i ≤ w.heap.size → some i ≠ some q := fun i hi e1 => by have := Option.some.inj e1; omega
  have hbel : Below B w1 w2 := (Below.refl B w1).grown hg (by omega) (fun k hk => by cases hk; omega)
  refine ⟨⟨⟨h.rv.rs.cur.kept hbel (hg.block p (by omega) (hno p (by omega))), ?_, (hg.block _ hs (hno _ (Nat.le_refl _))).trans h.rv.rs.rb, hp, hB⟩, (hg.block _ (blk_lt h.rv.xb) (fun e1 => hb (Option.some.inj e1).symm)).trans h.rv.xb, h.rv.hb⟩, h.own.kept hg ?_⟩
  · exact ⟨hg.os.trans h.rv.rs.gr.os, hg.tape.trans h.rv.rs.gr.tape, hg.output.trans h.rv.rs.gr.output, Nat.le_trans h.rv.rs.gr.size hg.size, fun i hi hne => (hg.block i (by omega) (hno i (by omega))).trans (h.rv.rs.gr.block i hi hne)⟩
  · cases hx : v.ownBlock with
    | none => exact Or.inl rfl
    | some g => exact Or.inr (fun e1 => hv g hx (Option.some.inj e1))

theorem wpList_append_entry {w : World} {ops : Array Oper} {rest : List Oper} {o : Oper} {a : Act} {Q : Exit → Act → World → Prop} (hgd : o.guard = none) (s x : Operand)
    (ho : o.op = .call { callee := .builtin .append, args := #[s, x], argTypes := #[24, 24] }) (base : Nat) (v : Value) (m : Nat) (xs : List EntV) (hs : a.eval s = v) (hown : w.ownsRow base 28 3 v m (xs.flatMap ecells)) (hm : m ≤ 1048576) (hbase : base ≤ w.heap.size) (b c : Nat) (e : EntV) (hx : a.eval x = .slice (some ⟨b, 0, none⟩) 1 c) (hbk : w.heap[b]? = some (.cells #[.int .i64 e.term, .int .i64 e.kind, .string e.data] 28 (0, 0)))
    (h : ∀ v' w', w'.ownsRow base 28 3 v' (m + 1) ((xs ++ [e]).flatMap ecells) → w.grownBy w' v.ownBlock → wpList Try.prog ops Q rest (a.put o.dst v') w') : wpList Try.prog ops Q (o :: rest) a w :=
  wpList_plain hgd fun _ hK => wp_append_entry s x ho base v m xs hs hown hm hbase b c e hx hbk fun v' w' h2 h3 => hK _ _ (h v' w' h2 h3)

def startL : List Int := [-1, 1000000, 1000001, 999998]
def startTL : List Int := [-1, 9, 100001]

set_option maxRecDepth 100000 in
set_option maxHeartbeats 8000000 in
theorem l06Any_any (B p : Nat) (a : Option Addr) (len cap : Nat) (w : World) (hB : B ≤ w.heap.size) (hc : CurAt B w p a len cap) :
    Calls Try.prog 11 #[.pointer (some ⟨p, 0, none⟩)] w (LgPost B p a len cap 70 w) := by
  have H0 := hide (RvS.start hB hc #[.int .i64 0, .int .i64 0, .slice none 0 0] 26)
  have z0 : (w.alloc (.cells #[.int .i64 0, .int .i64 0, .slice none 0 0] 26)).heap.size = w.heap.size + 1 := by simp
  have HR := hide (l06Right_any B p a len cap (w.alloc (.cells #[.int .i64 0, .int .i64 0, .slice none 0 0] 26)) (by rw [z0]; omega) H0.out.cur)
  clear hc
  go_enter Try.func11, Try.ntmps11
  go_wp2_with fail
  refine HR.out.mono ?_
  rintro r w1 ⟨s, u, v, es, hel, hew, rfl, hc1, hg1, ho1⟩
  have H1 := hide (H0.out.drawn hc1 hg1)
  rw [z0] at ho1
  obtain ⟨ov, cv, rfl⟩ := own_form3 ho1
  have HD1 : Hid (LgD B p a len cap w w1.heap.size s u (.slice ov es.length cv) es (w1.alloc (.cells #[.int .i64 s, .int .i64 u, .slice ov es.length cv] 26))) := hide ⟨H1.out.var _ _, (own_base ho1 (by omega)).alloc _⟩
  have rlt : ∀ g, (Value.slice ov es.length cv).ownBlock = some g → g < w1.heap.size := fun g hg => (ho1.lt g hg).2
  have hlw : w.heap.size < w1.heap.size := H1.out.size
  have HEW := hide hew
  clear hc1 hg1 ho1 H0 H1 HR hew z0
  go_wp2_with fail
  generalize w1.alloc (Obj.cells #[Value.int IntKind.i64 s, Value.int IntKind.i64 u, Value.slice ov es.length cv] 26) = w2 at HD1 ⊢
  refine (l01Below_any B p a len cap 40 (by decide) (by decide) _ HD1.out.rv.rs.cur).mono ?_
  rintro r w3 ⟨y, hy, rfl, hc3, hg3⟩
  have HD3 := hide (HD1.out.drawn hc3 hg3)
  clear hc3 hg3 HD1
  obtain ⟨b, hb⟩ : ∃ b, b = w1.heap.size := ⟨_, rfl⟩
  rw [← hb] at HD3 hlw rlt ⊢
  clear hb
  have l3 := HD3.out.lt
  by_cases y0 : y = 0
  · subst y0
    have H5 := hide (HD3.out.on ((Below.refl _ _).alloc (Nat.le_refl _) (.cells (I64z startL).toArray 3)))
    have HO : Hid ((w3.alloc (.cells (I64z startL).toArray 3)).ownsRow w3.heap.size 3 1 (.slice (some ⟨w3.heap.size, 0, none⟩) 4 4) 4 (I64z startL)) := hide (World.ownsRow_lit (base := w3.heap.size) (size := 1) w3 (I64z startL).toArray 4 (Nat.le_refl _) (by decide) (by simp [I64z, startL]))
    have hp3 : p < w3.heap.size := HD3.out.rv.rs.cur.lt
    go_wp2_with fail
    refine (l01PickInt_any B p a len cap w3.heap.size _ startL (by decide) (by decide) _ hp3 HO.out H5.out.rv.rs.cur).mono ?_
    rintro r w4 ⟨m, hm, rfl, hc4, hg4⟩
    have H6 := hide (H5.out.drawn hc4 hg4)
    obtain ⟨x0, x1, x2⟩ := H6.out.cells
    have f0 := H6.out.free 0
    have H7 := hide (H6.out.put0 m)
    clear hc4 hg4 H5 HO HD3 hm hp3
    have r0 := blk_cell H6.out.rv.rs.rb 0 rfl
    have r1 := blk_cell H6.out.rv.rs.rb 1 rfl
    have r2 := blk_cell H6.out.rv.rs.rb 2 rfl
    have t0 := blk_free H6.out.rv.rs.rb 0
    have t1 := blk_free H6.out.rv.rs.rb 1
    have t2 := blk_free H6.out.rv.rs.rb 2
    simp only [List.getElem_toArray, List.getElem_cons_zero, List.getElem_cons_succ] at r0 r1 r2
    go_wp2_with fail
    generalize w4.setCell ⟨b, 0, none⟩ (Value.int IntKind.i64 m) = w5 at H7 ⊢
    obtain ⟨hr, hc9, hg9, ho9⟩ := H7.out.ret
    generalize (((w5.setCell ⟨w.heap.size, 0, none⟩ (Value.int IntKind.i64 m)).setCell ⟨w.heap.size, 1, none⟩ (Value.int IntKind.i64 u)).setCell ⟨w.heap.size, 2, none⟩ (Value.slice ov es.length cv)) = w9 at hr hc9 hg9 ho9 ⊢
    have q0 : w9.cell? ⟨w.heap.size, 0, none⟩ = some (.int .i64 m) := blk_cell hr 0 rfl
    have q1 : w9.cell? ⟨w.heap.size, 1, none⟩ = some (.int .i64 u) := blk_cell hr 1 rfl
    have q2 : w9.cell? ⟨w.heap.size, 2, none⟩ = some ((Value.slice ov es.length cv)) := blk_cell hr 2 rfl
    exact bodyPost_ret (v := lgv m u (Value.slice ov es.length cv)) (by simp [results, Try.results11, go_sem, q0, q1, q2]) rfl ⟨m, u, _, es, by omega, HEW.out, rfl, hc9, hg9, ho9⟩
  · have g0 : ((y : Int) == 0) = false := by rw [beq_eq_false_iff_ne]; omega
    by_cases y1 : y = 1
    · subst y1
      have H5 := hide (HD3.out.on ((Below.refl _ _).alloc (Nat.le_refl _) (.cells (I64z startTL).toArray 3)))
      have HO : Hid ((w3.alloc (.cells (I64z startTL).toArray 3)).ownsRow w3.heap.size 3 1 (.slice (some ⟨w3.heap.size, 0, none⟩) 3 3) 3 (I64z startTL)) := hide (World.ownsRow_lit (base := w3.heap.size) (size := 1) w3 (I64z startTL).toArray 3 (Nat.le_refl _) (by decide) (by simp [I64z, startTL]))
      have hp3 : p < w3.heap.size := HD3.out.rv.rs.cur.lt
      go_wp2_with fail
      refine (l01PickInt_any B p a len cap w3.heap.size _ startTL (by decide) (by decide) _ hp3 HO.out H5.out.rv.rs.cur).mono ?_
      rintro r w4 ⟨m, hm, rfl, hc4, hg4⟩
      have H6 := hide (H5.out.drawn hc4 hg4)
      obtain ⟨x0, x1, x2⟩ := H6.out.cells
      have f1 := H6.out.free 1
      have H7 := hide (H6.out.put1 m)
      clear hc4 hg4 H5 HO HD3 hm hp3
      have r0 := blk_cell H6.out.rv.rs.rb 0 rfl
      have r1 := blk_cell H6.out.rv.rs.rb 1 rfl
      have r2 := blk_cell H6.out.rv.rs.rb 2 rfl
      have t0 := blk_free H6.out.rv.rs.rb 0
      have t1 := blk_free H6.out.rv.rs.rb 1
      have t2 := blk_free H6.out.rv.rs.rb 2
      simp only [List.getElem_toArray, List.getElem_cons_zero, List.getElem_cons_succ] at r0 r1 r2
      go_wp2_with fail
      generalize w4.setCell ⟨b, 1, none⟩ (Value.int IntKind.i64 m) = w5 at H7 ⊢
      obtain ⟨hr, hc9, hg9, ho9⟩ := H7.out.ret
      generalize (((w5.setCell ⟨w.heap.size, 0, none⟩ (Value.int IntKind.i64 s)).setCell ⟨w.heap.size, 1, none⟩ (Value.int IntKind.i64 m)).setCell ⟨w.heap.size, 2, none⟩ (Value.slice ov es.length cv)) = w9 at hr hc9 hg9 ho9 ⊢
      have q0 : w9.cell? ⟨w.heap.size, 0, none⟩ = some (.int .i64 s) := blk_cell hr 0 rfl
      have q1 : w9.cell? ⟨w.heap.size, 1, none⟩ = some (.int .i64 m) := blk_cell hr 1 rfl
      have q2 : w9.cell? ⟨w.heap.size, 2, none⟩ = some ((Value.slice ov es.length cv)) := blk_cell hr 2 rfl
      exact bodyPost_ret (v := lgv s m (Value.slice ov es.length cv)) (by simp [results, Try.results11, go_sem, q0, q1, q2]) rfl ⟨s, m, _, es, by omega, HEW.out, rfl, hc9, hg9, ho9⟩
    · have g1 : ((y : Int) == 1) = false := by rw [beq_eq_false_iff_ne]; omega
      by_cases y2 : y = 2
      · subst y2
        go_wp2_with fail
        have HDs := hide (HD3.out.on (Below.refl _ _).drew)
        clear HD3
        refine wp_region_held_drew (S := fun _ => True) (by kernel_rfl) trivial (fun hHeld => ?_)
        generalize w3.drew = xs at HDs ⊢
        refine wpAnyH_take (i := 0) (v := ?_) rfl (by kernel_rfl) (by kernel_rfl) (by kernel_rfl) (fun _ _ _ h => h) (Or.inl ⟨by rfl, ?_⟩) (by assumption) ?_; rotate_left
        · (intro w hSw; (try dsimp only at hSw); go_simp; first | done | with_reducible rfl)
        try simp only [Act.put, List.getElem_toArray, List.getElem_cons_zero, List.getElem_cons_succ, List.setIfInBounds_toArray, List.set_cons_zero, List.set_cons_succ]
        refine wpAnyH_take (i := 2) (v := ?_) rfl (by kernel_rfl) (by kernel_rfl) (by kernel_rfl) (fun _ _ _ h => h) (Or.inl ⟨by rfl, ?_⟩) (by assumption) ?_; rotate_left
        · (intro w hSw; (try dsimp only at hSw); go_simp; first | done | with_reducible rfl)
        try simp only [Act.put, List.getElem_toArray, List.getElem_cons_zero, List.getElem_cons_succ, List.setIfInBounds_toArray, List.set_cons_zero, List.set_cons_succ]
        refine wpAnyH_ready (rs := [1, 3]) (by kernel_rfl) (by simp) ?_
        refine AllReadyH.cons rfl (fun K hK => ?_) ?_
        · have hcd := HDs.out.cells.2.2
          rw [if_pos (by rfl)]
          go_simp
          refine hK.out _ _ ?_ (fun hHeld => ?_)
          · trivial
          clear hK K
          try simp only [Act.put, List.getElem_toArray, List.getElem_cons_zero, List.getElem_cons_succ, List.setIfInBounds_toArray, List.set_cons_zero, List.set_cons_succ]
          clear hcd
          refine wpAnyH_ready (rs := [3]) (by kernel_rfl) (by simp) ?_
          refine AllReadyH.cons rfl (fun K hK => ?_) ?_
          · rw [if_pos (by rfl)]
            go_simp
            go_at_call 16
            refine (l05Any_any B p a len cap _ HDs.out.size.1 HDs.out.rv.rs.cur).mono ?_
            rintro r x4 ⟨et, ek, ez, hez, rfl, hc4, hg4⟩
            have HD4 := hide (HDs.out.drawn hc4 hg4)
            have HEZ := hide hez
            clear hc4 hg4 hez
            try go_simp
            refine hK.out _ _ ?_ (fun hHeld => ?_)
            · trivial
            clear hK K
            try simp only [Act.put, List.getElem_toArray, List.getElem_cons_zero, List.getElem_cons_succ, List.setIfInBounds_toArray, List.set_cons_zero, List.set_cons_succ]
            refine wpAnyH_ready (rs := [4]) (by kernel_rfl) (by simp) ?_
            refine AllReadyH.cons rfl (fun K hK => ?_) ?_
            · have HD5 := hide (HD4.out.on ((Below.refl _ _).alloc (Nat.le_refl _) (Obj.cells #[Value.int IntKind.i64 et, Value.int IntKind.i64 ek, Value.string ez] 28)))
              have hk5 := heap_alloc_new x4 (Obj.cells #[Value.int IntKind.i64 et, Value.int IntKind.i64 ek, Value.string ez] 28)
              rw [if_pos (by rfl)]
              go_simp
              refine hK.out _ _ ?_ (fun hHeld => ?_)
              · trivial
              clear hK K
              try simp only [Act.put, List.getElem_toArray, List.getElem_cons_zero, List.getElem_cons_succ, List.setIfInBounds_toArray, List.set_cons_zero, List.set_cons_succ]
              have z5 : (x4.alloc (Obj.cells #[Value.int IntKind.i64 et, Value.int IntKind.i64 ek, Value.string ez] 28)).heap.size = x4.heap.size + 1 := by simp
              generalize x4.alloc (Obj.cells #[Value.int IntKind.i64 et, Value.int IntKind.i64 ek, Value.string ez] 28) = x5 at HD5 hk5 ⊢
              have HK5 := hide hk5
              clear hk5
              refine wpAnyH_ready (rs := [5]) (by kernel_rfl) (by simp) ?_
              refine AllReadyH.cons rfl (fun K hK => ?_) ?_
              · rw [if_pos (by rfl)]
                refine wp_append_entry _ _ rfl (w.heap.size + 1) _ es.length es rfl HD5.out.own (by omega) HD5.out.size.2 _ _ (EntV.mk et ek ez) rfl HK5.out ?_
                intro v6 x6 ho6 hg6
                have HR6 := hide (HD5.out.rv.row HD5.out.own hg6)
                obtain ⟨ES, hES⟩ : ∃ ES, ES = es ++ [EntV.mk et ek ez] := ⟨_, rfl⟩
                have ho7 : x6.ownsRow (w.heap.size + 1) 28 3 v6 ES.length (ES.flatMap ecells) := by rw [hES, List.length_append]; exact ho6
                have HES := hide hES
                clear hES
                obtain ⟨o6, c6, rfl⟩ := own_form3 ho7
                have HO6 := hide ho7
                clear ho6 hg6 ho7
                try go_simp
                refine hK.out _ _ ?_ (fun hHeld => ?_)
                · trivial
                clear hK K
                try simp only [Act.put, List.getElem_toArray, List.getElem_cons_zero, List.getElem_cons_succ, List.setIfInBounds_toArray, List.set_cons_zero, List.set_cons_succ]
                refine wpAnyH_take (i := 6) (v := ?_) rfl (by kernel_rfl) (by kernel_rfl) (by kernel_rfl) (fun _ _ _ h => h) (Or.inl ⟨by rfl, ?_⟩) (by assumption) ?_; rotate_left
                · (intro w hSw; (try dsimp only at hSw); go_simp; first | done | with_reducible rfl)
                try simp only [Act.put, List.getElem_toArray, List.getElem_cons_zero, List.getElem_cons_succ, List.setIfInBounds_toArray, List.set_cons_zero, List.set_cons_succ]
                refine wpAnyH_ready (rs := [7]) (by kernel_rfl) (by simp) ?_
                refine AllReadyH.cons rfl (fun K hK => ?_) ?_
                · have q2 := blk_cell HR6.out.xb 2 rfl
                  have f2 := blk_free HR6.out.xb 2
                  simp only [List.getElem_toArray, List.getElem_cons_zero, List.getElem_cons_succ] at q2
                  have HDN := hide (LgD.put2 HR6.out HO6.out)
                  rw [if_pos (by rfl)]
                  go_simp
                  refine hK.out _ _ ?_ (fun hHeld => ?_)
                  · trivial
                  clear hK K
                  try simp only [Act.put, List.getElem_toArray, List.getElem_cons_zero, List.getElem_cons_succ, List.setIfInBounds_toArray, List.set_cons_zero, List.set_cons_succ]
                  clear q2 f2
                  refine wpAnyH_done (by kernel_rfl) ?_ _
                  have HW2 := hide (show ∀ f ∈ ES, f.data.size ≤ 1000 from fun f hf => (List.mem_append.1 (by rw [HES.out] at hf; exact hf)).elim (HEW.out f) (fun h => by rw [List.mem_singleton.1 h]; have := HEZ.out; show ez.size ≤ 1000; omega))
                  have HL2 := hide (show ES.length ≤ 70 by rw [HES.out, List.length_append]; simp; omega)
                  clear hHeld
                  generalize x6.setCell ⟨b, 2, none⟩ (Value.slice o6 ES.length c6) = xz at HDN ⊢
                  obtain ⟨x0, x1, x2⟩ := HDN.out.cells
                  have r0 := blk_cell HDN.out.rv.rs.rb 0 rfl
                  have r1 := blk_cell HDN.out.rv.rs.rb 1 rfl
                  have r2 := blk_cell HDN.out.rv.rs.rb 2 rfl
                  have t0 := blk_free HDN.out.rv.rs.rb 0
                  have t1 := blk_free HDN.out.rv.rs.rb 1
                  have t2 := blk_free HDN.out.rv.rs.rb 2
                  simp only [List.getElem_toArray, List.getElem_cons_zero, List.getElem_cons_succ] at r0 r1 r2
                  go_wp2_with fail
                  obtain ⟨hr, hc9, hg9, ho9⟩ := HDN.out.ret
                  generalize (((xz.setCell ⟨w.heap.size, 0, none⟩ (Value.int IntKind.i64 s)).setCell ⟨w.heap.size, 1, none⟩ (Value.int IntKind.i64 u)).setCell ⟨w.heap.size, 2, none⟩ (Value.slice o6 ES.length c6)) = w9 at hr hc9 hg9 ho9 ⊢
                  have q0 : w9.cell? ⟨w.heap.size, 0, none⟩ = some (.int .i64 s) := blk_cell hr 0 rfl
                  have q1 : w9.cell? ⟨w.heap.size, 1, none⟩ = some (.int .i64 u) := blk_cell hr 1 rfl
                  have q2 : w9.cell? ⟨w.heap.size, 2, none⟩ = some ((Value.slice o6 ES.length c6)) := blk_cell hr 2 rfl
                  exact bodyPost_ret (v := lgv s u (Value.slice o6 ES.length c6)) (by simp [results, Try.results11, go_sem, q0, q1, q2]) rfl ⟨s, u, _, ES, HL2.out, HW2.out, rfl, hc9, hg9, ho9⟩
                exact AllReadyH.nil
              exact AllReadyH.nil
            exact AllReadyH.nil
          exact AllReadyH.nil
        refine AllReadyH.cons rfl (fun K hK => ?_) ?_
        · rw [if_pos (by rfl)]
          go_simp
          go_at_call 16
          refine (l05Any_any B p a len cap _ HDs.out.size.1 HDs.out.rv.rs.cur).mono ?_
          rintro r x4 ⟨et, ek, ez, hez, rfl, hc4, hg4⟩
          have HD4 := hide (HDs.out.drawn hc4 hg4)
          have HEZ := hide hez
          clear hc4 hg4 hez
          try go_simp
          refine hK.out _ _ ?_ (fun hHeld => ?_)
          · trivial
          clear hK K
          try simp only [Act.put, List.getElem_toArray, List.getElem_cons_zero, List.getElem_cons_succ, List.setIfInBounds_toArray, List.set_cons_zero, List.set_cons_succ]
          refine wpAnyH_ready (rs := [1, 4]) (by kernel_rfl) (by simp) ?_
          refine AllReadyH.cons rfl (fun K hK => ?_) ?_
          · have hcd := HD4.out.cells.2.2
            rw [if_pos (by rfl)]
            go_simp
            refine hK.out _ _ ?_ (fun hHeld => ?_)
            · trivial
            clear hK K
            try simp only [Act.put, List.getElem_toArray, List.getElem_cons_zero, List.getElem_cons_succ, List.setIfInBounds_toArray, List.set_cons_zero, List.set_cons_succ]
            clear hcd
            refine wpAnyH_ready (rs := [4]) (by kernel_rfl) (by simp) ?_
            refine AllReadyH.cons rfl (fun K hK => ?_) ?_
            · have HD5 := hide (HD4.out.on ((Below.refl _ _).alloc (Nat.le_refl _) (Obj.cells #[Value.int IntKind.i64 et, Value.int IntKind.i64 ek, Value.string ez] 28)))
              have hk5 := heap_alloc_new x4 (Obj.cells #[Value.int IntKind.i64 et, Value.int IntKind.i64 ek, Value.string ez] 28)
              rw [if_pos (by rfl)]
              go_simp
              refine hK.out _ _ ?_ (fun hHeld => ?_)
              · trivial
              clear hK K
              try simp only [Act.put, List.getElem_toArray, List.getElem_cons_zero, List.getElem_cons_succ, List.setIfInBounds_toArray, List.set_cons_zero, List.set_cons_succ]
              have z5 : (x4.alloc (Obj.cells #[Value.int IntKind.i64 et, Value.int IntKind.i64 ek, Value.string ez] 28)).heap.size = x4.heap.size + 1 := by simp
              generalize x4.alloc (Obj.cells #[Value.int IntKind.i64 et, Value.int IntKind.i64 ek, Value.string ez] 28) = x5 at HD5 hk5 ⊢
              have HK5 := hide hk5
              clear hk5
              refine wpAnyH_ready (rs := [5]) (by kernel_rfl) (by simp) ?_
              refine AllReadyH.cons rfl (fun K hK => ?_) ?_
              · rw [if_pos (by rfl)]
                refine wp_append_entry _ _ rfl (w.heap.size + 1) _ es.length es rfl HD5.out.own (by omega) HD5.out.size.2 _ _ (EntV.mk et ek ez) rfl HK5.out ?_
                intro v6 x6 ho6 hg6
                have HR6 := hide (HD5.out.rv.row HD5.out.own hg6)
                obtain ⟨ES, hES⟩ : ∃ ES, ES = es ++ [EntV.mk et ek ez] := ⟨_, rfl⟩
                have ho7 : x6.ownsRow (w.heap.size + 1) 28 3 v6 ES.length (ES.flatMap ecells) := by rw [hES, List.length_append]; exact ho6
                have HES := hide hES
                clear hES
                obtain ⟨o6, c6, rfl⟩ := own_form3 ho7
                have HO6 := hide ho7
                clear ho6 hg6 ho7
                try go_simp
                refine hK.out _ _ ?_ (fun hHeld => ?_)
                · trivial
                clear hK K
                try simp only [Act.put, List.getElem_toArray, List.getElem_cons_zero, List.getElem_cons_succ, List.setIfInBounds_toArray, List.set_cons_zero, List.set_cons_succ]
                refine wpAnyH_take (i := 6) (v := ?_) rfl (by kernel_rfl) (by kernel_rfl) (by kernel_rfl) (fun _ _ _ h => h) (Or.inl ⟨by rfl, ?_⟩) (by assumption) ?_; rotate_left
                · (intro w hSw; (try dsimp only at hSw); go_simp; first | done | with_reducible rfl)
                try simp only [Act.put, List.getElem_toArray, List.getElem_cons_zero, List.getElem_cons_succ, List.setIfInBounds_toArray, List.set_cons_zero, List.set_cons_succ]
                refine wpAnyH_ready (rs := [7]) (by kernel_rfl) (by simp) ?_
                refine AllReadyH.cons rfl (fun K hK => ?_) ?_
                · have q2 := blk_cell HR6.out.xb 2 rfl
                  have f2 := blk_free HR6.out.xb 2
                  simp only [List.getElem_toArray, List.getElem_cons_zero, List.getElem_cons_succ] at q2
                  have HDN := hide (LgD.put2 HR6.out HO6.out)
                  rw [if_pos (by rfl)]
                  go_simp
                  refine hK.out _ _ ?_ (fun hHeld => ?_)
                  · trivial
                  clear hK K
                  try simp only [Act.put, List.getElem_toArray, List.getElem_cons_zero, List.getElem_cons_succ, List.setIfInBounds_toArray, List.set_cons_zero, List.set_cons_succ]
                  clear q2 f2
                  refine wpAnyH_done (by kernel_rfl) ?_ _
                  have HW2 := hide (show ∀ f ∈ ES, f.data.size ≤ 1000 from fun f hf => (List.mem_append.1 (by rw [HES.out] at hf; exact hf)).elim (HEW.out f) (fun h => by rw [List.mem_singleton.1 h]; have := HEZ.out; show ez.size ≤ 1000; omega))
                  have HL2 := hide (show ES.length ≤ 70 by rw [HES.out, List.length_append]; simp; omega)
                  clear hHeld
                  generalize x6.setCell ⟨b, 2, none⟩ (Value.slice o6 ES.length c6) = xz at HDN ⊢
                  obtain ⟨x0, x1, x2⟩ := HDN.out.cells
                  have r0 := blk_cell HDN.out.rv.rs.rb 0 rfl
                  have r1 := blk_cell HDN.out.rv.rs.rb 1 rfl
                  have r2 := blk_cell HDN.out.rv.rs.rb 2 rfl
                  have t0 := blk_free HDN.out.rv.rs.rb 0
                  have t1 := blk_free HDN.out.rv.rs.rb 1
                  have t2 := blk_free HDN.out.rv.rs.rb 2
                  simp only [List.getElem_toArray, List.getElem_cons_zero, List.getElem_cons_succ] at r0 r1 r2
                  go_wp2_with fail
                  obtain ⟨hr, hc9, hg9, ho9⟩ := HDN.out.ret
                  generalize (((xz.setCell ⟨w.heap.size, 0, none⟩ (Value.int IntKind.i64 s)).setCell ⟨w.heap.size, 1, none⟩ (Value.int IntKind.i64 u)).setCell ⟨w.heap.size, 2, none⟩ (Value.slice o6 ES.length c6)) = w9 at hr hc9 hg9 ho9 ⊢
                  have q0 : w9.cell? ⟨w.heap.size, 0, none⟩ = some (.int .i64 s) := blk_cell hr 0 rfl
                  have q1 : w9.cell? ⟨w.heap.size, 1, none⟩ = some (.int .i64 u) := blk_cell hr 1 rfl
                  have q2 : w9.cell? ⟨w.heap.size, 2, none⟩ = some ((Value.slice o6 ES.length c6)) := blk_cell hr 2 rfl
                  exact bodyPost_ret (v := lgv s u (Value.slice o6 ES.length c6)) (by simp [results, Try.results11, go_sem, q0, q1, q2]) rfl ⟨s, u, _, ES, HL2.out, HW2.out, rfl, hc9, hg9, ho9⟩
                exact AllReadyH.nil
              exact AllReadyH.nil
            exact AllReadyH.nil
          refine AllReadyH.cons rfl (fun K hK => ?_) ?_
          · have HD5 := hide (HD4.out.on ((Below.refl _ _).alloc (Nat.le_refl _) (Obj.cells #[Value.int IntKind.i64 et, Value.int IntKind.i64 ek, Value.string ez] 28)))
            have hk5 := heap_alloc_new x4 (Obj.cells #[Value.int IntKind.i64 et, Value.int IntKind.i64 ek, Value.string ez] 28)
            rw [if_pos (by rfl)]
            go_simp
            refine hK.out _ _ ?_ (fun hHeld => ?_)
            · trivial
            clear hK K
            try simp only [Act.put, List.getElem_toArray, List.getElem_cons_zero, List.getElem_cons_succ, List.setIfInBounds_toArray, List.set_cons_zero, List.set_cons_succ]
            have z5 : (x4.alloc (Obj.cells #[Value.int IntKind.i64 et, Value.int IntKind.i64 ek, Value.string ez] 28)).heap.size = x4.heap.size + 1 := by simp
            generalize x4.alloc (Obj.cells #[Value.int IntKind.i64 et, Value.int IntKind.i64 ek, Value.string ez] 28) = x5 at HD5 hk5 ⊢
            have HK5 := hide hk5
            clear hk5
            refine wpAnyH_ready (rs := [1]) (by kernel_rfl) (by simp) ?_
            refine AllReadyH.cons rfl (fun K hK => ?_) ?_
            · have hcd := HD5.out.cells.2.2
              rw [if_pos (by rfl)]
              go_simp
              refine hK.out _ _ ?_ (fun hHeld => ?_)
              · trivial
              clear hK K
              try simp only [Act.put, List.getElem_toArray, List.getElem_cons_zero, List.getElem_cons_succ, List.setIfInBounds_toArray, List.set_cons_zero, List.set_cons_succ]
              clear hcd
              refine wpAnyH_ready (rs := [5]) (by kernel_rfl) (by simp) ?_
              refine AllReadyH.cons rfl (fun K hK => ?_) ?_
              · rw [if_pos (by rfl)]
                refine wp_append_entry _ _ rfl (w.heap.size + 1) _ es.length es rfl HD5.out.own (by omega) HD5.out.size.2 _ _ (EntV.mk et ek ez) rfl HK5.out ?_
                intro v6 x6 ho6 hg6
                have HR6 := hide (HD5.out.rv.row HD5.out.own hg6)
                obtain ⟨ES, hES⟩ : ∃ ES, ES = es ++ [EntV.mk et ek ez] := ⟨_, rfl⟩
                have ho7 : x6.ownsRow (w.heap.size + 1) 28 3 v6 ES.length (ES.flatMap ecells) := by rw [hES, List.length_append]; exact ho6
                have HES := hide hES
                clear hES
                obtain ⟨o6, c6, rfl⟩ := own_form3 ho7
                have HO6 := hide ho7
                clear ho6 hg6 ho7
                try go_simp
                refine hK.out _ _ ?_ (fun hHeld => ?_)
                · trivial
                clear hK K
                try simp only [Act.put, List.getElem_toArray, List.getElem_cons_zero, List.getElem_cons_succ, List.setIfInBounds_toArray, List.set_cons_zero, List.set_cons_succ]
                refine wpAnyH_take (i := 6) (v := ?_) rfl (by kernel_rfl) (by kernel_rfl) (by kernel_rfl) (fun _ _ _ h => h) (Or.inl ⟨by rfl, ?_⟩) (by assumption) ?_; rotate_left
                · (intro w hSw; (try dsimp only at hSw); go_simp; first | done | with_reducible rfl)
                try simp only [Act.put, List.getElem_toArray, List.getElem_cons_zero, List.getElem_cons_succ, List.setIfInBounds_toArray, List.set_cons_zero, List.set_cons_succ]
                refine wpAnyH_ready (rs := [7]) (by kernel_rfl) (by simp) ?_
                refine AllReadyH.cons rfl (fun K hK => ?_) ?_
                · have q2 := blk_cell HR6.out.xb 2 rfl
                  have f2 := blk_free HR6.out.xb 2
                  simp only [List.getElem_toArray, List.getElem_cons_zero, List.getElem_cons_succ] at q2
                  have HDN := hide (LgD.put2 HR6.out HO6.out)
                  rw [if_pos (by rfl)]
                  go_simp
                  refine hK.out _ _ ?_ (fun hHeld => ?_)
                  · trivial
                  clear hK K
                  try simp only [Act.put, List.getElem_toArray, List.getElem_cons_zero, List.getElem_cons_succ, List.setIfInBounds_toArray, List.set_cons_zero, List.set_cons_succ]
                  clear q2 f2
                  refine wpAnyH_done (by kernel_rfl) ?_ _
                  have HW2 := hide (show ∀ f ∈ ES, f.data.size ≤ 1000 from fun f hf => (List.mem_append.1 (by rw [HES.out] at hf; exact hf)).elim (HEW.out f) (fun h => by rw [List.mem_singleton.1 h]; have := HEZ.out; show ez.size ≤ 1000; omega))
                  have HL2 := hide (show ES.length ≤ 70 by rw [HES.out, List.length_append]; simp; omega)
                  clear hHeld
                  generalize x6.setCell ⟨b, 2, none⟩ (Value.slice o6 ES.length c6) = xz at HDN ⊢
                  obtain ⟨x0, x1, x2⟩ := HDN.out.cells
                  have r0 := blk_cell HDN.out.rv.rs.rb 0 rfl
                  have r1 := blk_cell HDN.out.rv.rs.rb 1 rfl
                  have r2 := blk_cell HDN.out.rv.rs.rb 2 rfl
                  have t0 := blk_free HDN.out.rv.rs.rb 0
                  have t1 := blk_free HDN.out.rv.rs.rb 1
                  have t2 := blk_free HDN.out.rv.rs.rb 2
                  simp only [List.getElem_toArray, List.getElem_cons_zero, List.getElem_cons_succ] at r0 r1 r2
                  go_wp2_with fail
                  obtain ⟨hr, hc9, hg9, ho9⟩ := HDN.out.ret
                  generalize (((xz.setCell ⟨w.heap.size, 0, none⟩ (Value.int IntKind.i64 s)).setCell ⟨w.heap.size, 1, none⟩ (Value.int IntKind.i64 u)).setCell ⟨w.heap.size, 2, none⟩ (Value.slice o6 ES.length c6)) = w9 at hr hc9 hg9 ho9 ⊢
                  have q0 : w9.cell? ⟨w.heap.size, 0, none⟩ = some (.int .i64 s) := blk_cell hr 0 rfl
                  have q1 : w9.cell? ⟨w.heap.size, 1, none⟩ = some (.int .i64 u) := blk_cell hr 1 rfl
                  have q2 : w9.cell? ⟨w.heap.size, 2, none⟩ = some ((Value.slice o6 ES.length c6)) := blk_cell hr 2 rfl
                  exact bodyPost_ret (v := lgv s u (Value.slice o6 ES.length c6)) (by simp [results, Try.results11, go_sem, q0, q1, q2]) rfl ⟨s, u, _, ES, HL2.out, HW2.out, rfl, hc9, hg9, ho9⟩
                exact AllReadyH.nil
              exact AllReadyH.nil
            exact AllReadyH.nil
          exact AllReadyH.nil
        exact AllReadyH.nil
      · have g2 : ((y : Int) == 2) = false := by rw [beq_eq_false_iff_ne]; omega
        by_cases y3 : y = 3
        · subst y3
          obtain ⟨x0, x1, x2⟩ := HD3.out.cells
          have f2 := HD3.out.free 2
          have HDa := hide (HD3.out.on ((Below.refl _ _).alloc (Nat.le_refl _) (.cells #[] 28)))
          have hown0 : (w3.alloc (.cells #[] 28)).ownsRow (w.heap.size + 1) 28 3 (.slice (some ⟨w3.heap.size, 0, none⟩) 0 0) ([] : List EntV).length (([] : List EntV).flatMap ecells) := ⟨rfl, Or.inr ⟨w3.heap.size, 0, #[], rfl, by omega, heap_alloc_new _ _, Nat.le_refl _, by unfold maxLen; omega, rfl, rfl⟩⟩
          have HDb := hide (LgD.put2 HDa.out.rv hown0)
          clear hown0 HDa HD3
          go_wp2_with fail
          clear x0 x1 x2 f2
          have HDb : Hid (LgD B p a len cap w b s u (.slice (some ⟨w3.heap.size, 0, none⟩) ([] : List EntV).length 0) [] ((w3.alloc (.cells #[] 28)).setCell ⟨b, 2, none⟩ (.slice (some ⟨w3.heap.size, 0, none⟩) 0 0))) := HDb
          have hcm : (w3.alloc (Obj.cells #[] 28)).setCell ⟨b, 2, none⟩ (Value.slice (some ⟨w3.heap.size, 0, none⟩) 0 0) = (w3.setCell ⟨b, 2, none⟩ (Value.slice (some ⟨w3.heap.size, 0, none⟩) 0 0)).alloc (Obj.cells #[] 28) := World.setCell_alloc_past _ _ _ _ l3
          rw [hcm] at HDb
          clear hcm
          generalize (w3.setCell ⟨b, 2, none⟩ (Value.slice (some ⟨w3.heap.size, 0, none⟩) 0 0)).alloc (Obj.cells #[] 28) = w4 at HDb ⊢
          refine (l01Once_any B p a len cap 2 (by decide) (by decide) _ HDb.out.rv.rs.cur).mono ?_
          rintro r w5 ⟨big, rfl, hc5, hg5⟩
          have HDc := hide (HDb.out.drawn hc5 hg5)
          clear hc5 hg5 HDb
          go_wp2_with fail
          go_loopw [5] (fun i wr => ∃ (j : Nat) (ov : Option Addr) (cv : Nat) (es : List EntV), i = .int .i64 (j : Int) ∧ j ≤ 61 ∧ es.length = j ∧ (∀ f ∈ es, f.data.size ≤ 1000) ∧ LgD B p a len cap w b s u (.slice ov es.length cv) es wr) (fun i _ => 61 - (intOf i).toNat)
          case atStart => exact ⟨0, _, _, [], rfl, by omega, rfl, (by simp), HDc.out⟩
          case round =>
            clear HDc HEW hel rlt
            obtain ⟨j, ov, cv, es, rfl, hj, hel, hew, hd⟩ := hrel
            have HD1 := hide hd
            have HEL := hide hel
            have HEW := hide hew
            clear hd hel hew
            go_wp2_with fail
            refine (l01Below_any B p a len cap 2 (by decide) (by decide) _ HD1.out.rv.rs.cur).mono ?_
            rintro r w6 ⟨k, hk, rfl, hc6, hg6⟩
            have HD6 := hide (HD1.out.drawn hc6 hg6)
            clear hc6 hg6 HD1
            by_cases hjk : j < 60 + k
            · have j0 : (j : Int) < 60 + (k : Int) := by omega
              have hj8 : j < 61 := by omega
              have hel8 : es.length < 61 := by rw [HEL.out]; exact hj8
              obtain ⟨x0, x1, x2⟩ := HD6.out.cells
              have l6 := HD6.out.lt
              have rl6 : ∀ g, (Value.slice ov es.length cv).ownBlock = some g → g ≠ w6.heap.size := fun g hg => by have := (HD6.out.own.lt g hg).2; omega
              have s6 := HD6.out.size
              cases big with
              | false =>
                have HD7 := hide ((HD6.out.on ((Below.refl _ _).alloc (Nat.le_refl _) (Obj.cells #[Value.int IntKind.i64 u, Value.int IntKind.i64 1, Value.string ⟨#[]⟩] 28))).on ((Below.refl _ _).alloc (Nat.le_refl _) (Obj.cells #[Value.int IntKind.i64 u, Value.int IntKind.i64 1, Value.string ⟨#[]⟩] 28)))
                have hk7 := heap_alloc_new (w6.alloc (Obj.cells #[Value.int IntKind.i64 u, Value.int IntKind.i64 1, Value.string ⟨#[]⟩] 28)) (Obj.cells #[Value.int IntKind.i64 u, Value.int IntKind.i64 1, Value.string ⟨#[]⟩] 28)
                have z7 : (w6.alloc (Obj.cells #[Value.int IntKind.i64 u, Value.int IntKind.i64 1, Value.string ⟨#[]⟩] 28)).heap.size = w6.heap.size + 1 := by simp
                rw [z7] at hk7
                have HK7 := hide hk7
                clear hk7 z7
                go_wp2_with (at_builtin; refine wpList_append_entry rfl _ _ rfl (w.heap.size + 1) _ es.length es rfl HD7.out.own (by omega) HD7.out.size.2 _ _ (EntV.mk u 1 ⟨#[]⟩) rfl HK7.out ?_)
                intro v8 x8 ho8 hg8
                have HR8 := hide (HD7.out.rv.row HD7.out.own hg8)
                obtain ⟨ES, hES⟩ : ∃ ES, ES = es ++ [EntV.mk u 1 ⟨#[]⟩] := ⟨_, rfl⟩
                have ho9 : x8.ownsRow (w.heap.size + 1) 28 3 v8 ES.length (ES.flatMap ecells) := by rw [hES, List.length_append]; first | exact ho8 | simpa using ho8
                have HES := hide hES
                obtain ⟨o8, c8, rfl⟩ := own_form3 ho9
                have HDN := hide (LgD.put2 HR8.out ho9)
                have q2 := blk_cell HR8.out.xb 2 rfl
                have f2 := blk_free HR8.out.xb 2
                simp only [List.getElem_toArray, List.getElem_cons_zero, List.getElem_cons_succ] at q2
                have HW2 := hide (show ∀ f ∈ ES, f.data.size ≤ 1000 from fun f hf => (List.mem_append.1 (by rw [HES.out] at hf; exact hf)).elim (HEW.out f) (fun h => by rw [List.mem_singleton.1 h]; show (ByteArray.mk #[]).size ≤ 1000; decide))
                have HL2 := hide (show ES.length = j + 1 by rw [HES.out, List.length_append, HEL.out]; rfl)
                clear ho8 hg8 hES ho9 HR8
                go_wp2_with fail
                go_roundw
                case rel => exact ⟨j + 1, o8, c8, ES, by go_num, by omega, HL2.out, HW2.out, HDN.out⟩
                case measure => simp [intOf]; omega
              | true =>
                have hE := heap_alloc_new w6 (Obj.cells #[Value.int IntKind.i64 u, Value.int IntKind.i64 1, Value.string ⟨#[]⟩] 28)
                have HD7 := hide (HD6.out.on ((Below.refl _ _).alloc (Nat.le_refl _) (Obj.cells #[Value.int IntKind.i64 u, Value.int IntKind.i64 1, Value.string ⟨#[]⟩] 28)))
                have HE := hide hE
                clear hE HD6
                go_wp2_with fail
                generalize w6.alloc (Obj.cells #[Value.int IntKind.i64 u, Value.int IntKind.i64 1, Value.string ⟨#[]⟩] 28) = w7 at HD7 HE ⊢
                have HDs := hide (HD7.out.on (Below.refl _ _).drew)
                have HEs := hide (show w7.drew.heap[w6.heap.size]? = some (.cells #[.int .i64 u, .int .i64 1, .string ⟨#[]⟩] 28 (0, 0)) from HE.out)
                clear HD7 HE x0 x1 x2
                refine wp_region_held_drew (S := fun w' => w'.cell? ⟨b, 1, none⟩ = some (.int .i64 u)) (by kernel_rfl) HDs.out.cells.2.1 (fun hHeld => ?_)
                generalize w7.drew = xs at HDs HEs hHeld ⊢
                refine wpAnyH_take (i := 0) (v := ?_) rfl (by kernel_rfl) (by kernel_rfl) (by kernel_rfl) (fun _ _ _ h => h) (Or.inl ⟨by rfl, ?_⟩) (by assumption) ?_; rotate_left
                · (intro wz hSw; replace hSw : wz.cell? ⟨b, 1, none⟩ = some (.int .i64 u) := hSw; go_simp; first | done | with_reducible rfl)
                try simp only [Act.put, List.getElem_toArray, List.getElem_cons_zero, List.getElem_cons_succ, List.setIfInBounds_toArray, List.set_cons_zero, List.set_cons_succ]
                refine wpAnyH_take (i := 1) (v := ?_) rfl (by kernel_rfl) (by kernel_rfl) (by kernel_rfl) (fun _ _ _ h => h) (Or.inl ⟨by rfl, ?_⟩) (by assumption) ?_; rotate_left
                · (intro wz hSw; replace hSw : wz.cell? ⟨b, 1, none⟩ = some (.int .i64 u) := hSw; go_simp; first | done | with_reducible rfl)
                try simp only [Act.put, List.getElem_toArray, List.getElem_cons_zero, List.getElem_cons_succ, List.setIfInBounds_toArray, List.set_cons_zero, List.set_cons_succ]
                refine wpAnyH_ready (rs := [2]) (by kernel_rfl) (by simp) ?_
                refine AllReadyH.cons rfl (fun K hK => ?_) ?_
                · rw [if_pos (by rfl)]
                  go_simp
                  go_at_call 28
                  refine (l01Long_any 120 (by omega) 66 _).mono ?_
                  rintro r x2 ⟨l, hl, rfl, hb2⟩
                  have HD8 := hide (HDs.out.on hb2)
                  have HE8 := hide ((hb2.block _ (blk_lt HEs.out)).trans HEs.out)
                  clear hb2
                  try go_simp
                  refine hK.out _ _ ?_ (fun hHeld => ?_)
                  · exact HD8.out.cells.2.1
                  clear hK K
                  try simp only [Act.put, List.getElem_toArray, List.getElem_cons_zero, List.getElem_cons_succ, List.setIfInBounds_toArray, List.set_cons_zero, List.set_cons_succ]
                  refine wpAnyH_take (i := 3) (v := ?_) rfl (by kernel_rfl) (by kernel_rfl) (by kernel_rfl) (fun _ _ _ h => h) (Or.inl ⟨by rfl, ?_⟩) (by assumption) ?_; rotate_left
                  · (intro wz hSw; replace hSw : wz.cell? ⟨b, 1, none⟩ = some (.int .i64 u) := hSw; go_simp; first | done | with_reducible rfl)
                  try simp only [Act.put, List.getElem_toArray, List.getElem_cons_zero, List.getElem_cons_succ, List.setIfInBounds_toArray, List.set_cons_zero, List.set_cons_succ]
                  refine wpAnyH_ready (rs := [4]) (by kernel_rfl) (by simp) ?_
                  refine AllReadyH.cons rfl (fun K hK => ?_) ?_
                  · have q0 := blk_cell HE8.out 0 rfl
                    have q1 := blk_cell HE8.out 1 rfl
                    have q2 := blk_cell HE8.out 2 rfl
                    have f0 := blk_free HE8.out 0
                    have f1 := blk_free HE8.out 1
                    have f2 := blk_free HE8.out 2
                    simp only [List.getElem_toArray, List.getElem_cons_zero, List.getElem_cons_succ] at q0 q1 q2
                    have HE9 := hide (show (((x2.setCell ⟨w6.heap.size, 0, none⟩ (Value.int IntKind.i64 u)).setCell ⟨w6.heap.size, 1, none⟩ (Value.int IntKind.i64 3)).setCell ⟨w6.heap.size, 2, none⟩ (Value.string ⟨l.toArray⟩)).heap[w6.heap.size]? = some (.cells #[.int .i64 u, .int .i64 3, .string ⟨l.toArray⟩] 28 (0, 0)) from by have h := blk_set (k := 2) (.string ⟨l.toArray⟩) (blk_set (k := 1) (.int .i64 3) (blk_set (k := 0) (.int .i64 u) HE8.out)); simpa using h)
                    have HD9 := hide (show LgD B p a len cap w b s u (.slice ov es.length cv) es (((x2.setCell ⟨w6.heap.size, 0, none⟩ (Value.int IntKind.i64 u)).setCell ⟨w6.heap.size, 1, none⟩ (Value.int IntKind.i64 3)).setCell ⟨w6.heap.size, 2, none⟩ (Value.string ⟨l.toArray⟩)) from HD8.out.far (grown_trans (grown_trans (set_grown _ _ _ _) (set_grown _ _ _ _)) (set_grown _ _ _ _)) (by omega) (by omega) rl6)
                    rw [if_pos (by rfl)]
                    go_simp
                    refine hK.out _ _ ?_ (fun hHeld => ?_)
                    · exact HD9.out.cells.2.1
                    clear hK K
                    try simp only [Act.put, List.getElem_toArray, List.getElem_cons_zero, List.getElem_cons_succ, List.setIfInBounds_toArray, List.set_cons_zero, List.set_cons_succ]
                    clear q0 q1 q2 f0 f1 f2
                    generalize (((x2.setCell ⟨w6.heap.size, 0, none⟩ (Value.int IntKind.i64 u)).setCell ⟨w6.heap.size, 1, none⟩ (Value.int IntKind.i64 3)).setCell ⟨w6.heap.size, 2, none⟩ (Value.string ⟨l.toArray⟩)) = x9 at HD9 HE9 hHeld ⊢
                    refine wpAnyH_done (by kernel_rfl) ?_ _
                    clear hHeld
                    have hl9 : (⟨l.toArray⟩ : ByteArray).size ≤ 1000 := by simp [ByteArray.size]; omega
                    generalize (⟨l.toArray⟩ : ByteArray) = ba at HD9 HE9 hl9 ⊢
                    obtain ⟨c0, c1, c2⟩ := HD9.out.cells
                    have e0 := blk_cell HE9.out 0 rfl
                    have e1 := blk_cell HE9.out 1 rfl
                    have e2 := blk_cell HE9.out 2 rfl
                    simp only [List.getElem_toArray, List.getElem_cons_zero, List.getElem_cons_succ] at e0 e1 e2
                    have HDA := hide (HD9.out.on ((Below.refl _ _).alloc (Nat.le_refl _) (Obj.cells #[Value.int IntKind.i64 u, Value.int IntKind.i64 3, Value.string ba] 28)))
                    have HKA := hide (heap_alloc_new x9 (Obj.cells #[Value.int IntKind.i64 u, Value.int IntKind.i64 3, Value.string ba] 28))
                    go_wp2_with (at_builtin; refine wpList_append_entry rfl _ _ rfl (w.heap.size + 1) _ es.length es rfl HDA.out.own (by omega) HDA.out.size.2 _ _ (EntV.mk u 3 ba) rfl HKA.out ?_)
                    intro v8 x8 ho8 hg8
                    have HR8 := hide (HDA.out.rv.row HDA.out.own hg8)
                    obtain ⟨ES, hES⟩ : ∃ ES, ES = es ++ [EntV.mk u 3 ba] := ⟨_, rfl⟩
                    have ho9 : x8.ownsRow (w.heap.size + 1) 28 3 v8 ES.length (ES.flatMap ecells) := by rw [hES, List.length_append]; first | exact ho8 | simpa using ho8
                    have HES := hide hES
                    obtain ⟨o8, c8, rfl⟩ := own_form3 ho9
                    have HDN := hide (LgD.put2 HR8.out ho9)
                    have q2 := blk_cell HR8.out.xb 2 rfl
                    have f2 := blk_free HR8.out.xb 2
                    simp only [List.getElem_toArray, List.getElem_cons_zero, List.getElem_cons_succ] at q2
                    have HW2 := hide (show ∀ f ∈ ES, f.data.size ≤ 1000 from fun f hf => (List.mem_append.1 (by rw [HES.out] at hf; exact hf)).elim (HEW.out f) (fun h => by rw [List.mem_singleton.1 h]; exact hl9))
                    have HL2 := hide (show ES.length = j + 1 by rw [HES.out, List.length_append, HEL.out]; rfl)
                    clear ho8 hg8 hES ho9 HR8
                    go_wp2_with fail
                    go_roundw
                    case rel => exact ⟨j + 1, o8, c8, ES, by go_num, by omega, HL2.out, HW2.out, HDN.out⟩
                    case measure => simp [intOf]; omega
                  exact AllReadyH.nil
                exact AllReadyH.nil
            · have j0 : ¬ (j : Int) < 60 + (k : Int) := by omega
              obtain ⟨x0, x1, x2⟩ := HD6.out.cells
              have r0 := blk_cell HD6.out.rv.rs.rb 0 rfl
              have r1 := blk_cell HD6.out.rv.rs.rb 1 rfl
              have r2 := blk_cell HD6.out.rv.rs.rb 2 rfl
              have t0 := blk_free HD6.out.rv.rs.rb 0
              have t1 := blk_free HD6.out.rv.rs.rb 1
              have t2 := blk_free HD6.out.rv.rs.rb 2
              simp only [List.getElem_toArray, List.getElem_cons_zero, List.getElem_cons_succ] at r0 r1 r2
              go_wp2_with fail
              obtain ⟨hr, hc9, hg9, ho9⟩ := HD6.out.ret
              generalize (((w6.setCell ⟨w.heap.size, 0, none⟩ (Value.int IntKind.i64 s)).setCell ⟨w.heap.size, 1, none⟩ (Value.int IntKind.i64 u)).setCell ⟨w.heap.size, 2, none⟩ (Value.slice ov es.length cv)) = w9 at hr hc9 hg9 ho9 ⊢
              have q0 : w9.cell? ⟨w.heap.size, 0, none⟩ = some (.int .i64 s) := blk_cell hr 0 rfl
              have q1 : w9.cell? ⟨w.heap.size, 1, none⟩ = some (.int .i64 u) := blk_cell hr 1 rfl
              have q2 : w9.cell? ⟨w.heap.size, 2, none⟩ = some ((Value.slice ov es.length cv)) := blk_cell hr 2 rfl
              exact bodyPost_ret (v := lgv s u (Value.slice ov es.length cv)) (by simp [results, Try.results11, go_sem, q0, q1, q2]) rfl ⟨s, u, _, es, by have := HEL.out; omega, HEW.out, rfl, hc9, hg9, ho9⟩
        · have g3 : ((y : Int) == 3) = false := by rw [beq_eq_false_iff_ne]; omega
          obtain ⟨x0, x1, x2⟩ := HD3.out.cells
          have r0 := blk_cell HD3.out.rv.rs.rb 0 rfl
          have r1 := blk_cell HD3.out.rv.rs.rb 1 rfl
          have r2 := blk_cell HD3.out.rv.rs.rb 2 rfl
          have t0 := blk_free HD3.out.rv.rs.rb 0
          have t1 := blk_free HD3.out.rv.rs.rb 1
          have t2 := blk_free HD3.out.rv.rs.rb 2
          simp only [List.getElem_toArray, List.getElem_cons_zero, List.getElem_cons_succ] at r0 r1 r2
          go_wp2_with fail
          obtain ⟨hr, hc9, hg9, ho9⟩ := HD3.out.ret
          generalize (((w3.setCell ⟨w.heap.size, 0, none⟩ (Value.int IntKind.i64 s)).setCell ⟨w.heap.size, 1, none⟩ (Value.int IntKind.i64 u)).setCell ⟨w.heap.size, 2, none⟩ (Value.slice ov es.length cv)) = w9 at hr hc9 hg9 ho9 ⊢
          have q0 : w9.cell? ⟨w.heap.size, 0, none⟩ = some (.int .i64 s) := blk_cell hr 0 rfl
          have q1 : w9.cell? ⟨w.heap.size, 1, none⟩ = some (.int .i64 u) := blk_cell hr 1 rfl
          have q2 : w9.cell? ⟨w.heap.size, 2, none⟩ = some ((Value.slice ov es.length cv)) := blk_cell hr 2 rfl
          exact bodyPost_ret (v := lgv s u (Value.slice ov es.length cv)) (by simp [results, Try.results11, go_sem, q0, q1, q2]) rfl ⟨s, u, _, es, by omega, HEW.out, rfl, hc9, hg9, ho9⟩

end Go.Proofs.Ytdollofmjpgppaa
