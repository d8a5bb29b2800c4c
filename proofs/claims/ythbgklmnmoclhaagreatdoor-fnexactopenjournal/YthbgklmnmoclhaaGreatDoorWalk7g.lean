/-
  Walks of chapter 7: a further record, of the program (made by wip/tools/gen7g.py).
-/
import Derived.Test.YthbgklmnmoclhaaGreatDoorPack25
import Derived.Test.YthbgklmnmoclhaaGreatDoorWalk6f
import Derived.Test.YthbgklmnmoclhaaGreatDoorPack12
namespace Go.Proofs.YthbgklmnmoclhaaGreatDoor
open Go.RowKit P1 P3 P9 K
attribute [local go_sem ↓] Go.wp_at_zero Go.wp_at_succ
set_option linter.unusedVariables false
set_option linter.unusedSimpArgs false

/-- A journal in a block, its entries in a row of the call's own. -/
def JSt (w : World) (b B : Nat) (j : JnV) : Prop :=
  ∃ v, JB w b j.number j.term j.vote j.s j.u v ∧ w.ownsRow B 111 3 v j.es.length (j.es.flatMap ecells)

theorem JSt.on {w w' : World} {b B : Nat} {j : JnV} (h : JSt w b B j) (hb : Below w.heap.size w w') : JSt w' b B j := by
  obtain ⟨v, h1, h2⟩ := h
  exact ⟨v, h1.on hb h1.lt, own_below h2 hb⟩

/-- What a further record leaves. -/
def jnNext (j : JnV) (l : List UInt8) : JnV := (jnMore j l).getD j
def GoPost (w : World) (b B : Nat) (j : JnV) (l : List UInt8) (e : Ending) (w' : World) : Prop :=
  e = .returned (.bool (jnMore j l).isSome) ∧ JSt w' b B (jnNext j l) ∧ w.grownBy w' (some b)

/-- What is held: the journal's block and the entry's stand; the rest is new. -/
structure GoS (W : World) (b be : Nat) (n t v s u : Int) (x : Value) (e : EntV) (w : World) : Prop where
  bel : Below W.heap.size W w
  jb : JB w b n t v s u x
  eb : w.heap[be]? = some (.cells #[.int .i64 e.term, .int .i64 e.kind, .string e.data] 111 (0, 0))
  lb : b < W.heap.size
  le : be < W.heap.size

section
variable {W : World} {b be : Nat} {n t v s u : Int} {x : Value} {e : EntV} {w w' : World}
theorem GoS.cells (h : GoS W b be n t v s u x e w) : True ∧ w.cell? ⟨b, 3, none⟩ = some (.int .i64 s) ∧ w.cell? ⟨b, 4, none⟩ = some (.int .i64 u) ∧ w.cell? ⟨b, 5, none⟩ = some x ∧ w.cell? ⟨be, 0, none⟩ = some (.int .i64 e.term) ∧ w.cell? ⟨be, 1, none⟩ = some (.int .i64 e.kind) ∧ w.cell? ⟨be, 2, none⟩ = some (.string e.data) :=
  ⟨trivial, h.jb.jv.c3, h.jb.jv.c4, h.jb.jv.c5, blk_cell h.eb 0 rfl, blk_cell h.eb 1 rfl, blk_cell h.eb 2 rfl⟩
theorem GoS.call (h : GoS W b be n t v s u x e w) (hb : Below w.heap.size w w') : GoS W b be n t v s u x e w' :=
  ⟨h.bel.trans (hb.mono h.bel.size), h.jb.on hb h.jb.lt, (hb.block be (blk_lt h.eb)).trans h.eb, h.lb, h.le⟩
theorem GoS.grown {g : Nat} (h : GoS W b be n t v s u x e w) (hg : w.grownBy w' (some g)) (hgl : W.heap.size ≤ g) : GoS W b be n t v s u x e w' :=
  ⟨h.bel.grown hg h.bel.size (fun k hk => by cases hk; exact hgl), h.jb.kept hg (fun e => by cases e; have := h.lb; omega), (hg.block be (blk_lt h.eb) (fun e => by cases e; have := h.le; omega)).trans h.eb, h.lb, h.le⟩
end

theorem own_keptb {w w' : World} {base b : Nat} {e : TypeId} {size : Nat} {v : Value} {n : Nat} {xs : List Value} (h : w.ownsRow base e size v n xs) (hg : w.grownBy w' (some b)) (hb : b < base) : w'.ownsRow base e size v n xs := by
  refine h.kept hg ?_
  cases hv : v.ownBlock with
  | none => exact Or.inl rfl
  | some g => exact Or.inr (fun e => by cases e; have := (h.lt _ hv).1; omega)

/-- A log stored into a new block. -/
theorem logSt_of (c : World) (g : Nat) {z0 z1 z2 : Value} (hg : c.heap[g]? = some (.cells #[z0, z1, z2] 28 (0, 0))) (s u : Int) (v : Value) {base n : Nat} {xs : List Value} (ho : c.ownsRow base 111 3 v n xs) :
    LV (((c.setCell ⟨g, 0, none⟩ (.int .i64 s)).setCell ⟨g, 1, none⟩ (.int .i64 u)).setCell ⟨g, 2, none⟩ v) g s u v ∧
    (((c.setCell ⟨g, 0, none⟩ (.int .i64 s)).setCell ⟨g, 1, none⟩ (.int .i64 u)).setCell ⟨g, 2, none⟩ v).ownsRow base 111 3 v n xs ∧
    c.grownBy (((c.setCell ⟨g, 0, none⟩ (.int .i64 s)).setCell ⟨g, 1, none⟩ (.int .i64 u)).setCell ⟨g, 2, none⟩ v) (some g) := by
  have h3 := blk_set (k := 2) v (blk_set (k := 1) (.int .i64 u) (blk_set (k := 0) (.int .i64 s) hg))
  have hgr : c.grownBy (((c.setCell ⟨g, 0, none⟩ (.int .i64 s)).setCell ⟨g, 1, none⟩ (.int .i64 u)).setCell ⟨g, 2, none⟩ v) (some g) := grown_trans (blk_grown _ _ _ _) (grown_trans (blk_grown _ _ _ _) (blk_grown _ _ _ _))
  refine ⟨⟨blk_cell h3 0 rfl, blk_cell h3 1 rfl, blk_cell h3 2 rfl⟩, ho.kept hgr ?_, hgr⟩
  rcases ho.2 with ⟨rfl, -⟩ | ⟨q, cap, cur, rfl, -, hqb, -⟩
  · exact Or.inl rfl
  · refine Or.inr (fun e => ?_)
    cases e
    rw [hg] at hqb
    cases hqb

theorem rdEntry_in {l : List UInt8} {i t k : Nat} {d : List UInt8} (h : rdEntry l = some (i, t, k, d)) : d.length ≤ 120 := by
  cases l with
  | nil => cases h
  | cons b r =>
    simp only [rdEntry] at h
    split at h
    · cases h
    · split at h
      · cases h
      · split at h
        · cases h
        · split at h
          · rename_i hc
            cases h
            have h3 := hc.2.2
            unfold entryOk at h3
            simp only [Bool.and_eq_true] at h3
            exact (contOk_len h3.1).1
          · cases h

set_option maxHeartbeats 8000000 in
theorem goOn_any (s : ByteArray) (hs : s.size ≤ 1048576) (w : World) (b B : Nat) (j : JnV) (h : JSt w b B j) (hbB : b < B) (hBw : B ≤ w.heap.size) (hlg : lgOk j.s j.u j.es = true) :
    Calls Tryz.prog 79 #[.pointer (some ⟨b, 0, none⟩), .string s] w fun e w' => GoPost w b B j (bl s) e w' := by
  obtain ⟨v, hJ, hO⟩ := h
  obtain ⟨oa, cap, rfl, hat⟩ := entsAt_own hO
  have HR := hide (readPair_any 72 s hs 100000 4 100000 4 rfl rfl w)
  cases hp : rdPair 72 (bl s) 100000 4 with
  | some q =>
    obtain ⟨a, c⟩ := q
    have HM := hide (jnMore_pair (j := j) hp)
    have HE := hide (hJ.vote a c)
    have HO := hide hO
    have c1 := hJ.jv.c1
    have c2 := hJ.jv.c2
    have f1 := hJ.free 1
    have f2 := hJ.free 2
    rw [hp, show rpVal (some (a, c)) = .tuple #[.int .i64 (a : Int), .int .i64 (c : Int), .bool true] from rfl] at HR
    clear hp hJ hO hat
    go_enter Tryz.func79, Tryz.ntmps79
    go_wp2_with fail
    refine HR.out.mono ?_
    rintro r w' ⟨rfl, rfl⟩
    go_wp2_with fail
    refine bodyPost_ret (v := .bool true) (by simp [results, Tryz.results79, go_sem]) rfl ?_
    unfold GoPost jnNext
    rw [HM.out]
    exact ⟨rfl, ⟨_, HE.out.1, own_keptb HO.out HE.out.2 hbB⟩, HE.out.2⟩
  | none =>
    have hMo := jnMore_other (j := j) hp
    rw [hp, show rpVal none = .tuple #[.int .i64 0, .int .i64 0, .bool false] from rfl] at HR
    have HRE := hide (implReadEntry_any s hs w)
    have hbw : b < w.heap.size := hJ.lt
    cases hre : rdEntry (bl s) with
    | none =>
      have HM := hide (show jnMore j (bl s) = none by rw [hMo]; unfold jnEntry; rw [hre])
      have HJ := hide hJ
      have HO := hide hO
      rw [hre, show reVal none = .tuple #[.int .i64 0, .agg #[.int .i64 0, .int .i64 0, .string ⟨#[]⟩], .bool false] from rfl] at HRE
      clear hp hJ hO hat hMo hre
      go_enter Tryz.func79, Tryz.ntmps79
      go_wp2_with fail
      refine HR.out.mono ?_
      rintro r w' ⟨rfl, rfl⟩
      go_wp2_with fail
      refine HRE.out.mono ?_
      rintro r w1 ⟨rfl, hb1⟩
      have HB1 := hide (hb1.alloc hb1.size (.cells #[.int .i64 0, .int .i64 0, .string ⟨#[]⟩] 111))
      clear hb1
      go_wp2_with fail
      refine bodyPost_ret (v := .bool false) (by simp [results, Tryz.results79, go_sem]) rfl ?_
      unfold GoPost jnNext
      rw [HM.out]
      exact ⟨rfl, JSt.on ⟨_, HJ.out, HO.out⟩ HB1.out, grown_below HB1.out⟩
    | some q =>
      obtain ⟨i, t, k, d⟩ := q
      have hdl := rdEntry_in hre
      have hw : ∀ f ∈ j.es, f.data.size ≤ 1048576 := fun f hf => by have := ok_data (lgOk_ok hlg f hf); omega
      have HLP := hide (fun wx hat => implLogPut_any j.s j.u oa j.es.length cap j.es (i : Int) ⟨t, k, ⟨d.toArray⟩⟩ wx hat hw (by rw [size_mk7]; omega))
      rw [hre, show reVal (some (i, t, k, d)) = .tuple #[.int .i64 (i : Int), .agg #[.int .i64 (t : Int), .int .i64 (k : Int), .string ⟨d.toArray⟩], .bool true] from rfl] at HRE
      cases hpo : putOk j.s j.u j.es i ⟨t, k, ⟨d.toArray⟩⟩ with
      | true =>
        have HM := hide (show jnMore j (bl s) = some { j with es := putL j.s j.es i ⟨t, k, ⟨d.toArray⟩⟩ } by rw [hMo]; unfold jnEntry; rw [hre]; simp only; rw [if_pos hpo])
        rw [show putR j.s j.u j.es i ⟨t, k, ⟨d.toArray⟩⟩ = (j.s, j.u, putL j.s j.es i ⟨t, k, ⟨d.toArray⟩⟩, true) by unfold putR; rw [if_pos hpo]] at HLP
        obtain ⟨D, hD⟩ : ∃ D : ByteArray, (⟨d.toArray⟩ : ByteArray) = D := ⟨_, rfl⟩
        rw [hD] at HLP HRE HM
        generalize putL j.s j.es i ⟨t, k, D⟩ = YS at HLP HM
        have HJ := hide hJ
        have HO := hide hO
        have HAT := hide hat
        clear hp hJ hO hat hMo hre hpo hw hdl hD
        go_enter Tryz.func79, Tryz.ntmps79
        go_wp2_with fail
        refine HR.out.mono ?_
        rintro r w' ⟨rfl, rfl⟩
        go_wp2_with fail
        refine HRE.out.mono ?_
        rintro r w1 ⟨rfl, hb1⟩
        have HB0 := hide (hb1.alloc hb1.size (.cells #[.int .i64 (t : Int), .int .i64 (k : Int), .string D] 111))
        have HEB := hide (heap_alloc_new w1 (.cells #[.int .i64 (t : Int), .int .i64 (k : Int), .string D] 111))
        have hx0 : (w1.alloc (.cells #[.int .i64 (t : Int), .int .i64 (k : Int), .string D] 111)).heap.size = w1.heap.size + 1 := by simp
        have hs1 := hb1.size
        clear hb1
        go_wp2_with fail
        generalize w1.alloc (Obj.cells #[Value.int IntKind.i64 (t : Int), Value.int IntKind.i64 (k : Int), Value.string D] 111) = x0 at HB0 HEB hx0 ⊢
        have hb0 : b < x0.heap.size := by omega
        have hB0 : B ≤ x0.heap.size := by omega
        have HS := hide (GoS.mk (e := ⟨t, k, D⟩) (Below.refl x0.heap.size x0) (HJ.out.on HB0.out hbw) HEB.out hb0 (by omega))
        have HAT0 := hide (HAT.out.below HB0.out)
        clear hx0 HEB HAT
        refine wp_region_held_drew (S := GoS x0 b w1.heap.size j.number j.term j.vote j.s j.u (.slice oa j.es.length cap) ⟨t, k, D⟩) (by kernel_rfl) (HS.out.call (Below.refl _ _).drew) (fun hHeld => ?_)
        clear HS
        generalize x0.drew = xd at hHeld ⊢
        refine wpAnyH_take (i := 0) (v := ?_) rfl (by kernel_rfl) (by kernel_rfl) (by kernel_rfl) (fun _ _ _ h => h) (Or.inl ⟨by rfl, ?_⟩) (by assumption) ?_; rotate_left
        · (intro wz hSw; obtain ⟨-, z1, z2, z3, z4, z5, z6⟩ := GoS.cells hSw; clear hSw; go_simp; first | done | with_reducible rfl)
        try simp only [Act.put, List.getElem_toArray, List.getElem_cons_zero, List.getElem_cons_succ, List.setIfInBounds_toArray, List.set_cons_zero, List.set_cons_succ]
        refine wpAnyH_take (i := 1) (v := ?_) rfl (by kernel_rfl) (by kernel_rfl) (by kernel_rfl) (fun _ _ _ h => h) (Or.inl ⟨by rfl, ?_⟩) (by assumption) ?_; rotate_left
        · (intro wz hSw; obtain ⟨-, z1, z2, z3, z4, z5, z6⟩ := GoS.cells hSw; clear hSw; go_simp; first | done | with_reducible rfl)
        try simp only [Act.put, List.getElem_toArray, List.getElem_cons_zero, List.getElem_cons_succ, List.setIfInBounds_toArray, List.set_cons_zero, List.set_cons_succ]
        refine wpAnyH_take (i := 2) (v := ?_) rfl (by kernel_rfl) (by kernel_rfl) (by kernel_rfl) (fun _ _ _ h => h) (Or.inl ⟨by rfl, ?_⟩) (by assumption) ?_; rotate_left
        · (intro wz hSw; obtain ⟨-, z1, z2, z3, z4, z5, z6⟩ := GoS.cells hSw; clear hSw; go_simp; first | done | with_reducible rfl)
        try simp only [Act.put, List.getElem_toArray, List.getElem_cons_zero, List.getElem_cons_succ, List.setIfInBounds_toArray, List.set_cons_zero, List.set_cons_succ]
        refine wpAnyH_take (i := 3) (v := ?_) rfl (by kernel_rfl) (by kernel_rfl) (by kernel_rfl) (fun _ _ _ h => h) (Or.inl ⟨by rfl, ?_⟩) (by assumption) ?_; rotate_left
        · (intro wz hSw; obtain ⟨-, z1, z2, z3, z4, z5, z6⟩ := GoS.cells hSw; clear hSw; go_simp; first | done | with_reducible rfl)
        try simp only [Act.put, List.getElem_toArray, List.getElem_cons_zero, List.getElem_cons_succ, List.setIfInBounds_toArray, List.set_cons_zero, List.set_cons_succ]
        refine wpAnyH_take (i := 4) (v := ?_) rfl (by kernel_rfl) (by kernel_rfl) (by kernel_rfl) (fun _ _ _ h => h) (Or.inl ⟨by rfl, ?_⟩) (by assumption) ?_; rotate_left
        · (intro wz hSw; obtain ⟨-, z1, z2, z3, z4, z5, z6⟩ := GoS.cells hSw; clear hSw; go_simp; first | done | with_reducible rfl)
        try simp only [Act.put, List.getElem_toArray, List.getElem_cons_zero, List.getElem_cons_succ, List.setIfInBounds_toArray, List.set_cons_zero, List.set_cons_succ]
        refine wpAnyH_take (i := 5) (v := ?_) rfl (by kernel_rfl) (by kernel_rfl) (by kernel_rfl) (fun _ _ _ h => h) (Or.inl ⟨by rfl, ?_⟩) (by assumption) ?_; rotate_left
        · (intro wz hSw; obtain ⟨-, z1, z2, z3, z4, z5, z6⟩ := GoS.cells hSw; clear hSw; go_simp; first | done | with_reducible rfl)
        try simp only [Act.put, List.getElem_toArray, List.getElem_cons_zero, List.getElem_cons_succ, List.setIfInBounds_toArray, List.set_cons_zero, List.set_cons_succ]
        refine wpAnyH_ready (rs := [6, 10]) (by kernel_rfl) (by simp) ?_
        refine AllReadyH.cons rfl (fun K hK => ?_) ?_
        · rw [if_pos (by rfl)]
          go_simp
          go_at_call 98
          refine (HLP.out _ (HAT0.out.below hHeld.bel)).mono ?_
          rintro r x6 ⟨v6, rfl, ho6, hb6⟩
          obtain ⟨ov, cv, hv6⟩ := own_form3 ho6
          subst hv6
          have HO6 := hide (own_base ho6 hHeld.bel.size)
          clear ho6
          try go_simp
          refine hK.out _ _ ?_ (fun hHeld => ?_)
          · exact GoS.call hHeld hb6
          clear hK K
          try simp only [Act.put, List.getElem_toArray, List.getElem_cons_zero, List.getElem_cons_succ, List.setIfInBounds_toArray, List.set_cons_zero, List.set_cons_succ]
          clear hb6
          refine wpAnyH_take (i := 7) (v := ?_) rfl (by kernel_rfl) (by kernel_rfl) (by kernel_rfl) (fun _ _ _ h => h) (Or.inl ⟨by rfl, ?_⟩) (by assumption) ?_; rotate_left
          · (intro wz hSw; obtain ⟨-, z1, z2, z3, z4, z5, z6⟩ := GoS.cells hSw; clear hSw; go_simp; first | done | with_reducible rfl)
          try simp only [Act.put, List.getElem_toArray, List.getElem_cons_zero, List.getElem_cons_succ, List.setIfInBounds_toArray, List.set_cons_zero, List.set_cons_succ]
          refine wpAnyH_take (i := 8) (v := ?_) rfl (by kernel_rfl) (by kernel_rfl) (by kernel_rfl) (fun _ _ _ h => h) (Or.inl ⟨by rfl, ?_⟩) (by assumption) ?_; rotate_left
          · (intro wz hSw; obtain ⟨-, z1, z2, z3, z4, z5, z6⟩ := GoS.cells hSw; clear hSw; go_simp; first | done | with_reducible rfl)
          try simp only [Act.put, List.getElem_toArray, List.getElem_cons_zero, List.getElem_cons_succ, List.setIfInBounds_toArray, List.set_cons_zero, List.set_cons_succ]
          refine wpAnyH_take (i := 9) (v := ?_) rfl (by kernel_rfl) (by kernel_rfl) (by kernel_rfl) (fun _ _ _ h => h) (Or.inl ⟨by rfl, ?_⟩) (by assumption) ?_; rotate_left
          · (intro wz hSw; obtain ⟨-, z1, z2, z3, z4, z5, z6⟩ := GoS.cells hSw; clear hSw; go_simp; first | done | with_reducible rfl)
          try simp only [Act.put, List.getElem_toArray, List.getElem_cons_zero, List.getElem_cons_succ, List.setIfInBounds_toArray, List.set_cons_zero, List.set_cons_succ]
          refine wpAnyH_ready (rs := [10]) (by kernel_rfl) (by simp) ?_
          refine AllReadyH.cons rfl (fun K hK => ?_) ?_
          · have HG := hide (heap_alloc_new x6 (.cells #[Value.int IntKind.i64 0, Value.int IntKind.i64 0, Value.slice none 0 0] 28))
            have hgl := hHeld.bel.size
            have HO6a := hide (HO6.out.alloc (.cells #[Value.int IntKind.i64 0, Value.int IntKind.i64 0, Value.slice none 0 0] 28))
            clear HO6
            rw [if_pos (by rfl)]
            go_simp
            refine hK.out _ _ ?_ (fun hHeld => ?_)
            · exact GoS.call hHeld ((Below.refl _ _).alloc (Nat.le_refl _) _)
            clear hK K
            try simp only [Act.put, List.getElem_toArray, List.getElem_cons_zero, List.getElem_cons_succ, List.setIfInBounds_toArray, List.set_cons_zero, List.set_cons_succ]
            have HO6 := hide HO6a.out
            clear HO6a
            generalize x6.alloc (Obj.cells #[Value.int IntKind.i64 0, Value.int IntKind.i64 0, Value.slice none 0 0] 28) = x10 at HG hHeld HO6 ⊢
            obtain ⟨g10, hg10⟩ : ∃ g, x6.heap.size = g := ⟨_, rfl⟩
            rw [hg10] at HG ⊢
            have hgl2 : x0.heap.size ≤ g10 := by rw [← hg10]; exact hgl
            clear hgl hg10
            have hgl := hgl2
            clear hgl2
            refine wpAnyH_ready (rs := [11]) (by kernel_rfl) (by simp) ?_
            refine AllReadyH.cons rfl (fun K hK => ?_) ?_
            · have q0 := blk_cell HG.out 0 rfl
              have q1 := blk_cell HG.out 1 rfl
              have q2 := blk_cell HG.out 2 rfl
              have f0 := blk_free HG.out 0
              have f1 := blk_free HG.out 1
              have f2 := blk_free HG.out 2
              simp only [List.getElem_toArray, List.getElem_cons_zero, List.getElem_cons_succ] at q0 q1 q2
              have HST := hide (logSt_of x10 g10 HG.out j.s j.u (.slice ov YS.length cv) HO6.out)
              rw [if_pos (by rfl)]
              go_simp
              refine hK.out _ _ ?_ (fun hHeld => ?_)
              · exact GoS.grown hHeld HST.out.2.2 hgl
              clear hK K
              try simp only [Act.put, List.getElem_toArray, List.getElem_cons_zero, List.getElem_cons_succ, List.setIfInBounds_toArray, List.set_cons_zero, List.set_cons_succ]
              clear q0 q1 q2 f0 f1 f2
              refine wpAnyH_take (i := 12) (v := ?_) rfl (by kernel_rfl) (by kernel_rfl) (by kernel_rfl) (fun _ _ _ h => h) (Or.inl ⟨by rfl, ?_⟩) (by assumption) ?_; rotate_left
              · (intro wz hSw; obtain ⟨-, z1, z2, z3, z4, z5, z6⟩ := GoS.cells hSw; clear hSw; go_simp; first | done | with_reducible rfl)
              try simp only [Act.put, List.getElem_toArray, List.getElem_cons_zero, List.getElem_cons_succ, List.setIfInBounds_toArray, List.set_cons_zero, List.set_cons_succ]
              refine wpAnyH_done (by kernel_rfl) ?_ _
              generalize (((x10.setCell ⟨g10, 0, none⟩ (Value.int IntKind.i64 j.s)).setCell ⟨g10, 1, none⟩ (Value.int IntKind.i64 j.u)).setCell ⟨g10, 2, none⟩ (Value.slice ov YS.length cv)) = xz at HST hHeld ⊢
              have HOZ := hide HST.out.2.1
              obtain ⟨l0, l1, l2⟩ := HST.out.1
              have HJZ := hide hHeld.jb
              have HBZ := hide (HB0.out.trans (hHeld.bel.mono HB0.out.size))
              have c3 := hHeld.jb.jv.c3
              have c4 := hHeld.jb.jv.c4
              have c5 := hHeld.jb.jv.c5
              have f3 := hHeld.jb.free 3
              have f4 := hHeld.jb.free 4
              have f5 := hHeld.jb.free 5
              clear hHeld HST HO6 HG
              have HL := hide (HJZ.out.log j.s j.u (.slice ov YS.length cv))
              go_wp2_with fail
              refine bodyPost_ret (v := .bool true) (by simp [results, Tryz.results79, go_sem]) rfl ?_
              unfold GoPost jnNext
              rw [HM.out]
              exact ⟨rfl, ⟨_, HL.out.1, own_keptb (own_base HOZ.out hB0) HL.out.2 hbB⟩, grown_trans (grown_below HBZ.out) HL.out.2⟩
            exact AllReadyH.nil
          exact AllReadyH.nil
        refine AllReadyH.cons rfl (fun K hK => ?_) ?_
        · have HG := hide (heap_alloc_new xd (.cells #[Value.int IntKind.i64 0, Value.int IntKind.i64 0, Value.slice none 0 0] 28))
          have hgl := hHeld.bel.size
          rw [if_pos (by rfl)]
          go_simp
          refine hK.out _ _ ?_ (fun hHeld => ?_)
          · exact GoS.call hHeld ((Below.refl _ _).alloc (Nat.le_refl _) _)
          clear hK K
          try simp only [Act.put, List.getElem_toArray, List.getElem_cons_zero, List.getElem_cons_succ, List.setIfInBounds_toArray, List.set_cons_zero, List.set_cons_succ]
          generalize xd.alloc (Obj.cells #[Value.int IntKind.i64 0, Value.int IntKind.i64 0, Value.slice none 0 0] 28) = x10 at HG hHeld ⊢
          obtain ⟨g10, hg10⟩ : ∃ g, xd.heap.size = g := ⟨_, rfl⟩
          rw [hg10] at HG ⊢
          have hgl2 : x0.heap.size ≤ g10 := by rw [← hg10]; exact hgl
          clear hgl hg10
          have hgl := hgl2
          clear hgl2
          refine wpAnyH_ready (rs := [6]) (by kernel_rfl) (by simp) ?_
          refine AllReadyH.cons rfl (fun K hK => ?_) ?_
          · rw [if_pos (by rfl)]
            go_simp
            go_at_call 98
            refine (HLP.out _ (HAT0.out.below hHeld.bel)).mono ?_
            rintro r x6 ⟨v6, rfl, ho6, hb6⟩
            obtain ⟨ov, cv, hv6⟩ := own_form3 ho6
            subst hv6
            have HG6 := hide ((hb6.block g10 (blk_lt HG.out)).trans HG.out)
            clear HG
            have HO6 := hide (own_base ho6 hHeld.bel.size)
            clear ho6
            try go_simp
            refine hK.out _ _ ?_ (fun hHeld => ?_)
            · exact GoS.call hHeld hb6
            clear hK K
            try simp only [Act.put, List.getElem_toArray, List.getElem_cons_zero, List.getElem_cons_succ, List.setIfInBounds_toArray, List.set_cons_zero, List.set_cons_succ]
            clear hb6
            have HG := hide HG6.out
            clear HG6
            refine wpAnyH_take (i := 7) (v := ?_) rfl (by kernel_rfl) (by kernel_rfl) (by kernel_rfl) (fun _ _ _ h => h) (Or.inl ⟨by rfl, ?_⟩) (by assumption) ?_; rotate_left
            · (intro wz hSw; obtain ⟨-, z1, z2, z3, z4, z5, z6⟩ := GoS.cells hSw; clear hSw; go_simp; first | done | with_reducible rfl)
            try simp only [Act.put, List.getElem_toArray, List.getElem_cons_zero, List.getElem_cons_succ, List.setIfInBounds_toArray, List.set_cons_zero, List.set_cons_succ]
            refine wpAnyH_take (i := 8) (v := ?_) rfl (by kernel_rfl) (by kernel_rfl) (by kernel_rfl) (fun _ _ _ h => h) (Or.inl ⟨by rfl, ?_⟩) (by assumption) ?_; rotate_left
            · (intro wz hSw; obtain ⟨-, z1, z2, z3, z4, z5, z6⟩ := GoS.cells hSw; clear hSw; go_simp; first | done | with_reducible rfl)
            try simp only [Act.put, List.getElem_toArray, List.getElem_cons_zero, List.getElem_cons_succ, List.setIfInBounds_toArray, List.set_cons_zero, List.set_cons_succ]
            refine wpAnyH_take (i := 9) (v := ?_) rfl (by kernel_rfl) (by kernel_rfl) (by kernel_rfl) (fun _ _ _ h => h) (Or.inl ⟨by rfl, ?_⟩) (by assumption) ?_; rotate_left
            · (intro wz hSw; obtain ⟨-, z1, z2, z3, z4, z5, z6⟩ := GoS.cells hSw; clear hSw; go_simp; first | done | with_reducible rfl)
            try simp only [Act.put, List.getElem_toArray, List.getElem_cons_zero, List.getElem_cons_succ, List.setIfInBounds_toArray, List.set_cons_zero, List.set_cons_succ]
            refine wpAnyH_ready (rs := [11]) (by kernel_rfl) (by simp) ?_
            refine AllReadyH.cons rfl (fun K hK => ?_) ?_
            · have q0 := blk_cell HG.out 0 rfl
              have q1 := blk_cell HG.out 1 rfl
              have q2 := blk_cell HG.out 2 rfl
              have f0 := blk_free HG.out 0
              have f1 := blk_free HG.out 1
              have f2 := blk_free HG.out 2
              simp only [List.getElem_toArray, List.getElem_cons_zero, List.getElem_cons_succ] at q0 q1 q2
              have HST := hide (logSt_of x6 g10 HG.out j.s j.u (.slice ov YS.length cv) HO6.out)
              rw [if_pos (by rfl)]
              go_simp
              refine hK.out _ _ ?_ (fun hHeld => ?_)
              · exact GoS.grown hHeld HST.out.2.2 hgl
              clear hK K
              try simp only [Act.put, List.getElem_toArray, List.getElem_cons_zero, List.getElem_cons_succ, List.setIfInBounds_toArray, List.set_cons_zero, List.set_cons_succ]
              clear q0 q1 q2 f0 f1 f2
              refine wpAnyH_take (i := 12) (v := ?_) rfl (by kernel_rfl) (by kernel_rfl) (by kernel_rfl) (fun _ _ _ h => h) (Or.inl ⟨by rfl, ?_⟩) (by assumption) ?_; rotate_left
              · (intro wz hSw; obtain ⟨-, z1, z2, z3, z4, z5, z6⟩ := GoS.cells hSw; clear hSw; go_simp; first | done | with_reducible rfl)
              try simp only [Act.put, List.getElem_toArray, List.getElem_cons_zero, List.getElem_cons_succ, List.setIfInBounds_toArray, List.set_cons_zero, List.set_cons_succ]
              refine wpAnyH_done (by kernel_rfl) ?_ _
              generalize (((x6.setCell ⟨g10, 0, none⟩ (Value.int IntKind.i64 j.s)).setCell ⟨g10, 1, none⟩ (Value.int IntKind.i64 j.u)).setCell ⟨g10, 2, none⟩ (Value.slice ov YS.length cv)) = xz at HST hHeld ⊢
              have HOZ := hide HST.out.2.1
              obtain ⟨l0, l1, l2⟩ := HST.out.1
              have HJZ := hide hHeld.jb
              have HBZ := hide (HB0.out.trans (hHeld.bel.mono HB0.out.size))
              have c3 := hHeld.jb.jv.c3
              have c4 := hHeld.jb.jv.c4
              have c5 := hHeld.jb.jv.c5
              have f3 := hHeld.jb.free 3
              have f4 := hHeld.jb.free 4
              have f5 := hHeld.jb.free 5
              clear hHeld HST HO6 HG
              have HL := hide (HJZ.out.log j.s j.u (.slice ov YS.length cv))
              go_wp2_with fail
              refine bodyPost_ret (v := .bool true) (by simp [results, Tryz.results79, go_sem]) rfl ?_
              unfold GoPost jnNext
              rw [HM.out]
              exact ⟨rfl, ⟨_, HL.out.1, own_keptb (own_base HOZ.out hB0) HL.out.2 hbB⟩, grown_trans (grown_below HBZ.out) HL.out.2⟩
            exact AllReadyH.nil
          exact AllReadyH.nil
        exact AllReadyH.nil
      | false =>
        have HM := hide (show jnMore j (bl s) = none by rw [hMo]; unfold jnEntry; rw [hre]; simp only; rw [if_neg (by rw [hpo]; decide)])
        rw [show putR j.s j.u j.es i ⟨t, k, ⟨d.toArray⟩⟩ = (0, 0, [], false) by unfold putR; rw [if_neg (by rw [hpo]; decide)]] at HLP
        obtain ⟨D, hD⟩ : ∃ D : ByteArray, (⟨d.toArray⟩ : ByteArray) = D := ⟨_, rfl⟩
        rw [hD] at HLP HRE
        obtain ⟨YS, hYS⟩ : ∃ YS : List EntV, YS = [] := ⟨_, rfl⟩
        rw [← hYS] at HLP
        have HJ := hide hJ
        have HO := hide hO
        have HAT := hide hat
        clear hp hJ hO hat hMo hre hpo hw hdl hD hYS
        go_enter Tryz.func79, Tryz.ntmps79
        go_wp2_with fail
        refine HR.out.mono ?_
        rintro r w' ⟨rfl, rfl⟩
        go_wp2_with fail
        refine HRE.out.mono ?_
        rintro r w1 ⟨rfl, hb1⟩
        have HB0 := hide (hb1.alloc hb1.size (.cells #[.int .i64 (t : Int), .int .i64 (k : Int), .string D] 111))
        have HEB := hide (heap_alloc_new w1 (.cells #[.int .i64 (t : Int), .int .i64 (k : Int), .string D] 111))
        have hx0 : (w1.alloc (.cells #[.int .i64 (t : Int), .int .i64 (k : Int), .string D] 111)).heap.size = w1.heap.size + 1 := by simp
        have hs1 := hb1.size
        clear hb1
        go_wp2_with fail
        generalize w1.alloc (Obj.cells #[Value.int IntKind.i64 (t : Int), Value.int IntKind.i64 (k : Int), Value.string D] 111) = x0 at HB0 HEB hx0 ⊢
        have hb0 : b < x0.heap.size := by omega
        have hB0 : B ≤ x0.heap.size := by omega
        have HS := hide (GoS.mk (e := ⟨t, k, D⟩) (Below.refl x0.heap.size x0) (HJ.out.on HB0.out hbw) HEB.out hb0 (by omega))
        have HAT0 := hide (HAT.out.below HB0.out)
        clear hx0 HEB HAT
        refine wp_region_held_drew (S := GoS x0 b w1.heap.size j.number j.term j.vote j.s j.u (.slice oa j.es.length cap) ⟨t, k, D⟩) (by kernel_rfl) (HS.out.call (Below.refl _ _).drew) (fun hHeld => ?_)
        clear HS
        generalize x0.drew = xd at hHeld ⊢
        refine wpAnyH_take (i := 0) (v := ?_) rfl (by kernel_rfl) (by kernel_rfl) (by kernel_rfl) (fun _ _ _ h => h) (Or.inl ⟨by rfl, ?_⟩) (by assumption) ?_; rotate_left
        · (intro wz hSw; obtain ⟨-, z1, z2, z3, z4, z5, z6⟩ := GoS.cells hSw; clear hSw; go_simp; first | done | with_reducible rfl)
        try simp only [Act.put, List.getElem_toArray, List.getElem_cons_zero, List.getElem_cons_succ, List.setIfInBounds_toArray, List.set_cons_zero, List.set_cons_succ]
        refine wpAnyH_take (i := 1) (v := ?_) rfl (by kernel_rfl) (by kernel_rfl) (by kernel_rfl) (fun _ _ _ h => h) (Or.inl ⟨by rfl, ?_⟩) (by assumption) ?_; rotate_left
        · (intro wz hSw; obtain ⟨-, z1, z2, z3, z4, z5, z6⟩ := GoS.cells hSw; clear hSw; go_simp; first | done | with_reducible rfl)
        try simp only [Act.put, List.getElem_toArray, List.getElem_cons_zero, List.getElem_cons_succ, List.setIfInBounds_toArray, List.set_cons_zero, List.set_cons_succ]
        refine wpAnyH_take (i := 2) (v := ?_) rfl (by kernel_rfl) (by kernel_rfl) (by kernel_rfl) (fun _ _ _ h => h) (Or.inl ⟨by rfl, ?_⟩) (by assumption) ?_; rotate_left
        · (intro wz hSw; obtain ⟨-, z1, z2, z3, z4, z5, z6⟩ := GoS.cells hSw; clear hSw; go_simp; first | done | with_reducible rfl)
        try simp only [Act.put, List.getElem_toArray, List.getElem_cons_zero, List.getElem_cons_succ, List.setIfInBounds_toArray, List.set_cons_zero, List.set_cons_succ]
        refine wpAnyH_take (i := 3) (v := ?_) rfl (by kernel_rfl) (by kernel_rfl) (by kernel_rfl) (fun _ _ _ h => h) (Or.inl ⟨by rfl, ?_⟩) (by assumption) ?_; rotate_left
        · (intro wz hSw; obtain ⟨-, z1, z2, z3, z4, z5, z6⟩ := GoS.cells hSw; clear hSw; go_simp; first | done | with_reducible rfl)
        try simp only [Act.put, List.getElem_toArray, List.getElem_cons_zero, List.getElem_cons_succ, List.setIfInBounds_toArray, List.set_cons_zero, List.set_cons_succ]
        refine wpAnyH_take (i := 4) (v := ?_) rfl (by kernel_rfl) (by kernel_rfl) (by kernel_rfl) (fun _ _ _ h => h) (Or.inl ⟨by rfl, ?_⟩) (by assumption) ?_; rotate_left
        · (intro wz hSw; obtain ⟨-, z1, z2, z3, z4, z5, z6⟩ := GoS.cells hSw; clear hSw; go_simp; first | done | with_reducible rfl)
        try simp only [Act.put, List.getElem_toArray, List.getElem_cons_zero, List.getElem_cons_succ, List.setIfInBounds_toArray, List.set_cons_zero, List.set_cons_succ]
        refine wpAnyH_take (i := 5) (v := ?_) rfl (by kernel_rfl) (by kernel_rfl) (by kernel_rfl) (fun _ _ _ h => h) (Or.inl ⟨by rfl, ?_⟩) (by assumption) ?_; rotate_left
        · (intro wz hSw; obtain ⟨-, z1, z2, z3, z4, z5, z6⟩ := GoS.cells hSw; clear hSw; go_simp; first | done | with_reducible rfl)
        try simp only [Act.put, List.getElem_toArray, List.getElem_cons_zero, List.getElem_cons_succ, List.setIfInBounds_toArray, List.set_cons_zero, List.set_cons_succ]
        refine wpAnyH_ready (rs := [6, 10]) (by kernel_rfl) (by simp) ?_
        refine AllReadyH.cons rfl (fun K hK => ?_) ?_
        · rw [if_pos (by rfl)]
          go_simp
          go_at_call 98
          refine (HLP.out _ (HAT0.out.below hHeld.bel)).mono ?_
          rintro r x6 ⟨v6, rfl, ho6, hb6⟩
          obtain ⟨ov, cv, hv6⟩ := own_form3 ho6
          subst hv6
          have HO6 := hide (own_base ho6 hHeld.bel.size)
          clear ho6
          try go_simp
          refine hK.out _ _ ?_ (fun hHeld => ?_)
          · exact GoS.call hHeld hb6
          clear hK K
          try simp only [Act.put, List.getElem_toArray, List.getElem_cons_zero, List.getElem_cons_succ, List.setIfInBounds_toArray, List.set_cons_zero, List.set_cons_succ]
          clear hb6
          refine wpAnyH_take (i := 7) (v := ?_) rfl (by kernel_rfl) (by kernel_rfl) (by kernel_rfl) (fun _ _ _ h => h) (Or.inl ⟨by rfl, ?_⟩) (by assumption) ?_; rotate_left
          · (intro wz hSw; obtain ⟨-, z1, z2, z3, z4, z5, z6⟩ := GoS.cells hSw; clear hSw; go_simp; first | done | with_reducible rfl)
          try simp only [Act.put, List.getElem_toArray, List.getElem_cons_zero, List.getElem_cons_succ, List.setIfInBounds_toArray, List.set_cons_zero, List.set_cons_succ]
          refine wpAnyH_take (i := 8) (v := ?_) rfl (by kernel_rfl) (by kernel_rfl) (by kernel_rfl) (fun _ _ _ h => h) (Or.inl ⟨by rfl, ?_⟩) (by assumption) ?_; rotate_left
          · (intro wz hSw; obtain ⟨-, z1, z2, z3, z4, z5, z6⟩ := GoS.cells hSw; clear hSw; go_simp; first | done | with_reducible rfl)
          try simp only [Act.put, List.getElem_toArray, List.getElem_cons_zero, List.getElem_cons_succ, List.setIfInBounds_toArray, List.set_cons_zero, List.set_cons_succ]
          refine wpAnyH_take (i := 9) (v := ?_) rfl (by kernel_rfl) (by kernel_rfl) (by kernel_rfl) (fun _ _ _ h => h) (Or.inl ⟨by rfl, ?_⟩) (by assumption) ?_; rotate_left
          · (intro wz hSw; obtain ⟨-, z1, z2, z3, z4, z5, z6⟩ := GoS.cells hSw; clear hSw; go_simp; first | done | with_reducible rfl)
          try simp only [Act.put, List.getElem_toArray, List.getElem_cons_zero, List.getElem_cons_succ, List.setIfInBounds_toArray, List.set_cons_zero, List.set_cons_succ]
          refine wpAnyH_ready (rs := [10]) (by kernel_rfl) (by simp) ?_
          refine AllReadyH.cons rfl (fun K hK => ?_) ?_
          · have HG := hide (heap_alloc_new x6 (.cells #[Value.int IntKind.i64 0, Value.int IntKind.i64 0, Value.slice none 0 0] 28))
            have hgl := hHeld.bel.size
            have HO6a := hide (HO6.out.alloc (.cells #[Value.int IntKind.i64 0, Value.int IntKind.i64 0, Value.slice none 0 0] 28))
            clear HO6
            rw [if_pos (by rfl)]
            go_simp
            refine hK.out _ _ ?_ (fun hHeld => ?_)
            · exact GoS.call hHeld ((Below.refl _ _).alloc (Nat.le_refl _) _)
            clear hK K
            try simp only [Act.put, List.getElem_toArray, List.getElem_cons_zero, List.getElem_cons_succ, List.setIfInBounds_toArray, List.set_cons_zero, List.set_cons_succ]
            have HO6 := hide HO6a.out
            clear HO6a
            generalize x6.alloc (Obj.cells #[Value.int IntKind.i64 0, Value.int IntKind.i64 0, Value.slice none 0 0] 28) = x10 at HG hHeld HO6 ⊢
            obtain ⟨g10, hg10⟩ : ∃ g, x6.heap.size = g := ⟨_, rfl⟩
            rw [hg10] at HG ⊢
            have hgl2 : x0.heap.size ≤ g10 := by rw [← hg10]; exact hgl
            clear hgl hg10
            have hgl := hgl2
            clear hgl2
            refine wpAnyH_ready (rs := [11]) (by kernel_rfl) (by simp) ?_
            refine AllReadyH.cons rfl (fun K hK => ?_) ?_
            · have q0 := blk_cell HG.out 0 rfl
              have q1 := blk_cell HG.out 1 rfl
              have q2 := blk_cell HG.out 2 rfl
              have f0 := blk_free HG.out 0
              have f1 := blk_free HG.out 1
              have f2 := blk_free HG.out 2
              simp only [List.getElem_toArray, List.getElem_cons_zero, List.getElem_cons_succ] at q0 q1 q2
              have HST := hide (logSt_of x10 g10 HG.out 0 0 (.slice ov YS.length cv) HO6.out)
              rw [if_pos (by rfl)]
              go_simp
              refine hK.out _ _ ?_ (fun hHeld => ?_)
              · exact GoS.grown hHeld HST.out.2.2 hgl
              clear hK K
              try simp only [Act.put, List.getElem_toArray, List.getElem_cons_zero, List.getElem_cons_succ, List.setIfInBounds_toArray, List.set_cons_zero, List.set_cons_succ]
              clear q0 q1 q2 f0 f1 f2
              refine wpAnyH_take (i := 12) (v := ?_) rfl (by kernel_rfl) (by kernel_rfl) (by kernel_rfl) (fun _ _ _ h => h) (Or.inl ⟨by rfl, ?_⟩) (by assumption) ?_; rotate_left
              · (intro wz hSw; obtain ⟨-, z1, z2, z3, z4, z5, z6⟩ := GoS.cells hSw; clear hSw; go_simp; first | done | with_reducible rfl)
              try simp only [Act.put, List.getElem_toArray, List.getElem_cons_zero, List.getElem_cons_succ, List.setIfInBounds_toArray, List.set_cons_zero, List.set_cons_succ]
              refine wpAnyH_done (by kernel_rfl) ?_ _
              generalize (((x10.setCell ⟨g10, 0, none⟩ (Value.int IntKind.i64 0)).setCell ⟨g10, 1, none⟩ (Value.int IntKind.i64 0)).setCell ⟨g10, 2, none⟩ (Value.slice ov YS.length cv)) = xz at HST hHeld ⊢
              have HOZ := hide HST.out.2.1
              obtain ⟨l0, l1, l2⟩ := HST.out.1
              have HJZ := hide hHeld.jb
              have HBZ := hide (HB0.out.trans (hHeld.bel.mono HB0.out.size))
              have c3 := hHeld.jb.jv.c3
              have c4 := hHeld.jb.jv.c4
              have c5 := hHeld.jb.jv.c5
              have f3 := hHeld.jb.free 3
              have f4 := hHeld.jb.free 4
              have f5 := hHeld.jb.free 5
              clear hHeld HST HO6 HG
              go_wp2_with fail
              refine bodyPost_ret (v := .bool false) (by simp [results, Tryz.results79, go_sem]) rfl ?_
              unfold GoPost jnNext
              rw [HM.out]
              exact ⟨rfl, JSt.on ⟨_, HJ.out, HO.out⟩ HBZ.out, grown_below HBZ.out⟩
            exact AllReadyH.nil
          exact AllReadyH.nil
        refine AllReadyH.cons rfl (fun K hK => ?_) ?_
        · have HG := hide (heap_alloc_new xd (.cells #[Value.int IntKind.i64 0, Value.int IntKind.i64 0, Value.slice none 0 0] 28))
          have hgl := hHeld.bel.size
          rw [if_pos (by rfl)]
          go_simp
          refine hK.out _ _ ?_ (fun hHeld => ?_)
          · exact GoS.call hHeld ((Below.refl _ _).alloc (Nat.le_refl _) _)
          clear hK K
          try simp only [Act.put, List.getElem_toArray, List.getElem_cons_zero, List.getElem_cons_succ, List.setIfInBounds_toArray, List.set_cons_zero, List.set_cons_succ]
          generalize xd.alloc (Obj.cells #[Value.int IntKind.i64 0, Value.int IntKind.i64 0, Value.slice none 0 0] 28) = x10 at HG hHeld ⊢
          obtain ⟨g10, hg10⟩ : ∃ g, xd.heap.size = g := ⟨_, rfl⟩
          rw [hg10] at HG ⊢
          have hgl2 : x0.heap.size ≤ g10 := by rw [← hg10]; exact hgl
          clear hgl hg10
          have hgl := hgl2
          clear hgl2
          refine wpAnyH_ready (rs := [6]) (by kernel_rfl) (by simp) ?_
          refine AllReadyH.cons rfl (fun K hK => ?_) ?_
          · rw [if_pos (by rfl)]
            go_simp
            go_at_call 98
            refine (HLP.out _ (HAT0.out.below hHeld.bel)).mono ?_
            rintro r x6 ⟨v6, rfl, ho6, hb6⟩
            obtain ⟨ov, cv, hv6⟩ := own_form3 ho6
            subst hv6
            have HG6 := hide ((hb6.block g10 (blk_lt HG.out)).trans HG.out)
            clear HG
            have HO6 := hide (own_base ho6 hHeld.bel.size)
            clear ho6
            try go_simp
            refine hK.out _ _ ?_ (fun hHeld => ?_)
            · exact GoS.call hHeld hb6
            clear hK K
            try simp only [Act.put, List.getElem_toArray, List.getElem_cons_zero, List.getElem_cons_succ, List.setIfInBounds_toArray, List.set_cons_zero, List.set_cons_succ]
            clear hb6
            have HG := hide HG6.out
            clear HG6
            refine wpAnyH_take (i := 7) (v := ?_) rfl (by kernel_rfl) (by kernel_rfl) (by kernel_rfl) (fun _ _ _ h => h) (Or.inl ⟨by rfl, ?_⟩) (by assumption) ?_; rotate_left
            · (intro wz hSw; obtain ⟨-, z1, z2, z3, z4, z5, z6⟩ := GoS.cells hSw; clear hSw; go_simp; first | done | with_reducible rfl)
            try simp only [Act.put, List.getElem_toArray, List.getElem_cons_zero, List.getElem_cons_succ, List.setIfInBounds_toArray, List.set_cons_zero, List.set_cons_succ]
            refine wpAnyH_take (i := 8) (v := ?_) rfl (by kernel_rfl) (by kernel_rfl) (by kernel_rfl) (fun _ _ _ h => h) (Or.inl ⟨by rfl, ?_⟩) (by assumption) ?_; rotate_left
            · (intro wz hSw; obtain ⟨-, z1, z2, z3, z4, z5, z6⟩ := GoS.cells hSw; clear hSw; go_simp; first | done | with_reducible rfl)
            try simp only [Act.put, List.getElem_toArray, List.getElem_cons_zero, List.getElem_cons_succ, List.setIfInBounds_toArray, List.set_cons_zero, List.set_cons_succ]
            refine wpAnyH_take (i := 9) (v := ?_) rfl (by kernel_rfl) (by kernel_rfl) (by kernel_rfl) (fun _ _ _ h => h) (Or.inl ⟨by rfl, ?_⟩) (by assumption) ?_; rotate_left
            · (intro wz hSw; obtain ⟨-, z1, z2, z3, z4, z5, z6⟩ := GoS.cells hSw; clear hSw; go_simp; first | done | with_reducible rfl)
            try simp only [Act.put, List.getElem_toArray, List.getElem_cons_zero, List.getElem_cons_succ, List.setIfInBounds_toArray, List.set_cons_zero, List.set_cons_succ]
            refine wpAnyH_ready (rs := [11]) (by kernel_rfl) (by simp) ?_
            refine AllReadyH.cons rfl (fun K hK => ?_) ?_
            · have q0 := blk_cell HG.out 0 rfl
              have q1 := blk_cell HG.out 1 rfl
              have q2 := blk_cell HG.out 2 rfl
              have f0 := blk_free HG.out 0
              have f1 := blk_free HG.out 1
              have f2 := blk_free HG.out 2
              simp only [List.getElem_toArray, List.getElem_cons_zero, List.getElem_cons_succ] at q0 q1 q2
              have HST := hide (logSt_of x6 g10 HG.out 0 0 (.slice ov YS.length cv) HO6.out)
              rw [if_pos (by rfl)]
              go_simp
              refine hK.out _ _ ?_ (fun hHeld => ?_)
              · exact GoS.grown hHeld HST.out.2.2 hgl
              clear hK K
              try simp only [Act.put, List.getElem_toArray, List.getElem_cons_zero, List.getElem_cons_succ, List.setIfInBounds_toArray, List.set_cons_zero, List.set_cons_succ]
              clear q0 q1 q2 f0 f1 f2
              refine wpAnyH_take (i := 12) (v := ?_) rfl (by kernel_rfl) (by kernel_rfl) (by kernel_rfl) (fun _ _ _ h => h) (Or.inl ⟨by rfl, ?_⟩) (by assumption) ?_; rotate_left
              · (intro wz hSw; obtain ⟨-, z1, z2, z3, z4, z5, z6⟩ := GoS.cells hSw; clear hSw; go_simp; first | done | with_reducible rfl)
              try simp only [Act.put, List.getElem_toArray, List.getElem_cons_zero, List.getElem_cons_succ, List.setIfInBounds_toArray, List.set_cons_zero, List.set_cons_succ]
              refine wpAnyH_done (by kernel_rfl) ?_ _
              generalize (((x6.setCell ⟨g10, 0, none⟩ (Value.int IntKind.i64 0)).setCell ⟨g10, 1, none⟩ (Value.int IntKind.i64 0)).setCell ⟨g10, 2, none⟩ (Value.slice ov YS.length cv)) = xz at HST hHeld ⊢
              have HOZ := hide HST.out.2.1
              obtain ⟨l0, l1, l2⟩ := HST.out.1
              have HJZ := hide hHeld.jb
              have HBZ := hide (HB0.out.trans (hHeld.bel.mono HB0.out.size))
              have c3 := hHeld.jb.jv.c3
              have c4 := hHeld.jb.jv.c4
              have c5 := hHeld.jb.jv.c5
              have f3 := hHeld.jb.free 3
              have f4 := hHeld.jb.free 4
              have f5 := hHeld.jb.free 5
              clear hHeld HST HO6 HG
              go_wp2_with fail
              refine bodyPost_ret (v := .bool false) (by simp [results, Tryz.results79, go_sem]) rfl ?_
              unfold GoPost jnNext
              rw [HM.out]
              exact ⟨rfl, JSt.on ⟨_, HJ.out, HO.out⟩ HBZ.out, grown_below HBZ.out⟩
            exact AllReadyH.nil
          exact AllReadyH.nil
        exact AllReadyH.nil

end Go.Proofs.YthbgklmnmoclhaaGreatDoor
