/-
  The law FnExactLogPut: its walk (made by wip/tools/gen6k.py).
-/
import Derived.Test.YtboahofacjdppaaLawLogBehind
import Derived.Test.YtboahofacjdppaaWalk6f
import Derived.Test.YtboahofacjdppaaWalk6g
namespace Go.Proofs.Ytboahofacjdppaa
open Go.RowKit P1 P9 K
attribute [local go_sem ↓] Go.wp_at_zero Go.wp_at_succ
set_option linter.unusedVariables false
set_option linter.unusedSimpArgs false

theorem putR_len (s u : Int) (es : List EntV) (ix : Int) (e : EntV) : (putR s u es ix e).2.2.1.length ≤ 60 := by
  unfold putR
  split
  · rename_i h
    unfold putOk at h
    simp only [Bool.and_eq_true] at h
    exact (lgOk_hd h.2.2).2.2.2.2.1
  · simp

/-- The law's arguments stand where they were laid. -/
structure PF (w : World) (s u : Int) (v : Value) (e : EntV) (wr : World) : Prop where
  bel : Below w.heap.size w wr
  ka : KA wr w.heap.size s u v
  ke : wr.heap[w.heap.size + 1]? = some (.cells #[.int .i64 e.term, .int .i64 e.kind, .string e.data] 38 (0, 0))

section
variable {w : World} {s u : Int} {v : Value} {e : EntV} {wr w' : World}
theorem PF.on (h : PF w s u v e wr) (hb : Below wr.heap.size wr w') : PF w s u v e w' :=
  ⟨h.bel.trans (hb.mono h.bel.size), h.ka.on hb, (hb.block _ (blk_lt h.ke)).trans h.ke⟩
theorem PF.kept {base2 : Nat} {v2 : Value} {n2 : Nat} {xs2 : List Value} (h : PF w s u v e wr) (hb : w.heap.size ≤ base2) (ho : wr.ownsRow base2 42 3 v2 n2 xs2) (hg : wr.grownBy w' v2.ownBlock) : PF w s u v e w' := by
  refine ⟨below_row h.bel h.bel.size hb ho hg, h.ka.kept ho hg, (hg.block _ (blk_lt h.ke) (fun e1 => ?_)).trans h.ke⟩
  rcases ho.2 with ⟨rfl, -⟩ | ⟨g, cap, cur, rfl, -, hgb, -⟩
  · cases e1
  · cases e1
    have k := h.ke
    rw [hgb] at k
    cases k
theorem PF.cells (h : PF w s u v e wr) : wr.cell? ⟨w.heap.size, 0, none⟩ = some (.int .i64 s) ∧ wr.cell? ⟨w.heap.size, 1, none⟩ = some (.int .i64 u) ∧ wr.cell? ⟨w.heap.size, 2, none⟩ = some v ∧ wr.cell? ⟨w.heap.size + 1, 0, none⟩ = some (.int .i64 e.term) ∧ wr.cell? ⟨w.heap.size + 1, 1, none⟩ = some (.int .i64 e.kind) ∧ wr.cell? ⟨w.heap.size + 1, 2, none⟩ = some (.string e.data) :=
  ⟨h.ka.lv.c0, h.ka.lv.c1, h.ka.lv.c2, blk_cell h.ke 0 rfl, blk_cell h.ke 1 rfl, blk_cell h.ke 2 rfl⟩
end

section
variable {W : World} {e : EntV} {xs ys : List EntV} {o4 : Option Nat} {o13 : Option Value} {o15 : Option Nat} {o18 : Option Nat} {w : World}
theorem PuSt.give {v : Value} (h : PuSt W e xs ys o4 o13 o15 none o18 w) (ho : w.ownsRow W.heap.size 42 3 v ys.length (ys.flatMap ecells)) : PuSt W e xs ys o4 o13 o15 (some v) o18 w :=
  ⟨h.bel, h.h4, h.h13, h.h15, fun v' hv => by cases hv; exact ho, h.h18⟩

/-- The answer's log stored into its variable. -/
theorem PuSt.storedK {v : Value} {b : Nat} {s u : Int} (h : PuSt W e xs ys none none none (some v) (some b) w) :
    Below W.heap.size W (((w.setCell ⟨b, 0, none⟩ (.int .i64 s)).setCell ⟨b, 1, none⟩ (.int .i64 u)).setCell ⟨b, 2, none⟩ v) ∧
    KL (((w.setCell ⟨b, 0, none⟩ (.int .i64 s)).setCell ⟨b, 1, none⟩ (.int .i64 u)).setCell ⟨b, 2, none⟩ v) b W.heap.size s u v ys.length ys := by
  have k := h.h18 b rfl
  have h3 := h.stored (s := s) (u := u)
  refine ⟨h3.1, ⟨?_, h3.2.2⟩⟩
  have k0 := blk_set (k := 0) (.int .i64 s) k.2
  have k1 := blk_set (k := 1) (.int .i64 u) k0
  have k2 := blk_set (k := 2) v k1
  simpa using k2
end

/-- The code behind the first region, whatever the other slots hold. -/
def Cont8 (s u : Int) (oa : Option Addr) (n cap : Nat) (ix : Int) (e : EntV) (rs ru : Int) (RS : List EntV) (rb : Bool) (w : World) (K : Act → World → Prop) : Prop :=
  ∀ (b8 B8 : Nat) (oW : Option Addr) (cW : Nat) (wr : World), PF w s u (.slice oa n cap) e wr → w.heap.size ≤ B8 → KL wr b8 B8 rs ru (.slice oW RS.length cW) RS.length RS → ∀ (v2 v4 v7 v10 v11 v12 v13 v14 v15 v16 v17 v18 v19 v20 v21 v22 v23 v24 v25 v26 v27 v28 v29 v30 v31 v32 v33 v34 v35 v36 v37 v38 v39 v40 v41 v42 v43 v44 v45 v46 v47 v48 v49 v50 v51 v52 v53 v54 v55 v56 v57 v58 v59 v60 v61 v62 v63 v64 v65 v66 v67 v68 v69 v70 v71 v72 v73 v74 v75 v76 v77 v78 v79 v80 v81 v82 v83 v84 v85 v86 v87 v88 v89 v90 v91 v92 v93 v94 v95 v96 v97 v98 v99 v100 v101 v102 v103 v104 v105 v106 v107 v108 v109 v110 v111 v112 v113 : Value), K { tmps := (.agg #[.int .i64 s, .int .i64 u, .slice oa n cap] :: .int .i64 ix :: v2 :: .pointer (some ⟨w.heap.size, 0, none⟩) :: v4 :: .pointer (some ⟨w.heap.size + 1, 0, none⟩) :: .bool false :: v7 :: .pointer (some ⟨b8, 0, none⟩) :: .bool rb :: v10 :: v11 :: v12 :: v13 :: v14 :: v15 :: v16 :: v17 :: v18 :: v19 :: v20 :: v21 :: v22 :: v23 :: v24 :: v25 :: v26 :: v27 :: v28 :: v29 :: v30 :: v31 :: v32 :: v33 :: v34 :: v35 :: v36 :: v37 :: v38 :: v39 :: v40 :: v41 :: v42 :: v43 :: v44 :: v45 :: v46 :: v47 :: v48 :: v49 :: v50 :: v51 :: v52 :: v53 :: v54 :: v55 :: v56 :: v57 :: v58 :: v59 :: v60 :: v61 :: v62 :: v63 :: v64 :: v65 :: v66 :: v67 :: v68 :: v69 :: v70 :: v71 :: v72 :: v73 :: v74 :: v75 :: v76 :: v77 :: v78 :: v79 :: v80 :: v81 :: v82 :: v83 :: v84 :: v85 :: v86 :: v87 :: v88 :: v89 :: v90 :: v91 :: v92 :: v93 :: v94 :: v95 :: v96 :: v97 :: v98 :: v99 :: v100 :: v101 :: v102 :: v103 :: v104 :: v105 :: v106 :: v107 :: v108 :: v109 :: v110 :: v111 :: v112 :: v113 :: []).toArray, defers := [] } wr

/-- The code behind the second one. -/
def Cont10 (s u : Int) (oa : Option Addr) (n cap : Nat) (ix : Int) (e : EntV) (es : List EntV) (rs ru : Int) (RS : List EntV) (rb : Bool) (w : World) (b8 B8 : Nat) (oW : Option Addr) (cW b10 B10 gX B11 : Nat) (K : Act → World → Prop) : Prop :=
  ∀ (b11 : Nat) (oG : Option Addr) (cG : Nat) (wr : World), PF w s u (.slice oa n cap) e wr → KL wr b8 B8 rs ru (.slice oW RS.length cW) RS.length RS → KL wr b10 B10 s u (.slice (some ⟨gX, 0, none⟩) n n) n es → KL wr b11 B11 rs ru (.slice oG RS.length cG) RS.length RS → ∀ (v2 v4 v7 v13 v14 v15 v16 v17 v18 v19 v20 v21 v22 v23 v24 v25 v26 v27 v28 v29 v30 v31 v32 v33 v34 v35 v36 v37 v38 v39 v40 v41 v42 v43 v44 v45 v46 v47 v48 v49 v50 v51 v52 v53 v54 v55 v56 v57 v58 v59 v60 v61 v62 v63 v64 v65 v66 v67 v68 v69 v70 v71 v72 v73 v74 v75 v76 v77 v78 v79 v80 v81 v82 v83 v84 v85 v86 v87 v88 v89 v90 v91 v92 v93 v94 v95 v96 v97 v98 v99 v100 v101 v102 v103 v104 v105 v106 v107 v108 v109 v110 v111 v112 v113 : Value), K { tmps := (.agg #[.int .i64 s, .int .i64 u, .slice oa n cap] :: .int .i64 ix :: v2 :: .pointer (some ⟨w.heap.size, 0, none⟩) :: v4 :: .pointer (some ⟨w.heap.size + 1, 0, none⟩) :: .bool false :: v7 :: .pointer (some ⟨b8, 0, none⟩) :: .bool rb :: .pointer (some ⟨b10, 0, none⟩) :: .pointer (some ⟨b11, 0, none⟩) :: .bool rb :: v13 :: v14 :: v15 :: v16 :: v17 :: v18 :: v19 :: v20 :: v21 :: v22 :: v23 :: v24 :: v25 :: v26 :: v27 :: v28 :: v29 :: v30 :: v31 :: v32 :: v33 :: v34 :: v35 :: v36 :: v37 :: v38 :: v39 :: v40 :: v41 :: v42 :: v43 :: v44 :: v45 :: v46 :: v47 :: v48 :: v49 :: v50 :: v51 :: v52 :: v53 :: v54 :: v55 :: v56 :: v57 :: v58 :: v59 :: v60 :: v61 :: v62 :: v63 :: v64 :: v65 :: v66 :: v67 :: v68 :: v69 :: v70 :: v71 :: v72 :: v73 :: v74 :: v75 :: v76 :: v77 :: v78 :: v79 :: v80 :: v81 :: v82 :: v83 :: v84 :: v85 :: v86 :: v87 :: v88 :: v89 :: v90 :: v91 :: v92 :: v93 :: v94 :: v95 :: v96 :: v97 :: v98 :: v99 :: v100 :: v101 :: v102 :: v103 :: v104 :: v105 :: v106 :: v107 :: v108 :: v109 :: v110 :: v111 :: v112 :: v113 :: []).toArray, defers := [] } wr

/-- The code behind the third one. -/
def Cont27 (rs ru : Int) (RS : List EntV) (rb : Bool) (w : World) (b8 B8 : Nat) (oW : Option Addr) (cW b11 B11 : Nat) (oG : Option Addr) (cG : Nat) (K : Act → World → Prop) : Prop :=
  ∀ (b16 B16 : Nat) (oH : Option Addr) (cH : Nat) (wr : World), Below w.heap.size w wr → KL wr b8 B8 rs ru (.slice oW RS.length cW) RS.length RS → KL wr b11 B11 rs ru (.slice oG RS.length cG) RS.length (marksE 1 RS.length) → KL wr b16 B16 rs ru (.slice oH RS.length cH) RS.length RS → ∀ (v0 v1 v2 v3 v4 v5 v7 v10 v12 v13 v15 v18 v19 v20 v21 v22 v23 v24 v25 v26 v27 v28 v29 v30 v31 v32 v33 v34 v35 v36 v37 v38 v39 v40 v41 v42 v43 v44 v45 v46 v47 v48 v49 v50 v51 v52 v53 v54 v55 v56 v57 v58 v59 v60 v61 v62 v63 v64 v65 v66 v67 v68 v69 v70 v71 v72 v73 v74 v75 v76 v77 v78 v79 v80 v81 v82 v83 v84 v85 v86 v87 v88 v89 v90 v91 v92 v93 v94 v95 v96 v97 v98 v99 v100 v101 v102 v103 v104 v105 v106 v107 v108 v109 v110 v111 v112 v113 : Value), K { tmps := (v0 :: v1 :: v2 :: v3 :: v4 :: v5 :: .bool false :: v7 :: .pointer (some ⟨b8, 0, none⟩) :: .bool rb :: v10 :: .pointer (some ⟨b11, 0, none⟩) :: v12 :: v13 :: .int .i64 ((1 + 3 * RS.length : Nat) : Int) :: v15 :: .pointer (some ⟨b16, 0, none⟩) :: .bool rb :: v18 :: v19 :: v20 :: v21 :: v22 :: v23 :: v24 :: v25 :: v26 :: v27 :: v28 :: v29 :: v30 :: v31 :: v32 :: v33 :: v34 :: v35 :: v36 :: v37 :: v38 :: v39 :: v40 :: v41 :: v42 :: v43 :: v44 :: v45 :: v46 :: v47 :: v48 :: v49 :: v50 :: v51 :: v52 :: v53 :: v54 :: v55 :: v56 :: v57 :: v58 :: v59 :: v60 :: v61 :: v62 :: v63 :: v64 :: v65 :: v66 :: v67 :: v68 :: v69 :: v70 :: v71 :: v72 :: v73 :: v74 :: v75 :: v76 :: v77 :: v78 :: v79 :: v80 :: v81 :: v82 :: v83 :: v84 :: v85 :: v86 :: v87 :: v88 :: v89 :: v90 :: v91 :: v92 :: v93 :: v94 :: v95 :: v96 :: v97 :: v98 :: v99 :: v100 :: v101 :: v102 :: v103 :: v104 :: v105 :: v106 :: v107 :: v108 :: v109 :: v110 :: v111 :: v112 :: v113 :: []).toArray, defers := [] } wr

set_option maxRecDepth 100000 in
set_option maxHeartbeats 16000000 in
theorem FnExactLogPut_walk (s u : Int) (oa : Option Addr) (n cap : Nat) (es : List EntV) (ix : Int) (e : EntV) (w : World) (hat : EntsAt w oa n cap es) (hw : ∀ f ∈ es, EntWide f) (hs : (Lit.int .i64 s).wf = true) (hu : (Lit.int .i64 u).wf = true) (hix : (Lit.int .i64 ix).wf = true) (hwe : EntWide e) :
    Calls Try.prog 6 #[.agg #[.int .i64 s, .int .i64 u, .slice oa n cap], .int .i64 ix, eval e] w fun r w' => r = .returned (.bool true) ∧ Below w.heap.size w w' := by
  rw [show eval e = .agg #[.int .i64 e.term, .int .i64 e.kind, .string e.data] from rfl]
  have hb0 := ((Below.refl w.heap.size w).alloc (Nat.le_refl _) (.cells #[.int .i64 s, .int .i64 u, .slice oa n cap] 24)).alloc (by simp) (.cells #[.int .i64 e.term, .int .i64 e.kind, .string e.data] 38)
  have HSZ := hide (szLog_any s u oa n cap es _ (hat.below hb0) hw 1048576 (by omega) (by omega))
  have HP0 : Hid (PF w s u (.slice oa n cap) e ((w.alloc (.cells #[.int .i64 s, .int .i64 u, .slice oa n cap] 24)).alloc (.cells #[.int .i64 e.term, .int .i64 e.kind, .string e.data] 38))) := hide ⟨hb0, (KA.new w s u (.slice oa n cap)).on ((Below.refl _ _).alloc (Nat.le_refl _) _), blk_new2 _ _ _⟩
  have HAT := hide hat
  have hed := hwe.1
  clear hw hs hu hix hwe hb0
  by_cases c : szEs es 1048576 < 0
  · rw [if_pos c] at HSZ
    clear hat
    go_enter Try.func6, Try.ntmps6
    go_wp2_with fail
    refine HSZ.out.mono ?_
    rintro r w1 ⟨rfl, hb1⟩
    go_wp2_with fail
    go_ret
    exact ⟨rfl, (HP0.out.on hb1).bel⟩
  · have g : decide (szEs es 1048576 < 0) = false := by simpa using c
    rw [if_neg c] at HSZ
    obtain ⟨hl1, hlen, hfine⟩ := szEs_fine (Int.le_refl _) (by omega) (szEs_ge c)
    have hl0 := szEs_ge c
    have hn20 : n ≤ 1048576 := by have := hat.len; omega
    clear c
    generalize szEs es 1048576 = L at *
    have HSE := hide (szEntry_any e L hl0 hl1 hed)
    unfold eval at HSE
    go_enter Try.func6, Try.ntmps6
    go_wp2_with fail
    refine HSZ.out.mono ?_
    rintro r w1 ⟨rfl, hb1⟩
    have P1 := hide (HP0.out.on hb1)
    obtain ⟨z0, z1, z2, z3, z4, z5⟩ := P1.out.cells
    clear hb1 HP0
    go_wp2_with fail
    refine (HSE.out _).mono ?_
    rintro r w2 ⟨rfl, hb2⟩
    have P2 := hide (P1.out.on hb2)
    clear hb2 P1 z0 z1 z2 z3 z4 z5
    by_cases ce : szE e L < 0
    · have g2 : decide (szE e L < 0) = true := by simpa using ce
      go_wp2_with fail
      go_ret
      exact ⟨rfl, P2.out.bel⟩
    · have g2 : decide (szE e L < 0) = false := by simpa using ce
      have hes : e.data.size ≤ 1048576 := szE_fine (by omega) hl1
      have HTO := hide (fun w hat => toLog_any s u oa n cap es hn20 w hat)
      have HTE := hide (toEntry_any e)
      unfold eval at HTE
      obtain ⟨⟨rs, ru, RS, rb⟩, hR⟩ : ∃ R, putR s u es ix e = R := ⟨_, rfl⟩
      have hRL : RS.length ≤ 60 := by have := putR_len s u es ix e; rw [hR] at this; exact this
      have HSP : Hid (∀ oa cap w, EntsAt w oa n cap es → Calls Try.prog 19 #[lgv s u (.slice oa n cap), .int .i64 ix, .agg #[.int .i64 e.term, .int .i64 e.kind, .string e.data]] w fun r w' => ∃ v, r = .returned (.tuple #[lgv rs ru v, .bool rb]) ∧ w'.ownsRow w.heap.size 42 3 v RS.length (RS.flatMap ecells) ∧ Below w.heap.size w w') := hide (fun oa cap w hat => by
        have h := specLogPut_any s u oa n cap es ix e w hat hfine hes
        rw [hR] at h
        exact h)
      have HIM : Hid (∀ oa cap w, EntsAt w oa n cap es → Calls Try.prog 21 #[lgv s u (.slice oa n cap), .int .i64 ix, .agg #[.int .i64 e.term, .int .i64 e.kind, .string e.data]] w fun r w' => ∃ v, r = .returned (.tuple #[lgv rs ru v, .bool rb]) ∧ w'.ownsRow w.heap.size 42 3 v RS.length (RS.flatMap ecells) ∧ Below w.heap.size w w') := hide (fun oa cap w hat => by
        have h := implLogPut_any s u oa n cap es ix e w hat hfine hes
        rw [hR] at h
        exact h)
      clear hfine hlen hat hl0 hl1 hR hes ce HSZ HSE
      have l0 := blk_lt P2.out.ke
      go_wp2_with fail
      rename_i K8 h8
      have CONT8 : Hid (Cont8 s u oa n cap ix e rs ru RS rb w K8) := by
        refine hide ?_
        clear P2 l0 g2
        intro b8 B8 oW cW wr hpf hB8 hkl v2 v4 v7 v10 v11 v12 v13 v14 v15 v16 v17 v18 v19 v20 v21 v22 v23 v24 v25 v26 v27 v28 v29 v30 v31 v32 v33 v34 v35 v36 v37 v38 v39 v40 v41 v42 v43 v44 v45 v46 v47 v48 v49 v50 v51 v52 v53 v54 v55 v56 v57 v58 v59 v60 v61 v62 v63 v64 v65 v66 v67 v68 v69 v70 v71 v72 v73 v74 v75 v76 v77 v78 v79 v80 v81 v82 v83 v84 v85 v86 v87 v88 v89 v90 v91 v92 v93 v94 v95 v96 v97 v98 v99 v100 v101 v102 v103 v104 v105 v106 v107 v108 v109 v110 v111 v112 v113
        refine h8 _ _ ?_
        clear h8 K8
        have sw := hpf.bel.size
        have P3 := hide hpf
        have W3 := hide hkl
        have rW := fun g hg => (hkl.own.lt g hg).2
        clear hpf hkl
        obtain ⟨z0, z1, z2, z3, z4, z5⟩ := P3.out.cells
        go_wp2_with fail
        refine (HTO.out _ (HAT.out.below P3.out.bel)).mono ?_
        rintro r w5 ⟨gX, rfl, hoX, hb5⟩
        have P5 := hide (P3.out.on hb5)
        have W5 := hide (W3.out.on hb5)
        have rX := fun g hg => (hoX.lt g hg).2
        have s5 := hb5.size
        have HOX := hide hoX
        clear hb5 hoX z0 z1 z2 z3 z4 z5 P3 W3
        go_wp2_with fail
        have hal := (Below.refl w5.heap.size w5).alloc (Nat.le_refl _) (.cells #[.int .i64 s, .int .i64 u, .slice (some ⟨gX, 0, none⟩) n n] 29)
        have P6 := hide (P5.out.on hal)
        have W6 := hide (W5.out.on hal)
        have X6 := hide (KL.new (s := s) (u := u) HOX.out)
        have z6 : (w5.alloc (.cells #[.int .i64 s, .int .i64 u, .slice (some ⟨gX, 0, none⟩) n n] 29)).heap.size = w5.heap.size + 1 := by simp
        generalize w5.alloc (Obj.cells #[Value.int IntKind.i64 s, Value.int IntKind.i64 u, Value.slice (some ⟨gX, 0, none⟩) n n] 29) = w6 at P6 W6 X6 z6 ⊢
        clear hal P5 W5 HOX
        rename_i K10 h10
        have CONT10 : Hid (Cont10 s u oa n cap ix e es rs ru RS rb w b8 B8 oW cW w5.heap.size wr.heap.size gX w6.heap.size K10) := by
          refine hide ?_
          clear P6 W6 X6
          intro b11 oG cG wq hpf hklW hklX hklG y2 y4 y7 y13 y14 y15 y16 y17 y18 y19 y20 y21 y22 y23 y24 y25 y26 y27 y28 y29 y30 y31 y32 y33 y34 y35 y36 y37 y38 y39 y40 y41 y42 y43 y44 y45 y46 y47 y48 y49 y50 y51 y52 y53 y54 y55 y56 y57 y58 y59 y60 y61 y62 y63 y64 y65 y66 y67 y68 y69 y70 y71 y72 y73 y74 y75 y76 y77 y78 y79 y80 y81 y82 y83 y84 y85 y86 y87 y88 y89 y90 y91 y92 y93 y94 y95 y96 y97 y98 y99 y100 y101 y102 y103 y104 y105 y106 y107 y108 y109 y110 y111 y112 y113
          refine h10 _ _ ?_
          clear h10 K10
          have B8P := hide (show w.heap.size ≤ w6.heap.size by have := s5; omega)
          have P8 := hide hpf
          have W8 := hide hklW
          have X8 := hide hklX
          have G8 := hide hklG
          clear hpf hklW hklX hklG
          obtain ⟨_, _, heq, hatG⟩ := entsAt_own G8.out.own
          cases heq
          have HAG := hide hatG
          clear hatG
          obtain ⟨_, _, heq, hatW⟩ := entsAt_own W8.out.own
          cases heq
          have HAW := hide hatW
          clear hatW
          obtain ⟨_, _, heq, hatX⟩ := entsAt_own X8.out.own
          cases heq
          have HAX := hide hatX
          clear hatX
          obtain ⟨g0, g1, g2⟩ := G8.out.lv
          obtain ⟨w0, w1, w2⟩ := W8.out.lv
          go_wp2_with fail
          refine (eqLog_same rs ru _ RS.length _ _ _ RS (by omega) _ HAG.out HAW.out).mono ?_
          rintro r w9 ⟨rfl, hb9⟩
          have P9 := hide (P8.out.on hb9)
          have W9 := hide (W8.out.on hb9)
          have X9 := hide (X8.out.on hb9)
          have G9 := hide (G8.out.on hb9)
          replace HAX := hide (HAX.out.below hb9)
          clear hb9 P8 W8 X8 G8
          clear g0 g1 g2 w0 w1 w2 HAG HAW
          go_wp2_with fail
          have k0 : ∀ w', LV w' w.heap.size s u (.slice oa n cap) ∧ LV w' w5.heap.size s u (.slice (some ⟨gX, 0, none⟩) n n) → w'.cell? ⟨w.heap.size, 0, none⟩ = some (.int .i64 s) := fun w' h => h.1.c0
          have k1 : ∀ w', LV w' w.heap.size s u (.slice oa n cap) ∧ LV w' w5.heap.size s u (.slice (some ⟨gX, 0, none⟩) n n) → w'.cell? ⟨w.heap.size, 1, none⟩ = some (.int .i64 u) := fun w' h => h.1.c1
          have k2 : ∀ w', LV w' w.heap.size s u (.slice oa n cap) ∧ LV w' w5.heap.size s u (.slice (some ⟨gX, 0, none⟩) n n) → w'.cell? ⟨w.heap.size, 2, none⟩ = some (.slice oa n cap) := fun w' h => h.1.c2
          have k3 : ∀ w', LV w' w.heap.size s u (.slice oa n cap) ∧ LV w' w5.heap.size s u (.slice (some ⟨gX, 0, none⟩) n n) → w'.cell? ⟨w5.heap.size, 0, none⟩ = some (.int .i64 s) := fun w' h => h.2.c0
          have k4 : ∀ w', LV w' w.heap.size s u (.slice oa n cap) ∧ LV w' w5.heap.size s u (.slice (some ⟨gX, 0, none⟩) n n) → w'.cell? ⟨w5.heap.size, 1, none⟩ = some (.int .i64 u) := fun w' h => h.2.c1
          have k5 : ∀ w', LV w' w.heap.size s u (.slice oa n cap) ∧ LV w' w5.heap.size s u (.slice (some ⟨gX, 0, none⟩) n n) → w'.cell? ⟨w5.heap.size, 2, none⟩ = some (.slice (some ⟨gX, 0, none⟩) n n) := fun w' h => h.2.c2
          go_region_held3 (fun w' => LV w' w.heap.size s u (.slice oa n cap) ∧ LV w' w5.heap.size s u (.slice (some ⟨gX, 0, none⟩) n n)) (first | exact ⟨P9.out.ka.lv.drew, X9.out.lv.drew⟩ | exact ⟨P9.out.ka.lv.drew.on hbP, X9.out.lv.drew.on hbP⟩ | exact ⟨(P9.out.ka.lv.drew.on hbP).on hbQ, (X9.out.lv.drew.on hbP).on hbQ⟩)
            (first
              | (go_at_call 11; refine (HTO.out _ (HAT.out.below P9.out.bel.drew)).mono ?_; rintro r wP ⟨gP, rfl, hoP, hbP⟩; obtain ⟨oP, cP, heP, hatP⟩ := entsAt_own hoP; cases heP; have HATP := hide hatP; clear hoP hatP)
              | (go_at_call 13; refine (eqLog_same s u _ n _ _ _ es hn20 _ ((HAX.out.below (Below.refl _ _).drew).below hbP) HATP.out).mono ?_; rintro r w10 ⟨rfl, hbQ⟩))
          have hb10 : Below w9.heap.size w9 w10 := ((Below.refl _ _).drew.trans (hbP.mono (by simp))).trans (hbQ.mono (by have := hbP.size; simpa using this))
          clear hbP hbQ k0 k1 k2 k3 k4 k5 HATP
          have P10 := hide (P9.out.on hb10)
          have W10 := hide (W9.out.on hb10)
          have X10 := hide (X9.out.on hb10)
          have G10 := hide (G9.out.on hb10)
          clear hb10 P9 W9 X9 G9 HAX
          have e1 : ((1 : Nat) : Int) = 1 := rfl
          have HMX := hide (fun w ho => markLog_any s u (.slice (some ⟨gX, 0, none⟩) n n) n wr.heap.size 1 hn20 (by omega) w es ho)
          have HMG := hide (fun w ho => markLog_any rs ru (.slice oG RS.length cG) RS.length w6.heap.size 1 (by omega) (by omega) w RS ho)
          have HHG := hide (fun oa cap w hat => heldLog_any rs ru oa RS.length cap 1 (by omega) (by omega) w hat)
          rw [e1] at HMX HMG HHG
          clear e1
          obtain ⟨x0, x1, x2⟩ := X10.out.lv
          go_wp2_with fail
          refine (HMX.out _ X10.out.own).mono ?_
          rintro r w11 ⟨rfl, ho11, hg11⟩
          have hXG : ∀ g, (Value.slice oG RS.length cG).ownBlock = some g → (Value.slice (some ⟨gX, 0, none⟩) n n).ownBlock ≠ some g := fun g hg h => by
            have h1 := (G10.out.own.lt g hg).1
            have h2 := rX g h
            omega
          have hXW : ∀ g, (Value.slice oW RS.length cW).ownBlock = some g → (Value.slice (some ⟨gX, 0, none⟩) n n).ownBlock ≠ some g := fun g hg h => by
            have h1 := rW g hg
            have h2 := (X10.out.own.lt g h).1
            omega
          have P11 := hide (P10.out.kept (by omega) X10.out.own hg11)
          have W11 := hide (W10.out.kept X10.out.own hg11 hXW)
          have G11 := hide (G10.out.kept X10.out.own hg11 hXG)
          clear ho11 hg11 P10 W10 G10 X10 hXG hXW x0 x1 x2
          have q1 : ¬ (((1 + 3 * n : Nat) : Int) < 0) := by omega
          obtain ⟨_, _, heq, hatG⟩ := entsAt_own G11.out.own
          cases heq
          have HAG := hide hatG
          clear hatG
          obtain ⟨_, _, heq, hatW⟩ := entsAt_own W11.out.own
          cases heq
          have HAW := hide hatW
          clear hatW
          obtain ⟨g0, g1, g2⟩ := G11.out.lv
          obtain ⟨w0, w1, w2⟩ := W11.out.lv
          go_wp2_with fail
          refine (eqLog_same rs ru _ RS.length _ _ _ RS (by omega) _ HAG.out HAW.out).mono ?_
          rintro r w12 ⟨rfl, hb12⟩
          have P12 := hide (P11.out.on hb12)
          have W12 := hide (W11.out.on hb12)
          have G12 := hide (G11.out.on hb12)
          clear hb12 P11 W11 G11
          clear g0 g1 g2 w0 w1 w2 HAG HAW q1
          obtain ⟨g0, g1, g2⟩ := G12.out.lv
          go_wp2_with fail
          refine (HMG.out _ G12.out.own).mono ?_
          rintro r w13 ⟨rfl, ho13, hg13⟩
          have hGW : ∀ g, (Value.slice oW RS.length cW).ownBlock = some g → (Value.slice oG RS.length cG).ownBlock ≠ some g := fun g hg h => by
            have h1 := rW g hg
            have h2 := (G12.out.own.lt g h).1
            omega
          have P13 := hide (P12.out.kept B8P.out G12.out.own hg13)
          have W13 := hide (W12.out.kept G12.out.own hg13 hGW)
          have G13 := hide (G12.out.marked ho13 hg13)
          clear ho13 hg13 P12 W12 G12 hGW g0 g1 g2
          obtain ⟨_, _, heq, hatG⟩ := entsAt_own G13.out.own
          cases heq
          have HAG := hide hatG
          clear hatG
          obtain ⟨g0, g1, g2⟩ := G13.out.lv
          go_wp2_with fail
          refine (HHG.out _ _ _ HAG.out).mono ?_
          rintro r w14 ⟨rfl, hb14⟩
          have P14 := hide (P13.out.on hb14)
          have W14 := hide (W13.out.on hb14)
          have G14 := hide (G13.out.on hb14)
          clear hb14 P13 W13 G13
          clear g0 g1 g2 HAG
          have q2 : ¬ (((1 + 3 * RS.length : Nat) : Int) < 0) := by omega
          go_wp2_with fail
          rename_i K27 h27
          have CONT27 : Hid (Cont27 rs ru RS rb w b8 B8 oW cW b11 w6.heap.size oG cG K27) := by
            refine hide ?_
            clear P14 W14 G14
            intro b16 B16 oH cH wu hbu hklW hklG hklH t0 t1 t2 t3 t4 t5 t7 t10 t12 t13 t15 t18 t19 t20 t21 t22 t23 t24 t25 t26 t27 t28 t29 t30 t31 t32 t33 t34 t35 t36 t37 t38 t39 t40 t41 t42 t43 t44 t45 t46 t47 t48 t49 t50 t51 t52 t53 t54 t55 t56 t57 t58 t59 t60 t61 t62 t63 t64 t65 t66 t67 t68 t69 t70 t71 t72 t73 t74 t75 t76 t77 t78 t79 t80 t81 t82 t83 t84 t85 t86 t87 t88 t89 t90 t91 t92 t93 t94 t95 t96 t97 t98 t99 t100 t101 t102 t103 t104 t105 t106 t107 t108 t109 t110 t111 t112 t113
            refine h27 _ _ ?_
            clear h27 K27
            have W17 := hide hklW
            have G17 := hide hklG
            have H17 := hide hklH
            have B17 := hide hbu
            clear hbu hklW hklG hklH
            obtain ⟨_, _, heq, hatH⟩ := entsAt_own H17.out.own
            cases heq
            have HAH := hide hatH
            clear hatH
            obtain ⟨_, _, heq, hatW⟩ := entsAt_own W17.out.own
            cases heq
            have HAW := hide hatW
            clear hatW
            obtain ⟨h0, h1, h2⟩ := H17.out.lv
            obtain ⟨w0, w1, w2⟩ := W17.out.lv
            go_wp2_with fail
            refine (eqLog_same rs ru _ RS.length _ _ _ RS (by omega) _ HAH.out HAW.out).mono ?_
            rintro r w18 ⟨rfl, hb18⟩
            have G18 := hide (G17.out.on hb18)
            have B18 := hide (B17.out.trans (hb18.mono B17.out.size))
            clear hb18 G17
            clear h0 h1 h2 w0 w1 w2 HAH HAW W17 H17
            obtain ⟨_, _, heq, hatG⟩ := entsAt_own G18.out.own
            cases heq
            have HAG := hide hatG
            clear hatG
            obtain ⟨g0, g1, g2⟩ := G18.out.lv
            go_wp2_with fail
            refine (HHG.out _ _ _ HAG.out).mono ?_
            rintro r w19 ⟨rfl, hb19⟩
            have B19 := hide (B18.out.trans (hb19.mono B18.out.size))
            clear hb19 
            go_wp2_with fail
            go_ret
            exact ⟨rfl, B19.out⟩
          clear h27
          have WB := hide P14.out.bel
          have HSs := hide (PuSt.start w14 e [] RS)
          refine wp_region_held_drew (S := PF w s u (.slice oa n cap) e) (by kernel_rfl) (P14.out.on (Below.refl _ _).drew) (fun hHeld => ?_)
          generalize w14.drew = xs at HSs hHeld ⊢
          refine wpAnyH_take (i := 0) (v := ?_) rfl (by kernel_rfl) (by kernel_rfl) (by kernel_rfl) (fun _ _ _ h => h) (Or.inl ⟨by rfl, ?_⟩) (by assumption) ?_; rotate_left
          · (intro wz hSw; obtain ⟨z0, z1, z2, z3, z4, z5⟩ := PF.cells hSw; clear hSw; go_simp; first | done | with_reducible rfl)
          try simp only [Act.put, List.getElem_toArray, List.getElem_cons_zero, List.getElem_cons_succ, List.setIfInBounds_toArray, List.set_cons_zero, List.set_cons_succ]
          refine wpAnyH_take (i := 2) (v := ?_) rfl (by kernel_rfl) (by kernel_rfl) (by kernel_rfl) (fun _ _ _ h => h) (Or.inl ⟨by rfl, ?_⟩) (by assumption) ?_; rotate_left
          · (intro wz hSw; obtain ⟨z0, z1, z2, z3, z4, z5⟩ := PF.cells hSw; clear hSw; go_simp; first | done | with_reducible rfl)
          try simp only [Act.put, List.getElem_toArray, List.getElem_cons_zero, List.getElem_cons_succ, List.setIfInBounds_toArray, List.set_cons_zero, List.set_cons_succ]
          refine wpAnyH_take (i := 3) (v := ?_) rfl (by kernel_rfl) (by kernel_rfl) (by kernel_rfl) (fun _ _ _ h => h) (Or.inl ⟨by rfl, ?_⟩) (by assumption) ?_; rotate_left
          · (intro wz hSw; obtain ⟨z0, z1, z2, z3, z4, z5⟩ := PF.cells hSw; clear hSw; go_simp; first | done | with_reducible rfl)
          try simp only [Act.put, List.getElem_toArray, List.getElem_cons_zero, List.getElem_cons_succ, List.setIfInBounds_toArray, List.set_cons_zero, List.set_cons_succ]
          refine wpAnyH_ready (rs := [1, 9]) (by kernel_rfl) (by simp) ?_
          refine AllReadyH.cons rfl (fun K hK => ?_) ?_
          · rw [if_pos (by rfl)]
            go_simp
            go_at_call 11
            refine (HTO.out _ (HAT.out.below (WB.out.trans (HSs.out.bel.mono WB.out.size)))).mono ?_
            rintro r x1 ⟨g1, rfl, ho1, hb1⟩
            obtain ⟨_, _, heq, hat1⟩ := entsAt_own ho1
            cases heq
            have HA1 := hide hat1
            have HS1 := hide (HSs.out.on hb1)
            clear ho1 hat1 hb1
            try go_simp
            refine hK.out _ _ ?_ (fun hHeld => ?_)
            · exact P14.out.on HS1.out.bel
            clear hK K
            try simp only [Act.put, List.getElem_toArray, List.getElem_cons_zero, List.getElem_cons_succ, List.setIfInBounds_toArray, List.set_cons_zero, List.set_cons_succ]
            refine wpAnyH_ready (rs := [4, 9]) (by kernel_rfl) (by simp) ?_
            refine AllReadyH.cons rfl (fun K hK => ?_) ?_
            · rw [if_pos (by rfl)]
              go_simp
              go_at_call 20
              refine (HTE.out _).mono ?_
              rintro r x4 ⟨rfl, hb4⟩
              have HS4 := hide (HS1.out.on hb4)
              have HA4 := hide (HA1.out.below (hb4))
              clear hb4
              try go_simp
              refine hK.out _ _ ?_ (fun hHeld => ?_)
              · exact P14.out.on HS4.out.bel
              clear hK K
              try simp only [Act.put, List.getElem_toArray, List.getElem_cons_zero, List.getElem_cons_succ, List.setIfInBounds_toArray, List.set_cons_zero, List.set_cons_succ]
              refine wpAnyH_ready (rs := [5, 9]) (by kernel_rfl) (by simp) ?_
              refine AllReadyH.cons rfl (fun K hK => ?_) ?_
              · rw [if_pos (by rfl)]
                go_simp
                go_at_call 21
                refine (HIM.out _ _ _ HA4.out).mono ?_
                rintro r x5 ⟨v5, rfl, ho5, hb5⟩
                obtain ⟨oR, cR, rfl⟩ := own_form3 ho5
                have HS5 := hide ((HS4.out.on hb5).give (own_base ho5 HS4.out.bel.size))
                clear ho5 hb5
                try go_simp
                refine hK.out _ _ ?_ (fun hHeld => ?_)
                · exact P14.out.on HS5.out.bel
                clear hK K
                try simp only [Act.put, List.getElem_toArray, List.getElem_cons_zero, List.getElem_cons_succ, List.setIfInBounds_toArray, List.set_cons_zero, List.set_cons_succ]
                refine wpAnyH_take (i := 6) (v := ?_) rfl (by kernel_rfl) (by kernel_rfl) (by kernel_rfl) (fun _ _ _ h => h) (Or.inl ⟨by rfl, ?_⟩) (by assumption) ?_; rotate_left
                · (intro wz hSw; obtain ⟨z0, z1, z2, z3, z4, z5⟩ := PF.cells hSw; clear hSw; go_simp; first | done | with_reducible rfl)
                try simp only [Act.put, List.getElem_toArray, List.getElem_cons_zero, List.getElem_cons_succ, List.setIfInBounds_toArray, List.set_cons_zero, List.set_cons_succ]
                refine wpAnyH_take (i := 7) (v := ?_) rfl (by kernel_rfl) (by kernel_rfl) (by kernel_rfl) (fun _ _ _ h => h) (Or.inl ⟨by rfl, ?_⟩) (by assumption) ?_; rotate_left
                · (intro wz hSw; obtain ⟨z0, z1, z2, z3, z4, z5⟩ := PF.cells hSw; clear hSw; go_simp; first | done | with_reducible rfl)
                try simp only [Act.put, List.getElem_toArray, List.getElem_cons_zero, List.getElem_cons_succ, List.setIfInBounds_toArray, List.set_cons_zero, List.set_cons_succ]
                refine wpAnyH_take (i := 8) (v := ?_) rfl (by kernel_rfl) (by kernel_rfl) (by kernel_rfl) (fun _ _ _ h => h) (Or.inl ⟨by rfl, ?_⟩) (by assumption) ?_; rotate_left
                · (intro wz hSw; obtain ⟨z0, z1, z2, z3, z4, z5⟩ := PF.cells hSw; clear hSw; go_simp; first | done | with_reducible rfl)
                try simp only [Act.put, List.getElem_toArray, List.getElem_cons_zero, List.getElem_cons_succ, List.setIfInBounds_toArray, List.set_cons_zero, List.set_cons_succ]
                refine wpAnyH_ready (rs := [9]) (by kernel_rfl) (by simp) ?_
                refine AllReadyH.cons rfl (fun K hK => ?_) ?_
                · have HS9 := hide HS5.out.alloc18
                  rw [if_pos (by rfl)]
                  go_simp
                  refine hK.out _ _ ?_ (fun hHeld => ?_)
                  · exact P14.out.on HS9.out.bel
                  clear hK K
                  try simp only [Act.put, List.getElem_toArray, List.getElem_cons_zero, List.getElem_cons_succ, List.setIfInBounds_toArray, List.set_cons_zero, List.set_cons_succ]
                  generalize x5.alloc (Obj.cells #[Value.int IntKind.i64 0, Value.int IntKind.i64 0, Value.slice none 0 0] 29) = x9 at HS9 hHeld ⊢
                  refine wpAnyH_ready (rs := [10]) (by kernel_rfl) (by simp) ?_
                  refine AllReadyH.cons rfl (fun K hK => ?_) ?_
                  · have hq := (HS9.out.h18 _ rfl).2
                    have q0 := blk_cell hq 0 rfl
                    have q1 := blk_cell hq 1 rfl
                    have q2 := blk_cell hq 2 rfl
                    have f0 := blk_free hq 0
                    have f1 := blk_free hq 1
                    have f2 := blk_free hq 2
                    simp only [List.getElem_toArray, List.getElem_cons_zero, List.getElem_cons_succ] at q0 q1 q2
                    rw [if_pos (by rfl)]
                    go_simp
                    refine hK.out _ _ ?_ (fun hHeld => ?_)
                    · exact P14.out.on (HS9.out.stored (s := rs) (u := ru)).1
                    clear hK K
                    try simp only [Act.put, List.getElem_toArray, List.getElem_cons_zero, List.getElem_cons_succ, List.setIfInBounds_toArray, List.set_cons_zero, List.set_cons_succ]
                    clear hq q0 q1 q2 f0 f1 f2
                    have hF := hide (HS9.out.storedK (s := rs) (u := ru))
                    refine wpAnyH_ready (rs := [11]) (by kernel_rfl) (by simp) ?_
                    refine AllReadyH.cons rfl (fun K hK => ?_) ?_
                    · rw [if_pos (by rfl)]
                      go_simp
                      refine hK.out _ _ ?_ (fun hHeld => ?_)
                      · exact hHeld
                      clear hK K
                      try simp only [Act.put, List.getElem_toArray, List.getElem_cons_zero, List.getElem_cons_succ, List.setIfInBounds_toArray, List.set_cons_zero, List.set_cons_succ]
                      refine wpAnyH_done (by kernel_rfl) ?_ _
                      clear hHeld
                      generalize (((x9.setCell ⟨x5.heap.size, 0, none⟩ (Value.int IntKind.i64 rs)).setCell ⟨x5.heap.size, 1, none⟩ (Value.int IntKind.i64 ru)).setCell ⟨x5.heap.size, 2, none⟩ (Value.slice oR RS.length cR)) = xz at hF ⊢
                      have hb := hF.out.1
                      exact CONT27.out _ w14.heap.size oR cR _ (P14.out.on hb).bel (W14.out.on hb) (G14.out.on hb) hF.out.2 _ _ _ _ _ _ _ _ _ _ _ _ _ _ _ _ _ _ _ _ _ _ _ _ _ _ _ _ _ _ _ _ _ _ _ _ _ _ _ _ _ _ _ _ _ _ _ _ _ _ _ _ _ _ _ _ _ _ _ _ _ _ _ _ _ _ _ _ _ _ _ _ _ _ _ _ _ _ _ _ _ _ _ _ _ _ _ _ _ _ _ _ _ _ _ _ _ _ _ _ _ _ _ _ _ _ _
                    exact AllReadyH.nil
                  exact AllReadyH.nil
                exact AllReadyH.nil
              refine AllReadyH.cons rfl (fun K hK => ?_) ?_
              · have HS9 := hide HS4.out.alloc18
                have HA9 := hide (HA4.out.below ((Below.refl _ _).alloc (Nat.le_refl _) (Obj.cells #[Value.int IntKind.i64 0, Value.int IntKind.i64 0, Value.slice none 0 0] 29)))
                rw [if_pos (by rfl)]
                go_simp
                refine hK.out _ _ ?_ (fun hHeld => ?_)
                · exact P14.out.on HS9.out.bel
                clear hK K
                try simp only [Act.put, List.getElem_toArray, List.getElem_cons_zero, List.getElem_cons_succ, List.setIfInBounds_toArray, List.set_cons_zero, List.set_cons_succ]
                generalize x4.alloc (Obj.cells #[Value.int IntKind.i64 0, Value.int IntKind.i64 0, Value.slice none 0 0] 29) = x9 at HS9 hHeld ⊢ HA9
                refine wpAnyH_ready (rs := [5]) (by kernel_rfl) (by simp) ?_
                refine AllReadyH.cons rfl (fun K hK => ?_) ?_
                · rw [if_pos (by rfl)]
                  go_simp
                  go_at_call 21
                  refine (HIM.out _ _ _ HA9.out).mono ?_
                  rintro r x5 ⟨v5, rfl, ho5, hb5⟩
                  obtain ⟨oR, cR, rfl⟩ := own_form3 ho5
                  have HS5 := hide ((HS9.out.on hb5).give (own_base ho5 HS9.out.bel.size))
                  clear ho5 hb5
                  try go_simp
                  refine hK.out _ _ ?_ (fun hHeld => ?_)
                  · exact P14.out.on HS5.out.bel
                  clear hK K
                  try simp only [Act.put, List.getElem_toArray, List.getElem_cons_zero, List.getElem_cons_succ, List.setIfInBounds_toArray, List.set_cons_zero, List.set_cons_succ]
                  refine wpAnyH_take (i := 6) (v := ?_) rfl (by kernel_rfl) (by kernel_rfl) (by kernel_rfl) (fun _ _ _ h => h) (Or.inl ⟨by rfl, ?_⟩) (by assumption) ?_; rotate_left
                  · (intro wz hSw; obtain ⟨z0, z1, z2, z3, z4, z5⟩ := PF.cells hSw; clear hSw; go_simp; first | done | with_reducible rfl)
                  try simp only [Act.put, List.getElem_toArray, List.getElem_cons_zero, List.getElem_cons_succ, List.setIfInBounds_toArray, List.set_cons_zero, List.set_cons_succ]
                  refine wpAnyH_take (i := 7) (v := ?_) rfl (by kernel_rfl) (by kernel_rfl) (by kernel_rfl) (fun _ _ _ h => h) (Or.inl ⟨by rfl, ?_⟩) (by assumption) ?_; rotate_left
                  · (intro wz hSw; obtain ⟨z0, z1, z2, z3, z4, z5⟩ := PF.cells hSw; clear hSw; go_simp; first | done | with_reducible rfl)
                  try simp only [Act.put, List.getElem_toArray, List.getElem_cons_zero, List.getElem_cons_succ, List.setIfInBounds_toArray, List.set_cons_zero, List.set_cons_succ]
                  refine wpAnyH_take (i := 8) (v := ?_) rfl (by kernel_rfl) (by kernel_rfl) (by kernel_rfl) (fun _ _ _ h => h) (Or.inl ⟨by rfl, ?_⟩) (by assumption) ?_; rotate_left
                  · (intro wz hSw; obtain ⟨z0, z1, z2, z3, z4, z5⟩ := PF.cells hSw; clear hSw; go_simp; first | done | with_reducible rfl)
                  try simp only [Act.put, List.getElem_toArray, List.getElem_cons_zero, List.getElem_cons_succ, List.setIfInBounds_toArray, List.set_cons_zero, List.set_cons_succ]
                  refine wpAnyH_ready (rs := [10]) (by kernel_rfl) (by simp) ?_
                  refine AllReadyH.cons rfl (fun K hK => ?_) ?_
                  · have hq := (HS5.out.h18 _ rfl).2
                    have q0 := blk_cell hq 0 rfl
                    have q1 := blk_cell hq 1 rfl
                    have q2 := blk_cell hq 2 rfl
                    have f0 := blk_free hq 0
                    have f1 := blk_free hq 1
                    have f2 := blk_free hq 2
                    simp only [List.getElem_toArray, List.getElem_cons_zero, List.getElem_cons_succ] at q0 q1 q2
                    rw [if_pos (by rfl)]
                    go_simp
                    refine hK.out _ _ ?_ (fun hHeld => ?_)
                    · exact P14.out.on (HS5.out.stored (s := rs) (u := ru)).1
                    clear hK K
                    try simp only [Act.put, List.getElem_toArray, List.getElem_cons_zero, List.getElem_cons_succ, List.setIfInBounds_toArray, List.set_cons_zero, List.set_cons_succ]
                    clear hq q0 q1 q2 f0 f1 f2
                    have hF := hide (HS5.out.storedK (s := rs) (u := ru))
                    refine wpAnyH_ready (rs := [11]) (by kernel_rfl) (by simp) ?_
                    refine AllReadyH.cons rfl (fun K hK => ?_) ?_
                    · rw [if_pos (by rfl)]
                      go_simp
                      refine hK.out _ _ ?_ (fun hHeld => ?_)
                      · exact hHeld
                      clear hK K
                      try simp only [Act.put, List.getElem_toArray, List.getElem_cons_zero, List.getElem_cons_succ, List.setIfInBounds_toArray, List.set_cons_zero, List.set_cons_succ]
                      refine wpAnyH_done (by kernel_rfl) ?_ _
                      clear hHeld
                      generalize (((x5.setCell ⟨x4.heap.size, 0, none⟩ (Value.int IntKind.i64 rs)).setCell ⟨x4.heap.size, 1, none⟩ (Value.int IntKind.i64 ru)).setCell ⟨x4.heap.size, 2, none⟩ (Value.slice oR RS.length cR)) = xz at hF ⊢
                      have hb := hF.out.1
                      exact CONT27.out _ w14.heap.size oR cR _ (P14.out.on hb).bel (W14.out.on hb) (G14.out.on hb) hF.out.2 _ _ _ _ _ _ _ _ _ _ _ _ _ _ _ _ _ _ _ _ _ _ _ _ _ _ _ _ _ _ _ _ _ _ _ _ _ _ _ _ _ _ _ _ _ _ _ _ _ _ _ _ _ _ _ _ _ _ _ _ _ _ _ _ _ _ _ _ _ _ _ _ _ _ _ _ _ _ _ _ _ _ _ _ _ _ _ _ _ _ _ _ _ _ _ _ _ _ _ _ _ _ _ _ _ _ _
                    exact AllReadyH.nil
                  exact AllReadyH.nil
                exact AllReadyH.nil
              exact AllReadyH.nil
            refine AllReadyH.cons rfl (fun K hK => ?_) ?_
            · have HS9 := hide HS1.out.alloc18
              have HA9 := hide (HA1.out.below ((Below.refl _ _).alloc (Nat.le_refl _) (Obj.cells #[Value.int IntKind.i64 0, Value.int IntKind.i64 0, Value.slice none 0 0] 29)))
              rw [if_pos (by rfl)]
              go_simp
              refine hK.out _ _ ?_ (fun hHeld => ?_)
              · exact P14.out.on HS9.out.bel
              clear hK K
              try simp only [Act.put, List.getElem_toArray, List.getElem_cons_zero, List.getElem_cons_succ, List.setIfInBounds_toArray, List.set_cons_zero, List.set_cons_succ]
              generalize x1.alloc (Obj.cells #[Value.int IntKind.i64 0, Value.int IntKind.i64 0, Value.slice none 0 0] 29) = x9 at HS9 hHeld ⊢ HA9
              refine wpAnyH_ready (rs := [4]) (by kernel_rfl) (by simp) ?_
              refine AllReadyH.cons rfl (fun K hK => ?_) ?_
              · rw [if_pos (by rfl)]
                go_simp
                go_at_call 20
                refine (HTE.out _).mono ?_
                rintro r x4 ⟨rfl, hb4⟩
                have HS4 := hide (HS9.out.on hb4)
                have HA4 := hide (HA9.out.below (hb4))
                clear hb4
                try go_simp
                refine hK.out _ _ ?_ (fun hHeld => ?_)
                · exact P14.out.on HS4.out.bel
                clear hK K
                try simp only [Act.put, List.getElem_toArray, List.getElem_cons_zero, List.getElem_cons_succ, List.setIfInBounds_toArray, List.set_cons_zero, List.set_cons_succ]
                refine wpAnyH_ready (rs := [5]) (by kernel_rfl) (by simp) ?_
                refine AllReadyH.cons rfl (fun K hK => ?_) ?_
                · rw [if_pos (by rfl)]
                  go_simp
                  go_at_call 21
                  refine (HIM.out _ _ _ HA4.out).mono ?_
                  rintro r x5 ⟨v5, rfl, ho5, hb5⟩
                  obtain ⟨oR, cR, rfl⟩ := own_form3 ho5
                  have HS5 := hide ((HS4.out.on hb5).give (own_base ho5 HS4.out.bel.size))
                  clear ho5 hb5
                  try go_simp
                  refine hK.out _ _ ?_ (fun hHeld => ?_)
                  · exact P14.out.on HS5.out.bel
                  clear hK K
                  try simp only [Act.put, List.getElem_toArray, List.getElem_cons_zero, List.getElem_cons_succ, List.setIfInBounds_toArray, List.set_cons_zero, List.set_cons_succ]
                  refine wpAnyH_take (i := 6) (v := ?_) rfl (by kernel_rfl) (by kernel_rfl) (by kernel_rfl) (fun _ _ _ h => h) (Or.inl ⟨by rfl, ?_⟩) (by assumption) ?_; rotate_left
                  · (intro wz hSw; obtain ⟨z0, z1, z2, z3, z4, z5⟩ := PF.cells hSw; clear hSw; go_simp; first | done | with_reducible rfl)
                  try simp only [Act.put, List.getElem_toArray, List.getElem_cons_zero, List.getElem_cons_succ, List.setIfInBounds_toArray, List.set_cons_zero, List.set_cons_succ]
                  refine wpAnyH_take (i := 7) (v := ?_) rfl (by kernel_rfl) (by kernel_rfl) (by kernel_rfl) (fun _ _ _ h => h) (Or.inl ⟨by rfl, ?_⟩) (by assumption) ?_; rotate_left
                  · (intro wz hSw; obtain ⟨z0, z1, z2, z3, z4, z5⟩ := PF.cells hSw; clear hSw; go_simp; first | done | with_reducible rfl)
                  try simp only [Act.put, List.getElem_toArray, List.getElem_cons_zero, List.getElem_cons_succ, List.setIfInBounds_toArray, List.set_cons_zero, List.set_cons_succ]
                  refine wpAnyH_take (i := 8) (v := ?_) rfl (by kernel_rfl) (by kernel_rfl) (by kernel_rfl) (fun _ _ _ h => h) (Or.inl ⟨by rfl, ?_⟩) (by assumption) ?_; rotate_left
                  · (intro wz hSw; obtain ⟨z0, z1, z2, z3, z4, z5⟩ := PF.cells hSw; clear hSw; go_simp; first | done | with_reducible rfl)
                  try simp only [Act.put, List.getElem_toArray, List.getElem_cons_zero, List.getElem_cons_succ, List.setIfInBounds_toArray, List.set_cons_zero, List.set_cons_succ]
                  refine wpAnyH_ready (rs := [10]) (by kernel_rfl) (by simp) ?_
                  refine AllReadyH.cons rfl (fun K hK => ?_) ?_
                  · have hq := (HS5.out.h18 _ rfl).2
                    have q0 := blk_cell hq 0 rfl
                    have q1 := blk_cell hq 1 rfl
                    have q2 := blk_cell hq 2 rfl
                    have f0 := blk_free hq 0
                    have f1 := blk_free hq 1
                    have f2 := blk_free hq 2
                    simp only [List.getElem_toArray, List.getElem_cons_zero, List.getElem_cons_succ] at q0 q1 q2
                    rw [if_pos (by rfl)]
                    go_simp
                    refine hK.out _ _ ?_ (fun hHeld => ?_)
                    · exact P14.out.on (HS5.out.stored (s := rs) (u := ru)).1
                    clear hK K
                    try simp only [Act.put, List.getElem_toArray, List.getElem_cons_zero, List.getElem_cons_succ, List.setIfInBounds_toArray, List.set_cons_zero, List.set_cons_succ]
                    clear hq q0 q1 q2 f0 f1 f2
                    have hF := hide (HS5.out.storedK (s := rs) (u := ru))
                    refine wpAnyH_ready (rs := [11]) (by kernel_rfl) (by simp) ?_
                    refine AllReadyH.cons rfl (fun K hK => ?_) ?_
                    · rw [if_pos (by rfl)]
                      go_simp
                      refine hK.out _ _ ?_ (fun hHeld => ?_)
                      · exact hHeld
                      clear hK K
                      try simp only [Act.put, List.getElem_toArray, List.getElem_cons_zero, List.getElem_cons_succ, List.setIfInBounds_toArray, List.set_cons_zero, List.set_cons_succ]
                      refine wpAnyH_done (by kernel_rfl) ?_ _
                      clear hHeld
                      generalize (((x5.setCell ⟨x1.heap.size, 0, none⟩ (Value.int IntKind.i64 rs)).setCell ⟨x1.heap.size, 1, none⟩ (Value.int IntKind.i64 ru)).setCell ⟨x1.heap.size, 2, none⟩ (Value.slice oR RS.length cR)) = xz at hF ⊢
                      have hb := hF.out.1
                      exact CONT27.out _ w14.heap.size oR cR _ (P14.out.on hb).bel (W14.out.on hb) (G14.out.on hb) hF.out.2 _ _ _ _ _ _ _ _ _ _ _ _ _ _ _ _ _ _ _ _ _ _ _ _ _ _ _ _ _ _ _ _ _ _ _ _ _ _ _ _ _ _ _ _ _ _ _ _ _ _ _ _ _ _ _ _ _ _ _ _ _ _ _ _ _ _ _ _ _ _ _ _ _ _ _ _ _ _ _ _ _ _ _ _ _ _ _ _ _ _ _ _ _ _ _ _ _ _ _ _ _ _ _ _ _ _ _
                    exact AllReadyH.nil
                  exact AllReadyH.nil
                exact AllReadyH.nil
              exact AllReadyH.nil
            exact AllReadyH.nil
          refine AllReadyH.cons rfl (fun K hK => ?_) ?_
          · have HS9 := hide HSs.out.alloc18
            rw [if_pos (by rfl)]
            go_simp
            refine hK.out _ _ ?_ (fun hHeld => ?_)
            · exact P14.out.on HS9.out.bel
            clear hK K
            try simp only [Act.put, List.getElem_toArray, List.getElem_cons_zero, List.getElem_cons_succ, List.setIfInBounds_toArray, List.set_cons_zero, List.set_cons_succ]
            generalize xs.alloc (Obj.cells #[Value.int IntKind.i64 0, Value.int IntKind.i64 0, Value.slice none 0 0] 29) = x9 at HS9 hHeld ⊢
            refine wpAnyH_ready (rs := [1]) (by kernel_rfl) (by simp) ?_
            refine AllReadyH.cons rfl (fun K hK => ?_) ?_
            · rw [if_pos (by rfl)]
              go_simp
              go_at_call 11
              refine (HTO.out _ (HAT.out.below (WB.out.trans (HS9.out.bel.mono WB.out.size)))).mono ?_
              rintro r x1 ⟨g1, rfl, ho1, hb1⟩
              obtain ⟨_, _, heq, hat1⟩ := entsAt_own ho1
              cases heq
              have HA1 := hide hat1
              have HS1 := hide (HS9.out.on hb1)
              clear ho1 hat1 hb1
              try go_simp
              refine hK.out _ _ ?_ (fun hHeld => ?_)
              · exact P14.out.on HS1.out.bel
              clear hK K
              try simp only [Act.put, List.getElem_toArray, List.getElem_cons_zero, List.getElem_cons_succ, List.setIfInBounds_toArray, List.set_cons_zero, List.set_cons_succ]
              refine wpAnyH_ready (rs := [4]) (by kernel_rfl) (by simp) ?_
              refine AllReadyH.cons rfl (fun K hK => ?_) ?_
              · rw [if_pos (by rfl)]
                go_simp
                go_at_call 20
                refine (HTE.out _).mono ?_
                rintro r x4 ⟨rfl, hb4⟩
                have HS4 := hide (HS1.out.on hb4)
                have HA4 := hide (HA1.out.below (hb4))
                clear hb4
                try go_simp
                refine hK.out _ _ ?_ (fun hHeld => ?_)
                · exact P14.out.on HS4.out.bel
                clear hK K
                try simp only [Act.put, List.getElem_toArray, List.getElem_cons_zero, List.getElem_cons_succ, List.setIfInBounds_toArray, List.set_cons_zero, List.set_cons_succ]
                refine wpAnyH_ready (rs := [5]) (by kernel_rfl) (by simp) ?_
                refine AllReadyH.cons rfl (fun K hK => ?_) ?_
                · rw [if_pos (by rfl)]
                  go_simp
                  go_at_call 21
                  refine (HIM.out _ _ _ HA4.out).mono ?_
                  rintro r x5 ⟨v5, rfl, ho5, hb5⟩
                  obtain ⟨oR, cR, rfl⟩ := own_form3 ho5
                  have HS5 := hide ((HS4.out.on hb5).give (own_base ho5 HS4.out.bel.size))
                  clear ho5 hb5
                  try go_simp
                  refine hK.out _ _ ?_ (fun hHeld => ?_)
                  · exact P14.out.on HS5.out.bel
                  clear hK K
                  try simp only [Act.put, List.getElem_toArray, List.getElem_cons_zero, List.getElem_cons_succ, List.setIfInBounds_toArray, List.set_cons_zero, List.set_cons_succ]
                  refine wpAnyH_take (i := 6) (v := ?_) rfl (by kernel_rfl) (by kernel_rfl) (by kernel_rfl) (fun _ _ _ h => h) (Or.inl ⟨by rfl, ?_⟩) (by assumption) ?_; rotate_left
                  · (intro wz hSw; obtain ⟨z0, z1, z2, z3, z4, z5⟩ := PF.cells hSw; clear hSw; go_simp; first | done | with_reducible rfl)
                  try simp only [Act.put, List.getElem_toArray, List.getElem_cons_zero, List.getElem_cons_succ, List.setIfInBounds_toArray, List.set_cons_zero, List.set_cons_succ]
                  refine wpAnyH_take (i := 7) (v := ?_) rfl (by kernel_rfl) (by kernel_rfl) (by kernel_rfl) (fun _ _ _ h => h) (Or.inl ⟨by rfl, ?_⟩) (by assumption) ?_; rotate_left
                  · (intro wz hSw; obtain ⟨z0, z1, z2, z3, z4, z5⟩ := PF.cells hSw; clear hSw; go_simp; first | done | with_reducible rfl)
                  try simp only [Act.put, List.getElem_toArray, List.getElem_cons_zero, List.getElem_cons_succ, List.setIfInBounds_toArray, List.set_cons_zero, List.set_cons_succ]
                  refine wpAnyH_take (i := 8) (v := ?_) rfl (by kernel_rfl) (by kernel_rfl) (by kernel_rfl) (fun _ _ _ h => h) (Or.inl ⟨by rfl, ?_⟩) (by assumption) ?_; rotate_left
                  · (intro wz hSw; obtain ⟨z0, z1, z2, z3, z4, z5⟩ := PF.cells hSw; clear hSw; go_simp; first | done | with_reducible rfl)
                  try simp only [Act.put, List.getElem_toArray, List.getElem_cons_zero, List.getElem_cons_succ, List.setIfInBounds_toArray, List.set_cons_zero, List.set_cons_succ]
                  refine wpAnyH_ready (rs := [10]) (by kernel_rfl) (by simp) ?_
                  refine AllReadyH.cons rfl (fun K hK => ?_) ?_
                  · have hq := (HS5.out.h18 _ rfl).2
                    have q0 := blk_cell hq 0 rfl
                    have q1 := blk_cell hq 1 rfl
                    have q2 := blk_cell hq 2 rfl
                    have f0 := blk_free hq 0
                    have f1 := blk_free hq 1
                    have f2 := blk_free hq 2
                    simp only [List.getElem_toArray, List.getElem_cons_zero, List.getElem_cons_succ] at q0 q1 q2
                    rw [if_pos (by rfl)]
                    go_simp
                    refine hK.out _ _ ?_ (fun hHeld => ?_)
                    · exact P14.out.on (HS5.out.stored (s := rs) (u := ru)).1
                    clear hK K
                    try simp only [Act.put, List.getElem_toArray, List.getElem_cons_zero, List.getElem_cons_succ, List.setIfInBounds_toArray, List.set_cons_zero, List.set_cons_succ]
                    clear hq q0 q1 q2 f0 f1 f2
                    have hF := hide (HS5.out.storedK (s := rs) (u := ru))
                    refine wpAnyH_ready (rs := [11]) (by kernel_rfl) (by simp) ?_
                    refine AllReadyH.cons rfl (fun K hK => ?_) ?_
                    · rw [if_pos (by rfl)]
                      go_simp
                      refine hK.out _ _ ?_ (fun hHeld => ?_)
                      · exact hHeld
                      clear hK K
                      try simp only [Act.put, List.getElem_toArray, List.getElem_cons_zero, List.getElem_cons_succ, List.setIfInBounds_toArray, List.set_cons_zero, List.set_cons_succ]
                      refine wpAnyH_done (by kernel_rfl) ?_ _
                      clear hHeld
                      generalize (((x5.setCell ⟨xs.heap.size, 0, none⟩ (Value.int IntKind.i64 rs)).setCell ⟨xs.heap.size, 1, none⟩ (Value.int IntKind.i64 ru)).setCell ⟨xs.heap.size, 2, none⟩ (Value.slice oR RS.length cR)) = xz at hF ⊢
                      have hb := hF.out.1
                      exact CONT27.out _ w14.heap.size oR cR _ (P14.out.on hb).bel (W14.out.on hb) (G14.out.on hb) hF.out.2 _ _ _ _ _ _ _ _ _ _ _ _ _ _ _ _ _ _ _ _ _ _ _ _ _ _ _ _ _ _ _ _ _ _ _ _ _ _ _ _ _ _ _ _ _ _ _ _ _ _ _ _ _ _ _ _ _ _ _ _ _ _ _ _ _ _ _ _ _ _ _ _ _ _ _ _ _ _ _ _ _ _ _ _ _ _ _ _ _ _ _ _ _ _ _ _ _ _ _ _ _ _ _ _ _ _ _
                    exact AllReadyH.nil
                  exact AllReadyH.nil
                exact AllReadyH.nil
              exact AllReadyH.nil
            exact AllReadyH.nil
          exact AllReadyH.nil
        clear h10
        have WB := hide P6.out.bel
        have PFX : Hid (∀ {w'}, Below w6.heap.size w6 w' → PF w s u (.slice oa n cap) e w' ∧ KL w' w5.heap.size wr.heap.size s u (.slice (some ⟨gX, 0, none⟩) n n) n es) := hide (fun hb => ⟨P6.out.on hb, X6.out.on hb⟩)
        have HSs := hide (PuSt.start w6 e [] RS)
        obtain ⟨_, _, heq, hatX⟩ := entsAt_own X6.out.own
        cases heq
        have HAs := hide (hatX.below ((Below.refl w6.heap.size w6).drew))
        clear hatX
        refine wp_region_held_drew (S := fun w' => PF w s u (.slice oa n cap) e w' ∧ KL w' w5.heap.size wr.heap.size s u (.slice (some ⟨gX, 0, none⟩) n n) n es) (by kernel_rfl) ⟨P6.out.on (Below.refl _ _).drew, X6.out.on (Below.refl _ _).drew⟩ (fun hHeld => ?_)
        generalize w6.drew = xs at HSs hHeld HAs ⊢
        refine wpAnyH_take (i := 0) (v := ?_) rfl (by kernel_rfl) (by kernel_rfl) (by kernel_rfl) (fun _ _ _ h => h) (Or.inl ⟨by rfl, ?_⟩) (by assumption) ?_; rotate_left
        · (intro wz hSw; obtain ⟨z0, z1, z2, z3, z4, z5⟩ := PF.cells hSw.1; obtain ⟨z6, z7, z8⟩ := hSw.2.lv; clear hSw; go_simp; first | done | with_reducible rfl)
        try simp only [Act.put, List.getElem_toArray, List.getElem_cons_zero, List.getElem_cons_succ, List.setIfInBounds_toArray, List.set_cons_zero, List.set_cons_succ]
        refine wpAnyH_take (i := 1) (v := ?_) rfl (by kernel_rfl) (by kernel_rfl) (by kernel_rfl) (fun _ _ _ h => h) (Or.inl ⟨by rfl, ?_⟩) (by assumption) ?_; rotate_left
        · (intro wz hSw; obtain ⟨z0, z1, z2, z3, z4, z5⟩ := PF.cells hSw.1; obtain ⟨z6, z7, z8⟩ := hSw.2.lv; clear hSw; go_simp; first | done | with_reducible rfl)
        try simp only [Act.put, List.getElem_toArray, List.getElem_cons_zero, List.getElem_cons_succ, List.setIfInBounds_toArray, List.set_cons_zero, List.set_cons_succ]
        refine wpAnyH_take (i := 2) (v := ?_) rfl (by kernel_rfl) (by kernel_rfl) (by kernel_rfl) (fun _ _ _ h => h) (Or.inl ⟨by rfl, ?_⟩) (by assumption) ?_; rotate_left
        · (intro wz hSw; obtain ⟨z0, z1, z2, z3, z4, z5⟩ := PF.cells hSw.1; obtain ⟨z6, z7, z8⟩ := hSw.2.lv; clear hSw; go_simp; first | done | with_reducible rfl)
        try simp only [Act.put, List.getElem_toArray, List.getElem_cons_zero, List.getElem_cons_succ, List.setIfInBounds_toArray, List.set_cons_zero, List.set_cons_succ]
        refine wpAnyH_ready (rs := [3, 8]) (by kernel_rfl) (by simp) ?_
        refine AllReadyH.cons rfl (fun K hK => ?_) ?_
        · rw [if_pos (by rfl)]
          go_simp
          go_at_call 20
          refine (HTE.out _).mono ?_
          rintro r x3 ⟨rfl, hb3⟩
          have HS3 := hide (HSs.out.on hb3)
          have HA3 := hide (HAs.out.below (hb3))
          clear hb3
          try go_simp
          refine hK.out _ _ ?_ (fun hHeld => ?_)
          · exact PFX.out HS3.out.bel
          clear hK K
          try simp only [Act.put, List.getElem_toArray, List.getElem_cons_zero, List.getElem_cons_succ, List.setIfInBounds_toArray, List.set_cons_zero, List.set_cons_succ]
          refine wpAnyH_ready (rs := [4, 8]) (by kernel_rfl) (by simp) ?_
          refine AllReadyH.cons rfl (fun K hK => ?_) ?_
          · rw [if_pos (by rfl)]
            go_simp
            go_at_call 21
            refine (HIM.out _ _ _ HA3.out).mono ?_
            rintro r x4 ⟨v4, rfl, ho4, hb4⟩
            obtain ⟨oR, cR, rfl⟩ := own_form3 ho4
            have HS4 := hide ((HS3.out.on hb4).give (own_base ho4 HS3.out.bel.size))
            clear ho4 hb4
            try go_simp
            refine hK.out _ _ ?_ (fun hHeld => ?_)
            · exact PFX.out HS4.out.bel
            clear hK K
            try simp only [Act.put, List.getElem_toArray, List.getElem_cons_zero, List.getElem_cons_succ, List.setIfInBounds_toArray, List.set_cons_zero, List.set_cons_succ]
            refine wpAnyH_take (i := 5) (v := ?_) rfl (by kernel_rfl) (by kernel_rfl) (by kernel_rfl) (fun _ _ _ h => h) (Or.inl ⟨by rfl, ?_⟩) (by assumption) ?_; rotate_left
            · (intro wz hSw; obtain ⟨z0, z1, z2, z3, z4, z5⟩ := PF.cells hSw.1; obtain ⟨z6, z7, z8⟩ := hSw.2.lv; clear hSw; go_simp; first | done | with_reducible rfl)
            try simp only [Act.put, List.getElem_toArray, List.getElem_cons_zero, List.getElem_cons_succ, List.setIfInBounds_toArray, List.set_cons_zero, List.set_cons_succ]
            refine wpAnyH_take (i := 6) (v := ?_) rfl (by kernel_rfl) (by kernel_rfl) (by kernel_rfl) (fun _ _ _ h => h) (Or.inl ⟨by rfl, ?_⟩) (by assumption) ?_; rotate_left
            · (intro wz hSw; obtain ⟨z0, z1, z2, z3, z4, z5⟩ := PF.cells hSw.1; obtain ⟨z6, z7, z8⟩ := hSw.2.lv; clear hSw; go_simp; first | done | with_reducible rfl)
            try simp only [Act.put, List.getElem_toArray, List.getElem_cons_zero, List.getElem_cons_succ, List.setIfInBounds_toArray, List.set_cons_zero, List.set_cons_succ]
            refine wpAnyH_take (i := 7) (v := ?_) rfl (by kernel_rfl) (by kernel_rfl) (by kernel_rfl) (fun _ _ _ h => h) (Or.inl ⟨by rfl, ?_⟩) (by assumption) ?_; rotate_left
            · (intro wz hSw; obtain ⟨z0, z1, z2, z3, z4, z5⟩ := PF.cells hSw.1; obtain ⟨z6, z7, z8⟩ := hSw.2.lv; clear hSw; go_simp; first | done | with_reducible rfl)
            try simp only [Act.put, List.getElem_toArray, List.getElem_cons_zero, List.getElem_cons_succ, List.setIfInBounds_toArray, List.set_cons_zero, List.set_cons_succ]
            refine wpAnyH_ready (rs := [8]) (by kernel_rfl) (by simp) ?_
            refine AllReadyH.cons rfl (fun K hK => ?_) ?_
            · have HS8 := hide HS4.out.alloc18
              rw [if_pos (by rfl)]
              go_simp
              refine hK.out _ _ ?_ (fun hHeld => ?_)
              · exact PFX.out HS8.out.bel
              clear hK K
              try simp only [Act.put, List.getElem_toArray, List.getElem_cons_zero, List.getElem_cons_succ, List.setIfInBounds_toArray, List.set_cons_zero, List.set_cons_succ]
              generalize x4.alloc (Obj.cells #[Value.int IntKind.i64 0, Value.int IntKind.i64 0, Value.slice none 0 0] 29) = x8 at HS8 hHeld ⊢
              refine wpAnyH_ready (rs := [9]) (by kernel_rfl) (by simp) ?_
              refine AllReadyH.cons rfl (fun K hK => ?_) ?_
              · have hq := (HS8.out.h18 _ rfl).2
                have q0 := blk_cell hq 0 rfl
                have q1 := blk_cell hq 1 rfl
                have q2 := blk_cell hq 2 rfl
                have f0 := blk_free hq 0
                have f1 := blk_free hq 1
                have f2 := blk_free hq 2
                simp only [List.getElem_toArray, List.getElem_cons_zero, List.getElem_cons_succ] at q0 q1 q2
                rw [if_pos (by rfl)]
                go_simp
                refine hK.out _ _ ?_ (fun hHeld => ?_)
                · exact PFX.out (HS8.out.stored (s := rs) (u := ru)).1
                clear hK K
                try simp only [Act.put, List.getElem_toArray, List.getElem_cons_zero, List.getElem_cons_succ, List.setIfInBounds_toArray, List.set_cons_zero, List.set_cons_succ]
                clear hq q0 q1 q2 f0 f1 f2
                have hF := hide (HS8.out.storedK (s := rs) (u := ru))
                refine wpAnyH_ready (rs := [10]) (by kernel_rfl) (by simp) ?_
                refine AllReadyH.cons rfl (fun K hK => ?_) ?_
                · rw [if_pos (by rfl)]
                  go_simp
                  refine hK.out _ _ ?_ (fun hHeld => ?_)
                  · exact hHeld
                  clear hK K
                  try simp only [Act.put, List.getElem_toArray, List.getElem_cons_zero, List.getElem_cons_succ, List.setIfInBounds_toArray, List.set_cons_zero, List.set_cons_succ]
                  refine wpAnyH_done (by kernel_rfl) ?_ _
                  clear hHeld
                  generalize (((x8.setCell ⟨x4.heap.size, 0, none⟩ (Value.int IntKind.i64 rs)).setCell ⟨x4.heap.size, 1, none⟩ (Value.int IntKind.i64 ru)).setCell ⟨x4.heap.size, 2, none⟩ (Value.slice oR RS.length cR)) = xz at hF ⊢
                  have hb := hF.out.1
                  exact CONT10.out _ oR cR _ (P6.out.on hb) (W6.out.on hb) (X6.out.on hb) hF.out.2 _ _ _ _ _ _ _ _ _ _ _ _ _ _ _ _ _ _ _ _ _ _ _ _ _ _ _ _ _ _ _ _ _ _ _ _ _ _ _ _ _ _ _ _ _ _ _ _ _ _ _ _ _ _ _ _ _ _ _ _ _ _ _ _ _ _ _ _ _ _ _ _ _ _ _ _ _ _ _ _ _ _ _ _ _ _ _ _ _ _ _ _ _ _ _ _ _ _ _ _ _ _ _ _
                exact AllReadyH.nil
              exact AllReadyH.nil
            exact AllReadyH.nil
          refine AllReadyH.cons rfl (fun K hK => ?_) ?_
          · have HS8 := hide HS3.out.alloc18
            have HA8 := hide (HA3.out.below ((Below.refl _ _).alloc (Nat.le_refl _) (Obj.cells #[Value.int IntKind.i64 0, Value.int IntKind.i64 0, Value.slice none 0 0] 29)))
            rw [if_pos (by rfl)]
            go_simp
            refine hK.out _ _ ?_ (fun hHeld => ?_)
            · exact PFX.out HS8.out.bel
            clear hK K
            try simp only [Act.put, List.getElem_toArray, List.getElem_cons_zero, List.getElem_cons_succ, List.setIfInBounds_toArray, List.set_cons_zero, List.set_cons_succ]
            generalize x3.alloc (Obj.cells #[Value.int IntKind.i64 0, Value.int IntKind.i64 0, Value.slice none 0 0] 29) = x8 at HS8 hHeld ⊢ HA8
            refine wpAnyH_ready (rs := [4]) (by kernel_rfl) (by simp) ?_
            refine AllReadyH.cons rfl (fun K hK => ?_) ?_
            · rw [if_pos (by rfl)]
              go_simp
              go_at_call 21
              refine (HIM.out _ _ _ HA8.out).mono ?_
              rintro r x4 ⟨v4, rfl, ho4, hb4⟩
              obtain ⟨oR, cR, rfl⟩ := own_form3 ho4
              have HS4 := hide ((HS8.out.on hb4).give (own_base ho4 HS8.out.bel.size))
              clear ho4 hb4
              try go_simp
              refine hK.out _ _ ?_ (fun hHeld => ?_)
              · exact PFX.out HS4.out.bel
              clear hK K
              try simp only [Act.put, List.getElem_toArray, List.getElem_cons_zero, List.getElem_cons_succ, List.setIfInBounds_toArray, List.set_cons_zero, List.set_cons_succ]
              refine wpAnyH_take (i := 5) (v := ?_) rfl (by kernel_rfl) (by kernel_rfl) (by kernel_rfl) (fun _ _ _ h => h) (Or.inl ⟨by rfl, ?_⟩) (by assumption) ?_; rotate_left
              · (intro wz hSw; obtain ⟨z0, z1, z2, z3, z4, z5⟩ := PF.cells hSw.1; obtain ⟨z6, z7, z8⟩ := hSw.2.lv; clear hSw; go_simp; first | done | with_reducible rfl)
              try simp only [Act.put, List.getElem_toArray, List.getElem_cons_zero, List.getElem_cons_succ, List.setIfInBounds_toArray, List.set_cons_zero, List.set_cons_succ]
              refine wpAnyH_take (i := 6) (v := ?_) rfl (by kernel_rfl) (by kernel_rfl) (by kernel_rfl) (fun _ _ _ h => h) (Or.inl ⟨by rfl, ?_⟩) (by assumption) ?_; rotate_left
              · (intro wz hSw; obtain ⟨z0, z1, z2, z3, z4, z5⟩ := PF.cells hSw.1; obtain ⟨z6, z7, z8⟩ := hSw.2.lv; clear hSw; go_simp; first | done | with_reducible rfl)
              try simp only [Act.put, List.getElem_toArray, List.getElem_cons_zero, List.getElem_cons_succ, List.setIfInBounds_toArray, List.set_cons_zero, List.set_cons_succ]
              refine wpAnyH_take (i := 7) (v := ?_) rfl (by kernel_rfl) (by kernel_rfl) (by kernel_rfl) (fun _ _ _ h => h) (Or.inl ⟨by rfl, ?_⟩) (by assumption) ?_; rotate_left
              · (intro wz hSw; obtain ⟨z0, z1, z2, z3, z4, z5⟩ := PF.cells hSw.1; obtain ⟨z6, z7, z8⟩ := hSw.2.lv; clear hSw; go_simp; first | done | with_reducible rfl)
              try simp only [Act.put, List.getElem_toArray, List.getElem_cons_zero, List.getElem_cons_succ, List.setIfInBounds_toArray, List.set_cons_zero, List.set_cons_succ]
              refine wpAnyH_ready (rs := [9]) (by kernel_rfl) (by simp) ?_
              refine AllReadyH.cons rfl (fun K hK => ?_) ?_
              · have hq := (HS4.out.h18 _ rfl).2
                have q0 := blk_cell hq 0 rfl
                have q1 := blk_cell hq 1 rfl
                have q2 := blk_cell hq 2 rfl
                have f0 := blk_free hq 0
                have f1 := blk_free hq 1
                have f2 := blk_free hq 2
                simp only [List.getElem_toArray, List.getElem_cons_zero, List.getElem_cons_succ] at q0 q1 q2
                rw [if_pos (by rfl)]
                go_simp
                refine hK.out _ _ ?_ (fun hHeld => ?_)
                · exact PFX.out (HS4.out.stored (s := rs) (u := ru)).1
                clear hK K
                try simp only [Act.put, List.getElem_toArray, List.getElem_cons_zero, List.getElem_cons_succ, List.setIfInBounds_toArray, List.set_cons_zero, List.set_cons_succ]
                clear hq q0 q1 q2 f0 f1 f2
                have hF := hide (HS4.out.storedK (s := rs) (u := ru))
                refine wpAnyH_ready (rs := [10]) (by kernel_rfl) (by simp) ?_
                refine AllReadyH.cons rfl (fun K hK => ?_) ?_
                · rw [if_pos (by rfl)]
                  go_simp
                  refine hK.out _ _ ?_ (fun hHeld => ?_)
                  · exact hHeld
                  clear hK K
                  try simp only [Act.put, List.getElem_toArray, List.getElem_cons_zero, List.getElem_cons_succ, List.setIfInBounds_toArray, List.set_cons_zero, List.set_cons_succ]
                  refine wpAnyH_done (by kernel_rfl) ?_ _
                  clear hHeld
                  generalize (((x4.setCell ⟨x3.heap.size, 0, none⟩ (Value.int IntKind.i64 rs)).setCell ⟨x3.heap.size, 1, none⟩ (Value.int IntKind.i64 ru)).setCell ⟨x3.heap.size, 2, none⟩ (Value.slice oR RS.length cR)) = xz at hF ⊢
                  have hb := hF.out.1
                  exact CONT10.out _ oR cR _ (P6.out.on hb) (W6.out.on hb) (X6.out.on hb) hF.out.2 _ _ _ _ _ _ _ _ _ _ _ _ _ _ _ _ _ _ _ _ _ _ _ _ _ _ _ _ _ _ _ _ _ _ _ _ _ _ _ _ _ _ _ _ _ _ _ _ _ _ _ _ _ _ _ _ _ _ _ _ _ _ _ _ _ _ _ _ _ _ _ _ _ _ _ _ _ _ _ _ _ _ _ _ _ _ _ _ _ _ _ _ _ _ _ _ _ _ _ _ _ _ _ _
                exact AllReadyH.nil
              exact AllReadyH.nil
            exact AllReadyH.nil
          exact AllReadyH.nil
        refine AllReadyH.cons rfl (fun K hK => ?_) ?_
        · have HS8 := hide HSs.out.alloc18
          have HA8 := hide (HAs.out.below ((Below.refl _ _).alloc (Nat.le_refl _) (Obj.cells #[Value.int IntKind.i64 0, Value.int IntKind.i64 0, Value.slice none 0 0] 29)))
          rw [if_pos (by rfl)]
          go_simp
          refine hK.out _ _ ?_ (fun hHeld => ?_)
          · exact PFX.out HS8.out.bel
          clear hK K
          try simp only [Act.put, List.getElem_toArray, List.getElem_cons_zero, List.getElem_cons_succ, List.setIfInBounds_toArray, List.set_cons_zero, List.set_cons_succ]
          generalize xs.alloc (Obj.cells #[Value.int IntKind.i64 0, Value.int IntKind.i64 0, Value.slice none 0 0] 29) = x8 at HS8 hHeld ⊢ HA8
          refine wpAnyH_ready (rs := [3]) (by kernel_rfl) (by simp) ?_
          refine AllReadyH.cons rfl (fun K hK => ?_) ?_
          · rw [if_pos (by rfl)]
            go_simp
            go_at_call 20
            refine (HTE.out _).mono ?_
            rintro r x3 ⟨rfl, hb3⟩
            have HS3 := hide (HS8.out.on hb3)
            have HA3 := hide (HA8.out.below (hb3))
            clear hb3
            try go_simp
            refine hK.out _ _ ?_ (fun hHeld => ?_)
            · exact PFX.out HS3.out.bel
            clear hK K
            try simp only [Act.put, List.getElem_toArray, List.getElem_cons_zero, List.getElem_cons_succ, List.setIfInBounds_toArray, List.set_cons_zero, List.set_cons_succ]
            refine wpAnyH_ready (rs := [4]) (by kernel_rfl) (by simp) ?_
            refine AllReadyH.cons rfl (fun K hK => ?_) ?_
            · rw [if_pos (by rfl)]
              go_simp
              go_at_call 21
              refine (HIM.out _ _ _ HA3.out).mono ?_
              rintro r x4 ⟨v4, rfl, ho4, hb4⟩
              obtain ⟨oR, cR, rfl⟩ := own_form3 ho4
              have HS4 := hide ((HS3.out.on hb4).give (own_base ho4 HS3.out.bel.size))
              clear ho4 hb4
              try go_simp
              refine hK.out _ _ ?_ (fun hHeld => ?_)
              · exact PFX.out HS4.out.bel
              clear hK K
              try simp only [Act.put, List.getElem_toArray, List.getElem_cons_zero, List.getElem_cons_succ, List.setIfInBounds_toArray, List.set_cons_zero, List.set_cons_succ]
              refine wpAnyH_take (i := 5) (v := ?_) rfl (by kernel_rfl) (by kernel_rfl) (by kernel_rfl) (fun _ _ _ h => h) (Or.inl ⟨by rfl, ?_⟩) (by assumption) ?_; rotate_left
              · (intro wz hSw; obtain ⟨z0, z1, z2, z3, z4, z5⟩ := PF.cells hSw.1; obtain ⟨z6, z7, z8⟩ := hSw.2.lv; clear hSw; go_simp; first | done | with_reducible rfl)
              try simp only [Act.put, List.getElem_toArray, List.getElem_cons_zero, List.getElem_cons_succ, List.setIfInBounds_toArray, List.set_cons_zero, List.set_cons_succ]
              refine wpAnyH_take (i := 6) (v := ?_) rfl (by kernel_rfl) (by kernel_rfl) (by kernel_rfl) (fun _ _ _ h => h) (Or.inl ⟨by rfl, ?_⟩) (by assumption) ?_; rotate_left
              · (intro wz hSw; obtain ⟨z0, z1, z2, z3, z4, z5⟩ := PF.cells hSw.1; obtain ⟨z6, z7, z8⟩ := hSw.2.lv; clear hSw; go_simp; first | done | with_reducible rfl)
              try simp only [Act.put, List.getElem_toArray, List.getElem_cons_zero, List.getElem_cons_succ, List.setIfInBounds_toArray, List.set_cons_zero, List.set_cons_succ]
              refine wpAnyH_take (i := 7) (v := ?_) rfl (by kernel_rfl) (by kernel_rfl) (by kernel_rfl) (fun _ _ _ h => h) (Or.inl ⟨by rfl, ?_⟩) (by assumption) ?_; rotate_left
              · (intro wz hSw; obtain ⟨z0, z1, z2, z3, z4, z5⟩ := PF.cells hSw.1; obtain ⟨z6, z7, z8⟩ := hSw.2.lv; clear hSw; go_simp; first | done | with_reducible rfl)
              try simp only [Act.put, List.getElem_toArray, List.getElem_cons_zero, List.getElem_cons_succ, List.setIfInBounds_toArray, List.set_cons_zero, List.set_cons_succ]
              refine wpAnyH_ready (rs := [9]) (by kernel_rfl) (by simp) ?_
              refine AllReadyH.cons rfl (fun K hK => ?_) ?_
              · have hq := (HS4.out.h18 _ rfl).2
                have q0 := blk_cell hq 0 rfl
                have q1 := blk_cell hq 1 rfl
                have q2 := blk_cell hq 2 rfl
                have f0 := blk_free hq 0
                have f1 := blk_free hq 1
                have f2 := blk_free hq 2
                simp only [List.getElem_toArray, List.getElem_cons_zero, List.getElem_cons_succ] at q0 q1 q2
                rw [if_pos (by rfl)]
                go_simp
                refine hK.out _ _ ?_ (fun hHeld => ?_)
                · exact PFX.out (HS4.out.stored (s := rs) (u := ru)).1
                clear hK K
                try simp only [Act.put, List.getElem_toArray, List.getElem_cons_zero, List.getElem_cons_succ, List.setIfInBounds_toArray, List.set_cons_zero, List.set_cons_succ]
                clear hq q0 q1 q2 f0 f1 f2
                have hF := hide (HS4.out.storedK (s := rs) (u := ru))
                refine wpAnyH_ready (rs := [10]) (by kernel_rfl) (by simp) ?_
                refine AllReadyH.cons rfl (fun K hK => ?_) ?_
                · rw [if_pos (by rfl)]
                  go_simp
                  refine hK.out _ _ ?_ (fun hHeld => ?_)
                  · exact hHeld
                  clear hK K
                  try simp only [Act.put, List.getElem_toArray, List.getElem_cons_zero, List.getElem_cons_succ, List.setIfInBounds_toArray, List.set_cons_zero, List.set_cons_succ]
                  refine wpAnyH_done (by kernel_rfl) ?_ _
                  clear hHeld
                  generalize (((x4.setCell ⟨xs.heap.size, 0, none⟩ (Value.int IntKind.i64 rs)).setCell ⟨xs.heap.size, 1, none⟩ (Value.int IntKind.i64 ru)).setCell ⟨xs.heap.size, 2, none⟩ (Value.slice oR RS.length cR)) = xz at hF ⊢
                  have hb := hF.out.1
                  exact CONT10.out _ oR cR _ (P6.out.on hb) (W6.out.on hb) (X6.out.on hb) hF.out.2 _ _ _ _ _ _ _ _ _ _ _ _ _ _ _ _ _ _ _ _ _ _ _ _ _ _ _ _ _ _ _ _ _ _ _ _ _ _ _ _ _ _ _ _ _ _ _ _ _ _ _ _ _ _ _ _ _ _ _ _ _ _ _ _ _ _ _ _ _ _ _ _ _ _ _ _ _ _ _ _ _ _ _ _ _ _ _ _ _ _ _ _ _ _ _ _ _ _ _ _ _ _ _ _
                exact AllReadyH.nil
              exact AllReadyH.nil
            exact AllReadyH.nil
          exact AllReadyH.nil
        exact AllReadyH.nil
      clear h8
      have WB := hide P2.out.bel
      have HSs := hide (PuSt.start w2 e [] RS)
      refine wp_region_held_drew (S := PF w s u (.slice oa n cap) e) (by kernel_rfl) (P2.out.on (Below.refl _ _).drew) (fun hHeld => ?_)
      generalize w2.drew = xs at HSs hHeld ⊢
      refine wpAnyH_take (i := 0) (v := ?_) rfl (by kernel_rfl) (by kernel_rfl) (by kernel_rfl) (fun _ _ _ h => h) (Or.inl ⟨by rfl, ?_⟩) (by assumption) ?_; rotate_left
      · (intro wz hSw; obtain ⟨z0, z1, z2, z3, z4, z5⟩ := PF.cells hSw; clear hSw; go_simp; first | done | with_reducible rfl)
      try simp only [Act.put, List.getElem_toArray, List.getElem_cons_zero, List.getElem_cons_succ, List.setIfInBounds_toArray, List.set_cons_zero, List.set_cons_succ]
      refine wpAnyH_take (i := 2) (v := ?_) rfl (by kernel_rfl) (by kernel_rfl) (by kernel_rfl) (fun _ _ _ h => h) (Or.inl ⟨by rfl, ?_⟩) (by assumption) ?_; rotate_left
      · (intro wz hSw; obtain ⟨z0, z1, z2, z3, z4, z5⟩ := PF.cells hSw; clear hSw; go_simp; first | done | with_reducible rfl)
      try simp only [Act.put, List.getElem_toArray, List.getElem_cons_zero, List.getElem_cons_succ, List.setIfInBounds_toArray, List.set_cons_zero, List.set_cons_succ]
      refine wpAnyH_take (i := 3) (v := ?_) rfl (by kernel_rfl) (by kernel_rfl) (by kernel_rfl) (fun _ _ _ h => h) (Or.inl ⟨by rfl, ?_⟩) (by assumption) ?_; rotate_left
      · (intro wz hSw; obtain ⟨z0, z1, z2, z3, z4, z5⟩ := PF.cells hSw; clear hSw; go_simp; first | done | with_reducible rfl)
      try simp only [Act.put, List.getElem_toArray, List.getElem_cons_zero, List.getElem_cons_succ, List.setIfInBounds_toArray, List.set_cons_zero, List.set_cons_succ]
      refine wpAnyH_ready (rs := [1, 9]) (by kernel_rfl) (by simp) ?_
      refine AllReadyH.cons rfl (fun K hK => ?_) ?_
      · rw [if_pos (by rfl)]
        go_simp
        go_at_call 11
        refine (HTO.out _ (HAT.out.below (WB.out.trans (HSs.out.bel.mono WB.out.size)))).mono ?_
        rintro r x1 ⟨g1, rfl, ho1, hb1⟩
        obtain ⟨_, _, heq, hat1⟩ := entsAt_own ho1
        cases heq
        have HA1 := hide hat1
        have HS1 := hide (HSs.out.on hb1)
        clear ho1 hat1 hb1
        try go_simp
        refine hK.out _ _ ?_ (fun hHeld => ?_)
        · exact P2.out.on HS1.out.bel
        clear hK K
        try simp only [Act.put, List.getElem_toArray, List.getElem_cons_zero, List.getElem_cons_succ, List.setIfInBounds_toArray, List.set_cons_zero, List.set_cons_succ]
        refine wpAnyH_ready (rs := [4, 9]) (by kernel_rfl) (by simp) ?_
        refine AllReadyH.cons rfl (fun K hK => ?_) ?_
        · rw [if_pos (by rfl)]
          go_simp
          go_at_call 20
          refine (HTE.out _).mono ?_
          rintro r x4 ⟨rfl, hb4⟩
          have HS4 := hide (HS1.out.on hb4)
          have HA4 := hide (HA1.out.below (hb4))
          clear hb4
          try go_simp
          refine hK.out _ _ ?_ (fun hHeld => ?_)
          · exact P2.out.on HS4.out.bel
          clear hK K
          try simp only [Act.put, List.getElem_toArray, List.getElem_cons_zero, List.getElem_cons_succ, List.setIfInBounds_toArray, List.set_cons_zero, List.set_cons_succ]
          refine wpAnyH_ready (rs := [5, 9]) (by kernel_rfl) (by simp) ?_
          refine AllReadyH.cons rfl (fun K hK => ?_) ?_
          · rw [if_pos (by rfl)]
            go_simp
            go_at_call 19
            refine (HSP.out _ _ _ HA4.out).mono ?_
            rintro r x5 ⟨v5, rfl, ho5, hb5⟩
            obtain ⟨oR, cR, rfl⟩ := own_form3 ho5
            have HS5 := hide ((HS4.out.on hb5).give (own_base ho5 HS4.out.bel.size))
            clear ho5 hb5
            try go_simp
            refine hK.out _ _ ?_ (fun hHeld => ?_)
            · exact P2.out.on HS5.out.bel
            clear hK K
            try simp only [Act.put, List.getElem_toArray, List.getElem_cons_zero, List.getElem_cons_succ, List.setIfInBounds_toArray, List.set_cons_zero, List.set_cons_succ]
            refine wpAnyH_take (i := 6) (v := ?_) rfl (by kernel_rfl) (by kernel_rfl) (by kernel_rfl) (fun _ _ _ h => h) (Or.inl ⟨by rfl, ?_⟩) (by assumption) ?_; rotate_left
            · (intro wz hSw; obtain ⟨z0, z1, z2, z3, z4, z5⟩ := PF.cells hSw; clear hSw; go_simp; first | done | with_reducible rfl)
            try simp only [Act.put, List.getElem_toArray, List.getElem_cons_zero, List.getElem_cons_succ, List.setIfInBounds_toArray, List.set_cons_zero, List.set_cons_succ]
            refine wpAnyH_take (i := 7) (v := ?_) rfl (by kernel_rfl) (by kernel_rfl) (by kernel_rfl) (fun _ _ _ h => h) (Or.inl ⟨by rfl, ?_⟩) (by assumption) ?_; rotate_left
            · (intro wz hSw; obtain ⟨z0, z1, z2, z3, z4, z5⟩ := PF.cells hSw; clear hSw; go_simp; first | done | with_reducible rfl)
            try simp only [Act.put, List.getElem_toArray, List.getElem_cons_zero, List.getElem_cons_succ, List.setIfInBounds_toArray, List.set_cons_zero, List.set_cons_succ]
            refine wpAnyH_take (i := 8) (v := ?_) rfl (by kernel_rfl) (by kernel_rfl) (by kernel_rfl) (fun _ _ _ h => h) (Or.inl ⟨by rfl, ?_⟩) (by assumption) ?_; rotate_left
            · (intro wz hSw; obtain ⟨z0, z1, z2, z3, z4, z5⟩ := PF.cells hSw; clear hSw; go_simp; first | done | with_reducible rfl)
            try simp only [Act.put, List.getElem_toArray, List.getElem_cons_zero, List.getElem_cons_succ, List.setIfInBounds_toArray, List.set_cons_zero, List.set_cons_succ]
            refine wpAnyH_ready (rs := [9]) (by kernel_rfl) (by simp) ?_
            refine AllReadyH.cons rfl (fun K hK => ?_) ?_
            · have HS9 := hide HS5.out.alloc18
              rw [if_pos (by rfl)]
              go_simp
              refine hK.out _ _ ?_ (fun hHeld => ?_)
              · exact P2.out.on HS9.out.bel
              clear hK K
              try simp only [Act.put, List.getElem_toArray, List.getElem_cons_zero, List.getElem_cons_succ, List.setIfInBounds_toArray, List.set_cons_zero, List.set_cons_succ]
              generalize x5.alloc (Obj.cells #[Value.int IntKind.i64 0, Value.int IntKind.i64 0, Value.slice none 0 0] 29) = x9 at HS9 hHeld ⊢
              refine wpAnyH_ready (rs := [10]) (by kernel_rfl) (by simp) ?_
              refine AllReadyH.cons rfl (fun K hK => ?_) ?_
              · have hq := (HS9.out.h18 _ rfl).2
                have q0 := blk_cell hq 0 rfl
                have q1 := blk_cell hq 1 rfl
                have q2 := blk_cell hq 2 rfl
                have f0 := blk_free hq 0
                have f1 := blk_free hq 1
                have f2 := blk_free hq 2
                simp only [List.getElem_toArray, List.getElem_cons_zero, List.getElem_cons_succ] at q0 q1 q2
                rw [if_pos (by rfl)]
                go_simp
                refine hK.out _ _ ?_ (fun hHeld => ?_)
                · exact P2.out.on (HS9.out.stored (s := rs) (u := ru)).1
                clear hK K
                try simp only [Act.put, List.getElem_toArray, List.getElem_cons_zero, List.getElem_cons_succ, List.setIfInBounds_toArray, List.set_cons_zero, List.set_cons_succ]
                clear hq q0 q1 q2 f0 f1 f2
                have hF := hide (HS9.out.storedK (s := rs) (u := ru))
                refine wpAnyH_ready (rs := [11]) (by kernel_rfl) (by simp) ?_
                refine AllReadyH.cons rfl (fun K hK => ?_) ?_
                · rw [if_pos (by rfl)]
                  go_simp
                  refine hK.out _ _ ?_ (fun hHeld => ?_)
                  · exact hHeld
                  clear hK K
                  try simp only [Act.put, List.getElem_toArray, List.getElem_cons_zero, List.getElem_cons_succ, List.setIfInBounds_toArray, List.set_cons_zero, List.set_cons_succ]
                  refine wpAnyH_done (by kernel_rfl) ?_ _
                  clear hHeld
                  generalize (((x9.setCell ⟨x5.heap.size, 0, none⟩ (Value.int IntKind.i64 rs)).setCell ⟨x5.heap.size, 1, none⟩ (Value.int IntKind.i64 ru)).setCell ⟨x5.heap.size, 2, none⟩ (Value.slice oR RS.length cR)) = xz at hF ⊢
                  have hb := hF.out.1
                  exact CONT8.out _ w2.heap.size oR cR _ (P2.out.on hb) WB.out.size hF.out.2 _ _ _ _ _ _ _ _ _ _ _ _ _ _ _ _ _ _ _ _ _ _ _ _ _ _ _ _ _ _ _ _ _ _ _ _ _ _ _ _ _ _ _ _ _ _ _ _ _ _ _ _ _ _ _ _ _ _ _ _ _ _ _ _ _ _ _ _ _ _ _ _ _ _ _ _ _ _ _ _ _ _ _ _ _ _ _ _ _ _ _ _ _ _ _ _ _ _ _ _ _ _ _ _ _ _ _
                exact AllReadyH.nil
              exact AllReadyH.nil
            exact AllReadyH.nil
          refine AllReadyH.cons rfl (fun K hK => ?_) ?_
          · have HS9 := hide HS4.out.alloc18
            have HA9 := hide (HA4.out.below ((Below.refl _ _).alloc (Nat.le_refl _) (Obj.cells #[Value.int IntKind.i64 0, Value.int IntKind.i64 0, Value.slice none 0 0] 29)))
            rw [if_pos (by rfl)]
            go_simp
            refine hK.out _ _ ?_ (fun hHeld => ?_)
            · exact P2.out.on HS9.out.bel
            clear hK K
            try simp only [Act.put, List.getElem_toArray, List.getElem_cons_zero, List.getElem_cons_succ, List.setIfInBounds_toArray, List.set_cons_zero, List.set_cons_succ]
            generalize x4.alloc (Obj.cells #[Value.int IntKind.i64 0, Value.int IntKind.i64 0, Value.slice none 0 0] 29) = x9 at HS9 hHeld ⊢ HA9
            refine wpAnyH_ready (rs := [5]) (by kernel_rfl) (by simp) ?_
            refine AllReadyH.cons rfl (fun K hK => ?_) ?_
            · rw [if_pos (by rfl)]
              go_simp
              go_at_call 19
              refine (HSP.out _ _ _ HA9.out).mono ?_
              rintro r x5 ⟨v5, rfl, ho5, hb5⟩
              obtain ⟨oR, cR, rfl⟩ := own_form3 ho5
              have HS5 := hide ((HS9.out.on hb5).give (own_base ho5 HS9.out.bel.size))
              clear ho5 hb5
              try go_simp
              refine hK.out _ _ ?_ (fun hHeld => ?_)
              · exact P2.out.on HS5.out.bel
              clear hK K
              try simp only [Act.put, List.getElem_toArray, List.getElem_cons_zero, List.getElem_cons_succ, List.setIfInBounds_toArray, List.set_cons_zero, List.set_cons_succ]
              refine wpAnyH_take (i := 6) (v := ?_) rfl (by kernel_rfl) (by kernel_rfl) (by kernel_rfl) (fun _ _ _ h => h) (Or.inl ⟨by rfl, ?_⟩) (by assumption) ?_; rotate_left
              · (intro wz hSw; obtain ⟨z0, z1, z2, z3, z4, z5⟩ := PF.cells hSw; clear hSw; go_simp; first | done | with_reducible rfl)
              try simp only [Act.put, List.getElem_toArray, List.getElem_cons_zero, List.getElem_cons_succ, List.setIfInBounds_toArray, List.set_cons_zero, List.set_cons_succ]
              refine wpAnyH_take (i := 7) (v := ?_) rfl (by kernel_rfl) (by kernel_rfl) (by kernel_rfl) (fun _ _ _ h => h) (Or.inl ⟨by rfl, ?_⟩) (by assumption) ?_; rotate_left
              · (intro wz hSw; obtain ⟨z0, z1, z2, z3, z4, z5⟩ := PF.cells hSw; clear hSw; go_simp; first | done | with_reducible rfl)
              try simp only [Act.put, List.getElem_toArray, List.getElem_cons_zero, List.getElem_cons_succ, List.setIfInBounds_toArray, List.set_cons_zero, List.set_cons_succ]
              refine wpAnyH_take (i := 8) (v := ?_) rfl (by kernel_rfl) (by kernel_rfl) (by kernel_rfl) (fun _ _ _ h => h) (Or.inl ⟨by rfl, ?_⟩) (by assumption) ?_; rotate_left
              · (intro wz hSw; obtain ⟨z0, z1, z2, z3, z4, z5⟩ := PF.cells hSw; clear hSw; go_simp; first | done | with_reducible rfl)
              try simp only [Act.put, List.getElem_toArray, List.getElem_cons_zero, List.getElem_cons_succ, List.setIfInBounds_toArray, List.set_cons_zero, List.set_cons_succ]
              refine wpAnyH_ready (rs := [10]) (by kernel_rfl) (by simp) ?_
              refine AllReadyH.cons rfl (fun K hK => ?_) ?_
              · have hq := (HS5.out.h18 _ rfl).2
                have q0 := blk_cell hq 0 rfl
                have q1 := blk_cell hq 1 rfl
                have q2 := blk_cell hq 2 rfl
                have f0 := blk_free hq 0
                have f1 := blk_free hq 1
                have f2 := blk_free hq 2
                simp only [List.getElem_toArray, List.getElem_cons_zero, List.getElem_cons_succ] at q0 q1 q2
                rw [if_pos (by rfl)]
                go_simp
                refine hK.out _ _ ?_ (fun hHeld => ?_)
                · exact P2.out.on (HS5.out.stored (s := rs) (u := ru)).1
                clear hK K
                try simp only [Act.put, List.getElem_toArray, List.getElem_cons_zero, List.getElem_cons_succ, List.setIfInBounds_toArray, List.set_cons_zero, List.set_cons_succ]
                clear hq q0 q1 q2 f0 f1 f2
                have hF := hide (HS5.out.storedK (s := rs) (u := ru))
                refine wpAnyH_ready (rs := [11]) (by kernel_rfl) (by simp) ?_
                refine AllReadyH.cons rfl (fun K hK => ?_) ?_
                · rw [if_pos (by rfl)]
                  go_simp
                  refine hK.out _ _ ?_ (fun hHeld => ?_)
                  · exact hHeld
                  clear hK K
                  try simp only [Act.put, List.getElem_toArray, List.getElem_cons_zero, List.getElem_cons_succ, List.setIfInBounds_toArray, List.set_cons_zero, List.set_cons_succ]
                  refine wpAnyH_done (by kernel_rfl) ?_ _
                  clear hHeld
                  generalize (((x5.setCell ⟨x4.heap.size, 0, none⟩ (Value.int IntKind.i64 rs)).setCell ⟨x4.heap.size, 1, none⟩ (Value.int IntKind.i64 ru)).setCell ⟨x4.heap.size, 2, none⟩ (Value.slice oR RS.length cR)) = xz at hF ⊢
                  have hb := hF.out.1
                  exact CONT8.out _ w2.heap.size oR cR _ (P2.out.on hb) WB.out.size hF.out.2 _ _ _ _ _ _ _ _ _ _ _ _ _ _ _ _ _ _ _ _ _ _ _ _ _ _ _ _ _ _ _ _ _ _ _ _ _ _ _ _ _ _ _ _ _ _ _ _ _ _ _ _ _ _ _ _ _ _ _ _ _ _ _ _ _ _ _ _ _ _ _ _ _ _ _ _ _ _ _ _ _ _ _ _ _ _ _ _ _ _ _ _ _ _ _ _ _ _ _ _ _ _ _ _ _ _ _
                exact AllReadyH.nil
              exact AllReadyH.nil
            exact AllReadyH.nil
          exact AllReadyH.nil
        refine AllReadyH.cons rfl (fun K hK => ?_) ?_
        · have HS9 := hide HS1.out.alloc18
          have HA9 := hide (HA1.out.below ((Below.refl _ _).alloc (Nat.le_refl _) (Obj.cells #[Value.int IntKind.i64 0, Value.int IntKind.i64 0, Value.slice none 0 0] 29)))
          rw [if_pos (by rfl)]
          go_simp
          refine hK.out _ _ ?_ (fun hHeld => ?_)
          · exact P2.out.on HS9.out.bel
          clear hK K
          try simp only [Act.put, List.getElem_toArray, List.getElem_cons_zero, List.getElem_cons_succ, List.setIfInBounds_toArray, List.set_cons_zero, List.set_cons_succ]
          generalize x1.alloc (Obj.cells #[Value.int IntKind.i64 0, Value.int IntKind.i64 0, Value.slice none 0 0] 29) = x9 at HS9 hHeld ⊢ HA9
          refine wpAnyH_ready (rs := [4]) (by kernel_rfl) (by simp) ?_
          refine AllReadyH.cons rfl (fun K hK => ?_) ?_
          · rw [if_pos (by rfl)]
            go_simp
            go_at_call 20
            refine (HTE.out _).mono ?_
            rintro r x4 ⟨rfl, hb4⟩
            have HS4 := hide (HS9.out.on hb4)
            have HA4 := hide (HA9.out.below (hb4))
            clear hb4
            try go_simp
            refine hK.out _ _ ?_ (fun hHeld => ?_)
            · exact P2.out.on HS4.out.bel
            clear hK K
            try simp only [Act.put, List.getElem_toArray, List.getElem_cons_zero, List.getElem_cons_succ, List.setIfInBounds_toArray, List.set_cons_zero, List.set_cons_succ]
            refine wpAnyH_ready (rs := [5]) (by kernel_rfl) (by simp) ?_
            refine AllReadyH.cons rfl (fun K hK => ?_) ?_
            · rw [if_pos (by rfl)]
              go_simp
              go_at_call 19
              refine (HSP.out _ _ _ HA4.out).mono ?_
              rintro r x5 ⟨v5, rfl, ho5, hb5⟩
              obtain ⟨oR, cR, rfl⟩ := own_form3 ho5
              have HS5 := hide ((HS4.out.on hb5).give (own_base ho5 HS4.out.bel.size))
              clear ho5 hb5
              try go_simp
              refine hK.out _ _ ?_ (fun hHeld => ?_)
              · exact P2.out.on HS5.out.bel
              clear hK K
              try simp only [Act.put, List.getElem_toArray, List.getElem_cons_zero, List.getElem_cons_succ, List.setIfInBounds_toArray, List.set_cons_zero, List.set_cons_succ]
              refine wpAnyH_take (i := 6) (v := ?_) rfl (by kernel_rfl) (by kernel_rfl) (by kernel_rfl) (fun _ _ _ h => h) (Or.inl ⟨by rfl, ?_⟩) (by assumption) ?_; rotate_left
              · (intro wz hSw; obtain ⟨z0, z1, z2, z3, z4, z5⟩ := PF.cells hSw; clear hSw; go_simp; first | done | with_reducible rfl)
              try simp only [Act.put, List.getElem_toArray, List.getElem_cons_zero, List.getElem_cons_succ, List.setIfInBounds_toArray, List.set_cons_zero, List.set_cons_succ]
              refine wpAnyH_take (i := 7) (v := ?_) rfl (by kernel_rfl) (by kernel_rfl) (by kernel_rfl) (fun _ _ _ h => h) (Or.inl ⟨by rfl, ?_⟩) (by assumption) ?_; rotate_left
              · (intro wz hSw; obtain ⟨z0, z1, z2, z3, z4, z5⟩ := PF.cells hSw; clear hSw; go_simp; first | done | with_reducible rfl)
              try simp only [Act.put, List.getElem_toArray, List.getElem_cons_zero, List.getElem_cons_succ, List.setIfInBounds_toArray, List.set_cons_zero, List.set_cons_succ]
              refine wpAnyH_take (i := 8) (v := ?_) rfl (by kernel_rfl) (by kernel_rfl) (by kernel_rfl) (fun _ _ _ h => h) (Or.inl ⟨by rfl, ?_⟩) (by assumption) ?_; rotate_left
              · (intro wz hSw; obtain ⟨z0, z1, z2, z3, z4, z5⟩ := PF.cells hSw; clear hSw; go_simp; first | done | with_reducible rfl)
              try simp only [Act.put, List.getElem_toArray, List.getElem_cons_zero, List.getElem_cons_succ, List.setIfInBounds_toArray, List.set_cons_zero, List.set_cons_succ]
              refine wpAnyH_ready (rs := [10]) (by kernel_rfl) (by simp) ?_
              refine AllReadyH.cons rfl (fun K hK => ?_) ?_
              · have hq := (HS5.out.h18 _ rfl).2
                have q0 := blk_cell hq 0 rfl
                have q1 := blk_cell hq 1 rfl
                have q2 := blk_cell hq 2 rfl
                have f0 := blk_free hq 0
                have f1 := blk_free hq 1
                have f2 := blk_free hq 2
                simp only [List.getElem_toArray, List.getElem_cons_zero, List.getElem_cons_succ] at q0 q1 q2
                rw [if_pos (by rfl)]
                go_simp
                refine hK.out _ _ ?_ (fun hHeld => ?_)
                · exact P2.out.on (HS5.out.stored (s := rs) (u := ru)).1
                clear hK K
                try simp only [Act.put, List.getElem_toArray, List.getElem_cons_zero, List.getElem_cons_succ, List.setIfInBounds_toArray, List.set_cons_zero, List.set_cons_succ]
                clear hq q0 q1 q2 f0 f1 f2
                have hF := hide (HS5.out.storedK (s := rs) (u := ru))
                refine wpAnyH_ready (rs := [11]) (by kernel_rfl) (by simp) ?_
                refine AllReadyH.cons rfl (fun K hK => ?_) ?_
                · rw [if_pos (by rfl)]
                  go_simp
                  refine hK.out _ _ ?_ (fun hHeld => ?_)
                  · exact hHeld
                  clear hK K
                  try simp only [Act.put, List.getElem_toArray, List.getElem_cons_zero, List.getElem_cons_succ, List.setIfInBounds_toArray, List.set_cons_zero, List.set_cons_succ]
                  refine wpAnyH_done (by kernel_rfl) ?_ _
                  clear hHeld
                  generalize (((x5.setCell ⟨x1.heap.size, 0, none⟩ (Value.int IntKind.i64 rs)).setCell ⟨x1.heap.size, 1, none⟩ (Value.int IntKind.i64 ru)).setCell ⟨x1.heap.size, 2, none⟩ (Value.slice oR RS.length cR)) = xz at hF ⊢
                  have hb := hF.out.1
                  exact CONT8.out _ w2.heap.size oR cR _ (P2.out.on hb) WB.out.size hF.out.2 _ _ _ _ _ _ _ _ _ _ _ _ _ _ _ _ _ _ _ _ _ _ _ _ _ _ _ _ _ _ _ _ _ _ _ _ _ _ _ _ _ _ _ _ _ _ _ _ _ _ _ _ _ _ _ _ _ _ _ _ _ _ _ _ _ _ _ _ _ _ _ _ _ _ _ _ _ _ _ _ _ _ _ _ _ _ _ _ _ _ _ _ _ _ _ _ _ _ _ _ _ _ _ _ _ _ _
                exact AllReadyH.nil
              exact AllReadyH.nil
            exact AllReadyH.nil
          exact AllReadyH.nil
        exact AllReadyH.nil
      refine AllReadyH.cons rfl (fun K hK => ?_) ?_
      · have HS9 := hide HSs.out.alloc18
        rw [if_pos (by rfl)]
        go_simp
        refine hK.out _ _ ?_ (fun hHeld => ?_)
        · exact P2.out.on HS9.out.bel
        clear hK K
        try simp only [Act.put, List.getElem_toArray, List.getElem_cons_zero, List.getElem_cons_succ, List.setIfInBounds_toArray, List.set_cons_zero, List.set_cons_succ]
        generalize xs.alloc (Obj.cells #[Value.int IntKind.i64 0, Value.int IntKind.i64 0, Value.slice none 0 0] 29) = x9 at HS9 hHeld ⊢
        refine wpAnyH_ready (rs := [1]) (by kernel_rfl) (by simp) ?_
        refine AllReadyH.cons rfl (fun K hK => ?_) ?_
        · rw [if_pos (by rfl)]
          go_simp
          go_at_call 11
          refine (HTO.out _ (HAT.out.below (WB.out.trans (HS9.out.bel.mono WB.out.size)))).mono ?_
          rintro r x1 ⟨g1, rfl, ho1, hb1⟩
          obtain ⟨_, _, heq, hat1⟩ := entsAt_own ho1
          cases heq
          have HA1 := hide hat1
          have HS1 := hide (HS9.out.on hb1)
          clear ho1 hat1 hb1
          try go_simp
          refine hK.out _ _ ?_ (fun hHeld => ?_)
          · exact P2.out.on HS1.out.bel
          clear hK K
          try simp only [Act.put, List.getElem_toArray, List.getElem_cons_zero, List.getElem_cons_succ, List.setIfInBounds_toArray, List.set_cons_zero, List.set_cons_succ]
          refine wpAnyH_ready (rs := [4]) (by kernel_rfl) (by simp) ?_
          refine AllReadyH.cons rfl (fun K hK => ?_) ?_
          · rw [if_pos (by rfl)]
            go_simp
            go_at_call 20
            refine (HTE.out _).mono ?_
            rintro r x4 ⟨rfl, hb4⟩
            have HS4 := hide (HS1.out.on hb4)
            have HA4 := hide (HA1.out.below (hb4))
            clear hb4
            try go_simp
            refine hK.out _ _ ?_ (fun hHeld => ?_)
            · exact P2.out.on HS4.out.bel
            clear hK K
            try simp only [Act.put, List.getElem_toArray, List.getElem_cons_zero, List.getElem_cons_succ, List.setIfInBounds_toArray, List.set_cons_zero, List.set_cons_succ]
            refine wpAnyH_ready (rs := [5]) (by kernel_rfl) (by simp) ?_
            refine AllReadyH.cons rfl (fun K hK => ?_) ?_
            · rw [if_pos (by rfl)]
              go_simp
              go_at_call 19
              refine (HSP.out _ _ _ HA4.out).mono ?_
              rintro r x5 ⟨v5, rfl, ho5, hb5⟩
              obtain ⟨oR, cR, rfl⟩ := own_form3 ho5
              have HS5 := hide ((HS4.out.on hb5).give (own_base ho5 HS4.out.bel.size))
              clear ho5 hb5
              try go_simp
              refine hK.out _ _ ?_ (fun hHeld => ?_)
              · exact P2.out.on HS5.out.bel
              clear hK K
              try simp only [Act.put, List.getElem_toArray, List.getElem_cons_zero, List.getElem_cons_succ, List.setIfInBounds_toArray, List.set_cons_zero, List.set_cons_succ]
              refine wpAnyH_take (i := 6) (v := ?_) rfl (by kernel_rfl) (by kernel_rfl) (by kernel_rfl) (fun _ _ _ h => h) (Or.inl ⟨by rfl, ?_⟩) (by assumption) ?_; rotate_left
              · (intro wz hSw; obtain ⟨z0, z1, z2, z3, z4, z5⟩ := PF.cells hSw; clear hSw; go_simp; first | done | with_reducible rfl)
              try simp only [Act.put, List.getElem_toArray, List.getElem_cons_zero, List.getElem_cons_succ, List.setIfInBounds_toArray, List.set_cons_zero, List.set_cons_succ]
              refine wpAnyH_take (i := 7) (v := ?_) rfl (by kernel_rfl) (by kernel_rfl) (by kernel_rfl) (fun _ _ _ h => h) (Or.inl ⟨by rfl, ?_⟩) (by assumption) ?_; rotate_left
              · (intro wz hSw; obtain ⟨z0, z1, z2, z3, z4, z5⟩ := PF.cells hSw; clear hSw; go_simp; first | done | with_reducible rfl)
              try simp only [Act.put, List.getElem_toArray, List.getElem_cons_zero, List.getElem_cons_succ, List.setIfInBounds_toArray, List.set_cons_zero, List.set_cons_succ]
              refine wpAnyH_take (i := 8) (v := ?_) rfl (by kernel_rfl) (by kernel_rfl) (by kernel_rfl) (fun _ _ _ h => h) (Or.inl ⟨by rfl, ?_⟩) (by assumption) ?_; rotate_left
              · (intro wz hSw; obtain ⟨z0, z1, z2, z3, z4, z5⟩ := PF.cells hSw; clear hSw; go_simp; first | done | with_reducible rfl)
              try simp only [Act.put, List.getElem_toArray, List.getElem_cons_zero, List.getElem_cons_succ, List.setIfInBounds_toArray, List.set_cons_zero, List.set_cons_succ]
              refine wpAnyH_ready (rs := [10]) (by kernel_rfl) (by simp) ?_
              refine AllReadyH.cons rfl (fun K hK => ?_) ?_
              · have hq := (HS5.out.h18 _ rfl).2
                have q0 := blk_cell hq 0 rfl
                have q1 := blk_cell hq 1 rfl
                have q2 := blk_cell hq 2 rfl
                have f0 := blk_free hq 0
                have f1 := blk_free hq 1
                have f2 := blk_free hq 2
                simp only [List.getElem_toArray, List.getElem_cons_zero, List.getElem_cons_succ] at q0 q1 q2
                rw [if_pos (by rfl)]
                go_simp
                refine hK.out _ _ ?_ (fun hHeld => ?_)
                · exact P2.out.on (HS5.out.stored (s := rs) (u := ru)).1
                clear hK K
                try simp only [Act.put, List.getElem_toArray, List.getElem_cons_zero, List.getElem_cons_succ, List.setIfInBounds_toArray, List.set_cons_zero, List.set_cons_succ]
                clear hq q0 q1 q2 f0 f1 f2
                have hF := hide (HS5.out.storedK (s := rs) (u := ru))
                refine wpAnyH_ready (rs := [11]) (by kernel_rfl) (by simp) ?_
                refine AllReadyH.cons rfl (fun K hK => ?_) ?_
                · rw [if_pos (by rfl)]
                  go_simp
                  refine hK.out _ _ ?_ (fun hHeld => ?_)
                  · exact hHeld
                  clear hK K
                  try simp only [Act.put, List.getElem_toArray, List.getElem_cons_zero, List.getElem_cons_succ, List.setIfInBounds_toArray, List.set_cons_zero, List.set_cons_succ]
                  refine wpAnyH_done (by kernel_rfl) ?_ _
                  clear hHeld
                  generalize (((x5.setCell ⟨xs.heap.size, 0, none⟩ (Value.int IntKind.i64 rs)).setCell ⟨xs.heap.size, 1, none⟩ (Value.int IntKind.i64 ru)).setCell ⟨xs.heap.size, 2, none⟩ (Value.slice oR RS.length cR)) = xz at hF ⊢
                  have hb := hF.out.1
                  exact CONT8.out _ w2.heap.size oR cR _ (P2.out.on hb) WB.out.size hF.out.2 _ _ _ _ _ _ _ _ _ _ _ _ _ _ _ _ _ _ _ _ _ _ _ _ _ _ _ _ _ _ _ _ _ _ _ _ _ _ _ _ _ _ _ _ _ _ _ _ _ _ _ _ _ _ _ _ _ _ _ _ _ _ _ _ _ _ _ _ _ _ _ _ _ _ _ _ _ _ _ _ _ _ _ _ _ _ _ _ _ _ _ _ _ _ _ _ _ _ _ _ _ _ _ _ _ _ _
                exact AllReadyH.nil
              exact AllReadyH.nil
            exact AllReadyH.nil
          exact AllReadyH.nil
        exact AllReadyH.nil
      exact AllReadyH.nil

end Go.Proofs.Ytboahofacjdppaa
