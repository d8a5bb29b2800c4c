/-
  Walks and mathematics of Cmd6.
-/
import Derived.Test.YtmllcomppjkhhaaGreatDoorRCmd5
import Derived.Test.YtmllcomppjkhhaaGreatDoorRHeldMore
namespace Go.Proofs.YtmllcomppjkhhaaGreatDoor
open Go.RowKit P1 P9 K
attribute [local go_sem ↓] Go.wp_at_zero Go.wp_at_succ
set_option linter.unusedVariables false
set_option linter.unusedSimpArgs false

def cm0 (gS : Nat) (oo : Option Addr) (no co : Nat) (w : World) : World :=
  ((w.alloc (.cells #[.slice (some ⟨gS, 0, none⟩) 1 1, .slice none 0 0, .slice none 0 0, .slice none 0 0, .slice oo no co] 151)).alloc (.cells (cmdC 0 0 0 0 0 0 none 0 0 0) 122)).alloc (.cells (I64z opsL).toArray 3)

theorem cm0_size (gS : Nat) (oo : Option Addr) (no co : Nat) (w : World) : (cm0 gS oo no co w).heap.size = w.heap.size + 3 := by simp [cm0]

theorem cm0_below (gS : Nat) (oo : Option Addr) (no co : Nat) (w : World) : Below w.heap.size w (cm0 gS oo no co w) :=
  (((Below.refl _ _).alloc (Nat.le_refl _) _).alloc (by simp) _).alloc (by simp; omega) _

theorem cm0_own (gS : Nat) (oo : Option Addr) (no co : Nat) (w : World) : (cm0 gS oo no co w).ownsRow (w.heap.size + 2) 3 1 (.slice (some ⟨w.heap.size + 1 + 1, 0, none⟩) 11 11) 11 (I64z opsL) := by
  have := World.ownsRow_lit (base := w.heap.size + 2) (size := 1) ((w.alloc (.cells #[.slice (some ⟨gS, 0, none⟩) 1 1, .slice none 0 0, .slice none 0 0, .slice none 0 0, .slice oo no co] 151)).alloc (.cells (cmdC 0 0 0 0 0 0 none 0 0 0) 122)) (e := 3) (I64z opsL).toArray 11 (by simp) (by decide) (by simp [I64z, opsL])
  simpa [cm0] using this

theorem cm0_hall (gS : Nat) (oo : Option Addr) (no co : Nat) (w : World) : (cm0 gS oo no co w).heap[w.heap.size]? = some (.cells #[.slice (some ⟨gS, 0, none⟩) 1 1, .slice none 0 0, .slice none 0 0, .slice none 0 0, .slice oo no co] 151 (0, 0)) := by
  unfold cm0
  rw [Below.heap_alloc _ _ _ (by simp <;> omega), Below.heap_alloc _ _ _ (by simp)]
  exact heap_alloc_new _ _

theorem cm0_res (gS : Nat) (oo : Option Addr) (no co : Nat) (w : World) : (cm0 gS oo no co w).heap[w.heap.size + 1]? = some (.cells (cmdC 0 0 0 0 0 0 none 0 0 0) 122 (0, 0)) := by
  unfold cm0
  rw [Below.heap_alloc _ _ _ (by simp)]
  have := heap_alloc_new (w.alloc (.cells #[.slice (some ⟨gS, 0, none⟩) 1 1, .slice none 0 0, .slice none 0 0, .slice none 0 0, .slice oo no co] 151)) (.cells (cmdC 0 0 0 0 0 0 none 0 0 0) 122)
  simpa using this

theorem CmS.begin {B p : Nat} {a : Option Addr} {len cap gS tk ls : Nat} {oo : Option Addr} {no co : Nat} {w w2 : World} (x : Int) (hp : p < w.heap.size) (hB : B ≤ w.heap.size)
    (hsb : w.heap[gS]? = some (.cells #[.int .i64 (tk : Int), .int .i64 (ls : Int), .string ⟨#[]⟩] 154 (0, 0))) (hne : gS ≠ p) (hc2 : CurAt B w2 p a len cap) (hg : (cm0 gS oo no co w).grownBy w2 (some p)) :
    CmS B p a len cap gS tk ls oo no co w w2.heap.size (cmdC x 0 0 0 0 0 none 0 0 0) (w2.alloc (.cells (cmdC x 0 0 0 0 0 none 0 0 0) 122)) ∧ w2.cell? ⟨w.heap.size, 0, none⟩ = some (.slice (some ⟨gS, 0, none⟩) 1 1) ∧ w.heap.size < w2.heap.size := by
  have hsz := hg.size
  have hgs := blk_lt hsb
  rw [cm0_size] at hsz
  have hb : Below w2.heap.size w2 (w2.alloc (.cells (cmdC x 0 0 0 0 0 none 0 0 0) 122)) := (Below.refl _ _).alloc (Nat.le_refl _) _
  have hh := (hg.block _ (by rw [cm0_size]; omega) (fun e => by have := Option.some.inj e; omega)).trans (cm0_hall gS oo no co w)
  refine ⟨⟨hc2.kept (hb.mono (by omega)) (hb.block p (by omega)), grown_trans (grown_trans (grown_below (cm0_below gS oo no co w)) hg) (grown_below hb), ?_, ?_, heap_alloc_new _ _, ?_, by omega, hgs, hne, hp, hB⟩, blk_cell hh 0 rfl, by omega⟩
  · exact (hb.block _ (by omega)).trans hh
  · exact (hb.block _ (by omega)).trans ((hg.block _ (by rw [cm0_size]; omega) (fun e => by have := Option.some.inj e; omega)).trans (cm0_res gS oo no co w))
  · exact (hb.block _ (by omega)).trans ((hg.block _ (by rw [cm0_size]; omega) (fun e => hne (Option.some.inj e))).trans (((cm0_below gS oo no co w).block _ hgs).trans hsb))

structure Cm7 (B p : Nat) (a : Option Addr) (len cap : Nat) (gS : Nat) (tk ls : Nat) (oo : Option Addr) (no co : Nat) (w : World) (b5 : Nat) (X : Array Value) (G : Nat) (Y : Array Value) (wr : World) : Prop where
  cm : CmS B p a len cap gS tk ls oo no co w b5 X wr
  blk : wr.heap[G]? = some (.cells Y 154 (0, 0))
  lo : w.heap.size + 2 ≤ G
  ne : G ≠ b5

section
variable {B p : Nat} {a : Option Addr} {len cap gS tk ls : Nat} {oo : Option Addr} {no co : Nat} {w : World} {b5 : Nat} {X : Array Value} {G : Nat} {Y : Array Value} {w1 w2 : World}

theorem CmS.session (h : CmS B p a len cap gS tk ls oo no co w b5 X w1) (Y : Array Value) : Cm7 B p a len cap gS tk ls oo no co w b5 X w1.heap.size Y (w1.alloc (.cells Y 154)) :=
  ⟨h.alloc _, heap_alloc_new _ _, by have := h.size; omega, by have := blk_lt h.xb; omega⟩

theorem Cm7.drawn (h : Cm7 B p a len cap gS tk ls oo no co w b5 X G Y w1) (hc : CurAt B w2 p a len cap) (hg : w1.grownBy w2 (some p)) : Cm7 B p a len cap gS tk ls oo no co w b5 X G Y w2 :=
  ⟨h.cm.drawn hc hg, (hg.block _ (blk_lt h.blk) (fun e => by have := Option.some.inj e; have := h.lo; have := h.cm.hp; omega)).trans h.blk, h.lo, h.ne⟩

theorem Cm7.drew (h : Cm7 B p a len cap gS tk ls oo no co w b5 X G Y w1) : Cm7 B p a len cap gS tk ls oo no co w b5 X G Y w1.drew :=
  ⟨h.cm.drew, h.blk, h.lo, h.ne⟩

theorem Cm7.fill (h : Cm7 B p a len cap gS tk ls oo no co w b5 X G Y w1) (o : Nat) (vs : List Value) : Cm7 B p a len cap gS tk ls oo no co w b5 X G (setArr Y o vs) (w1.setCells G o vs) := by
  obtain ⟨hx, hg⟩ := blk_setAll vs w1 Y o h.blk
  exact ⟨h.cm.other hg h.lo h.ne, hx, h.lo, h.ne⟩

theorem Cm7.put (h : Cm7 B p a len cap gS tk ls oo no co w b5 X G Y w1) (o : Nat) (vs : List Value) : Cm7 B p a len cap gS tk ls oo no co w b5 (setArr X o vs) G Y (w1.setCells b5 o vs) := by
  obtain ⟨hx, hg⟩ := blk_setAll vs w1 X o h.cm.xb
  exact ⟨h.cm.put o vs, (hg.block _ (blk_lt h.blk) (fun e => h.ne (Option.some.inj e))).trans h.blk, h.lo, h.ne⟩
end

theorem setArr_ev (o t s id kd sd : Int) (op : Option Addr) (cp : Nat) :
    setArr (cmdC o t s 0 0 0 none 0 0 0) 3 [.int .i64 id, .int .i64 kd, .int .i64 sd, .int .i64 0, .int .i64 0, .slice none 0 0, .string ⟨#[]⟩, .slice op 0 cp, .int .i64 0] = cmdC o t s id kd sd op cp 0 0 := by
  simp only [cmdC, setArr, List.setIfInBounds_toArray, List.set_cons_zero, List.set_cons_succ, Nat.zero_add, Nat.reduceAdd]

theorem CmS.event {B p : Nat} {a : Option Addr} {len cap gS tk ls : Nat} {oo : Option Addr} {no co : Nat} {w : World} {b5 : Nat} {o t s : Int} {w1 : World} (h : CmS B p a len cap gS tk ls oo no co w b5 (cmdC o t s 0 0 0 none 0 0 0) w1) (id kd sd : Int) (op : Option Addr) (cp : Nat) :
    CmS B p a len cap gS tk ls oo no co w b5 (cmdC o t s id kd sd op cp 0 0) (w1.setCells b5 3 [.int .i64 id, .int .i64 kd, .int .i64 sd, .int .i64 0, .int .i64 0, .slice none 0 0, .string ⟨#[]⟩, .slice op 0 cp, .int .i64 0]) := by
  have h1 := h.put 3 [.int .i64 id, .int .i64 kd, .int .i64 sd, .int .i64 0, .int .i64 0, .slice none 0 0, .string ⟨#[]⟩, .slice op 0 cp, .int .i64 0]
  rwa [setArr_ev] at h1

def Cont15 (B p : Nat) (a : Option Addr) (len cap gS tk ls : Nat) (oo : Option Addr) (no co : Nat) (w w2 : World) (O : Nat → Prop) (K : Act → World → Prop) : Prop :=
  ∀ (o t s : Nat) (wr : World), O o → t ≤ 1000 → s ≤ 1000 → CmS B p a len cap gS tk ls oo no co w w2.heap.size (cmdC o t s 0 0 0 none 0 0 0) wr → ∀ (v1 v2 v6 v7 v8 v9 v10 v11 v12 v13 v14 v15 v16 v17 v18 v19 v20 v21 v22 v23 v24 v25 v26 v27 v28 v29 v30 v31 v32 v33 v34 v35 v36 v37 v38 v39 v40 v41 v42 v43 v44 v45 v46 v47 v48 v49 v50 v51 v52 v53 v54 v55 v56 v57 v58 v59 v60 v61 v62 v63 v64 v65 v66 v67 v68 v69 v70 v71 v72 v73 v74 v75 v76 v77 v78 v79 v80 v81 v82 v83 v84 v85 v86 v87 v88 v89 v90 v91 v92 v93 v94 v95 v96 v97 v98 v99 v100 v101 v102 v103 v104 v105 v106 v107 v108 v109 v110 v111 v112 v113 v114 v115 v116 v117 v118 v119 v120 v121 : Value), K { tmps := (.pointer (some ⟨p, 0, none⟩) :: v1 :: v2 :: .pointer (some ⟨w.heap.size, 0, none⟩) :: .pointer (some ⟨w.heap.size + 1, 0, none⟩) :: .pointer (some ⟨w2.heap.size, 0, none⟩) :: v6 :: v7 :: v8 :: v9 :: v10 :: v11 :: v12 :: v13 :: v14 :: v15 :: v16 :: v17 :: v18 :: v19 :: v20 :: v21 :: v22 :: v23 :: v24 :: v25 :: v26 :: v27 :: v28 :: v29 :: v30 :: v31 :: v32 :: v33 :: v34 :: v35 :: v36 :: v37 :: v38 :: v39 :: v40 :: v41 :: v42 :: v43 :: v44 :: v45 :: v46 :: v47 :: v48 :: v49 :: v50 :: v51 :: v52 :: v53 :: v54 :: v55 :: v56 :: v57 :: v58 :: v59 :: v60 :: v61 :: v62 :: v63 :: v64 :: v65 :: v66 :: v67 :: v68 :: v69 :: v70 :: v71 :: v72 :: v73 :: v74 :: v75 :: v76 :: v77 :: v78 :: v79 :: v80 :: v81 :: v82 :: v83 :: v84 :: v85 :: v86 :: v87 :: v88 :: v89 :: v90 :: v91 :: v92 :: v93 :: v94 :: v95 :: v96 :: v97 :: v98 :: v99 :: v100 :: v101 :: v102 :: v103 :: v104 :: v105 :: v106 :: v107 :: v108 :: v109 :: v110 :: v111 :: v112 :: v113 :: v114 :: v115 :: v116 :: v117 :: v118 :: v119 :: v120 :: v121 :: []).toArray, defers := [] } wr

def Cont29 (B p : Nat) (a : Option Addr) (len cap gS tk ls : Nat) (oo : Option Addr) (no co : Nat) (w w2 : World) (K : Act → World → Prop) : Prop :=
  ∀ (o t s : Nat) (id kd sd : Int) (op : Option Addr) (cp : Nat) (d u : Int) (wr : World), CmdIn (o : Int) t s id kd sd op cp d u → CmS B p a len cap gS tk ls oo no co w w2.heap.size (cmdC (o : Int) t s id kd sd op cp d u) wr → ∀ (v1 v2 v6 v7 v8 v9 v10 v11 v12 v13 v14 v15 v16 v17 v18 v19 v20 v21 v22 v23 v24 v25 v26 v27 v28 v29 v30 v31 v32 v33 v34 v35 v36 v37 v38 v39 v40 v41 v42 v43 v44 v45 v46 v47 v48 v49 v50 v51 v52 v53 v54 v55 v56 v57 v58 v59 v60 v61 v62 v63 v64 v65 v66 v67 v68 v69 v70 v71 v72 v73 v74 v75 v76 v77 v78 v79 v80 v81 v82 v83 v84 v85 v86 v87 v88 v89 v90 v91 v92 v93 v94 v95 v96 v97 v98 v99 v100 v101 v102 v103 v104 v105 v106 v107 v108 v109 v110 v111 v112 v113 v114 v115 v116 v117 v118 v119 v120 v121 : Value), K { tmps := (.pointer (some ⟨p, 0, none⟩) :: v1 :: v2 :: .pointer (some ⟨w.heap.size, 0, none⟩) :: .pointer (some ⟨w.heap.size + 1, 0, none⟩) :: .pointer (some ⟨w2.heap.size, 0, none⟩) :: v6 :: v7 :: v8 :: v9 :: v10 :: v11 :: v12 :: v13 :: v14 :: v15 :: v16 :: v17 :: v18 :: v19 :: v20 :: v21 :: v22 :: v23 :: v24 :: v25 :: v26 :: v27 :: v28 :: v29 :: v30 :: v31 :: v32 :: v33 :: v34 :: v35 :: v36 :: v37 :: v38 :: v39 :: v40 :: v41 :: v42 :: v43 :: v44 :: v45 :: v46 :: v47 :: v48 :: v49 :: v50 :: v51 :: v52 :: v53 :: v54 :: v55 :: v56 :: v57 :: v58 :: v59 :: v60 :: v61 :: v62 :: v63 :: v64 :: v65 :: v66 :: v67 :: v68 :: v69 :: v70 :: v71 :: v72 :: v73 :: v74 :: v75 :: v76 :: v77 :: v78 :: v79 :: v80 :: v81 :: v82 :: v83 :: v84 :: v85 :: v86 :: v87 :: v88 :: v89 :: v90 :: v91 :: v92 :: v93 :: v94 :: v95 :: v96 :: v97 :: v98 :: v99 :: v100 :: v101 :: v102 :: v103 :: v104 :: v105 :: v106 :: v107 :: v108 :: v109 :: v110 :: v111 :: v112 :: v113 :: v114 :: v115 :: v116 :: v117 :: v118 :: v119 :: v120 :: v121 :: []).toArray, defers := [] } wr

set_option maxHeartbeats 40000000 in
theorem l13Command_any (B p : Nat) (a : Option Addr) (len cap gS tk ls : Nat) (oo : Option Addr) (no co : Nat) (w : World) (hB : B ≤ w.heap.size) (hc : CurAt B w p a len cap)
    (hsb : w.heap[gS]? = some (.cells #[.int .i64 (tk : Int), .int .i64 (ls : Int), .string ⟨#[]⟩] 154 (0, 0))) (hne : gS ≠ p) (htk : tk ≤ 900) (hls : ls ≤ 900) :
    Calls Tryz.prog 96 #[.pointer (some ⟨p, 0, none⟩), hallV (some ⟨gS, 0, none⟩) 1 1 oo no co] w (CmPost B p a len cap w) := by
  have hp := hc.lt
  have H0 := cm0_below gS oo no co w
  have HC0 := hide (hc.kept (H0.mono hB) (H0.block p hp))
  have HO0 := hide (own_mono (cm0_own gS oo no co w) (b' := w.heap.size + 2) (Nat.le_refl _))
  clear H0
  unfold hallV
  go_enter Tryz.func96, Tryz.ntmps96
  go_wp2_with fail
  refine (l01PickInt_any B p a len cap (w.heap.size + 2) _ opsL (by decide) (by decide) (cm0 gS oo no co w) (by omega) HO0.out HC0.out).mono ?_
  rintro e w2 ⟨x, hx, rfl, hc2, hg2⟩
  have HX := hide hx
  obtain ⟨hs2, hh2, hl2⟩ := CmS.begin x hp hB hsb hne hc2 hg2
  have HS := hide hs2
  clear hc2 hg2 hx HO0 HC0 hs2 hsb hc
  by_cases hx1 : x = 1
  · subst hx1
    go_wp2_with fail
    refine (l01Once_any B p a len cap 3 (by decide) (by decide) _ HS.out.cur).mono ?_
    rintro r w3 ⟨b, rfl, hc3, hg3⟩
    have HT := hide (HS.out.drawn hc3 hg3)
    clear HS hc3 hg3 hh2
    have h0 := blk_cell HT.out.hb 0 rfl
    cases b with
    | true =>
      have HM : Hid (CmS B p a len cap gS tk ls oo no co w w2.heap.size (cmdC ((1 : Nat) : Int) ((0 : Nat) : Int) ((0 : Nat) : Int) 0 0 0 none 0 0 0) w3) := hide HT.out
      have hin : CmdIn ((1 : Nat) : Int) 0 0 0 0 0 none 0 0 0 := .open_
      have h4 := HM.out.h5
      have a0 : w3.cell? ⟨w2.heap.size, 0, none⟩ = some (.int .i64 1) := blk_cell HM.out.xb 0 rfl
      have a1 : w3.cell? ⟨w2.heap.size, 1, none⟩ = some (.int .i64 0) := blk_cell HM.out.xb 1 rfl
      have a2 : w3.cell? ⟨w2.heap.size, 2, none⟩ = some (.int .i64 0) := blk_cell HM.out.xb 2 rfl
      have a3 : w3.cell? ⟨w2.heap.size, 3, none⟩ = some (.int .i64 0) := blk_cell HM.out.xb 3 rfl
      have a4 : w3.cell? ⟨w2.heap.size, 4, none⟩ = some (.int .i64 0) := blk_cell HM.out.xb 4 rfl
      have a5 : w3.cell? ⟨w2.heap.size, 5, none⟩ = some (.int .i64 0) := blk_cell HM.out.xb 5 rfl
      have a6 : w3.cell? ⟨w2.heap.size, 6, none⟩ = some (.int .i64 0) := blk_cell HM.out.xb 6 rfl
      have a7 : w3.cell? ⟨w2.heap.size, 7, none⟩ = some (.int .i64 0) := blk_cell HM.out.xb 7 rfl
      have a8 : w3.cell? ⟨w2.heap.size, 8, none⟩ = some (.slice none 0 0) := blk_cell HM.out.xb 8 rfl
      have a9 : w3.cell? ⟨w2.heap.size, 9, none⟩ = some (.string ⟨#[]⟩) := blk_cell HM.out.xb 9 rfl
      have a10 : w3.cell? ⟨w2.heap.size, 10, none⟩ = some (.slice none 0 0) := blk_cell HM.out.xb 10 rfl
      have a11 : w3.cell? ⟨w2.heap.size, 11, none⟩ = some (.int .i64 0) := blk_cell HM.out.xb 11 rfl
      have a12 : w3.cell? ⟨w2.heap.size, 12, none⟩ = some (.int .i64 0) := blk_cell HM.out.xb 12 rfl
      have a13 : w3.cell? ⟨w2.heap.size, 13, none⟩ = some (.int .i64 0) := blk_cell HM.out.xb 13 rfl
      have b0 : w3.cell? ⟨w.heap.size + 1, 0, none⟩ = some (.int .i64 0) := blk_cell HM.out.rb 0 rfl
      have b1 : w3.cell? ⟨w.heap.size + 1, 1, none⟩ = some (.int .i64 0) := blk_cell HM.out.rb 1 rfl
      have b2 : w3.cell? ⟨w.heap.size + 1, 2, none⟩ = some (.int .i64 0) := blk_cell HM.out.rb 2 rfl
      have b3 : w3.cell? ⟨w.heap.size + 1, 3, none⟩ = some (.int .i64 0) := blk_cell HM.out.rb 3 rfl
      have b4 : w3.cell? ⟨w.heap.size + 1, 4, none⟩ = some (.int .i64 0) := blk_cell HM.out.rb 4 rfl
      have b5 : w3.cell? ⟨w.heap.size + 1, 5, none⟩ = some (.int .i64 0) := blk_cell HM.out.rb 5 rfl
      have b6 : w3.cell? ⟨w.heap.size + 1, 6, none⟩ = some (.int .i64 0) := blk_cell HM.out.rb 6 rfl
      have b7 : w3.cell? ⟨w.heap.size + 1, 7, none⟩ = some (.int .i64 0) := blk_cell HM.out.rb 7 rfl
      have b8 : w3.cell? ⟨w.heap.size + 1, 8, none⟩ = some (.slice none 0 0) := blk_cell HM.out.rb 8 rfl
      have b9 : w3.cell? ⟨w.heap.size + 1, 9, none⟩ = some (.string ⟨#[]⟩) := blk_cell HM.out.rb 9 rfl
      have b10 : w3.cell? ⟨w.heap.size + 1, 10, none⟩ = some (.slice none 0 0) := blk_cell HM.out.rb 10 rfl
      have b11 : w3.cell? ⟨w.heap.size + 1, 11, none⟩ = some (.int .i64 0) := blk_cell HM.out.rb 11 rfl
      have b12 : w3.cell? ⟨w.heap.size + 1, 12, none⟩ = some (.int .i64 0) := blk_cell HM.out.rb 12 rfl
      have b13 : w3.cell? ⟨w.heap.size + 1, 13, none⟩ = some (.int .i64 0) := blk_cell HM.out.rb 13 rfl
      have f0 := blk_free HM.out.rb 0
      have f1 := blk_free HM.out.rb 1
      have f2 := blk_free HM.out.rb 2
      have f3 := blk_free HM.out.rb 3
      have f4 := blk_free HM.out.rb 4
      have f5 := blk_free HM.out.rb 5
      have f6 := blk_free HM.out.rb 6
      have f7 := blk_free HM.out.rb 7
      have f8 := blk_free HM.out.rb 8
      have f9 := blk_free HM.out.rb 9
      have f10 := blk_free HM.out.rb 10
      have f11 := blk_free HM.out.rb 11
      have f12 := blk_free HM.out.rb 12
      have f13 := blk_free HM.out.rb 13
      go_wp2_with fail
      obtain ⟨w9, hw9⟩ : ∃ w9, ((((((((((((((w3.setCell ⟨w.heap.size + 1, 0, none⟩ (.int .i64 1)).setCell ⟨w.heap.size + 1, 1, none⟩ (.int .i64 0)).setCell ⟨w.heap.size + 1, 2, none⟩ (.int .i64 0)).setCell ⟨w.heap.size + 1, 3, none⟩ (.int .i64 0)).setCell ⟨w.heap.size + 1, 4, none⟩ (.int .i64 0)).setCell ⟨w.heap.size + 1, 5, none⟩ (.int .i64 0)).setCell ⟨w.heap.size + 1, 6, none⟩ (.int .i64 0)).setCell ⟨w.heap.size + 1, 7, none⟩ (.int .i64 0)).setCell ⟨w.heap.size + 1, 8, none⟩ (.slice none 0 0)).setCell ⟨w.heap.size + 1, 9, none⟩ (.string ⟨#[]⟩)).setCell ⟨w.heap.size + 1, 10, none⟩ (.slice none 0 0)).setCell ⟨w.heap.size + 1, 11, none⟩ (.int .i64 0)).setCell ⟨w.heap.size + 1, 12, none⟩ (.int .i64 0)).setCell ⟨w.heap.size + 1, 13, none⟩ (.int .i64 0)) = w9 := ⟨_, rfl⟩
      obtain ⟨hr, hpost⟩ := HM.out.ret hin
      rw [show w3.setCells (w.heap.size + 1) 0 (cmdC ((1 : Nat) : Int) ((0 : Nat) : Int) ((0 : Nat) : Int) 0 0 0 none 0 0 0).toList = w9 from hw9] at hr hpost
      rw [hw9]
      clear a0 b0 f0 a1 b1 f1 a2 b2 f2 a3 b3 f3 a4 b4 f4 a5 b5 f5 a6 b6 f6 a7 b7 f7 a8 b8 f8 a9 b9 f9 a10 b10 f10 a11 b11 f11 a12 b12 f12 a13 b13 f13
      have q0 : w9.cell? ⟨w.heap.size + 1, 0, none⟩ = some (.int .i64 1) := blk_cell hr 0 rfl
      have q1 : w9.cell? ⟨w.heap.size + 1, 1, none⟩ = some (.int .i64 0) := blk_cell hr 1 rfl
      have q2 : w9.cell? ⟨w.heap.size + 1, 2, none⟩ = some (.int .i64 0) := blk_cell hr 2 rfl
      have q3 : w9.cell? ⟨w.heap.size + 1, 3, none⟩ = some (.int .i64 0) := blk_cell hr 3 rfl
      have q4 : w9.cell? ⟨w.heap.size + 1, 4, none⟩ = some (.int .i64 0) := blk_cell hr 4 rfl
      have q5 : w9.cell? ⟨w.heap.size + 1, 5, none⟩ = some (.int .i64 0) := blk_cell hr 5 rfl
      have q6 : w9.cell? ⟨w.heap.size + 1, 6, none⟩ = some (.int .i64 0) := blk_cell hr 6 rfl
      have q7 : w9.cell? ⟨w.heap.size + 1, 7, none⟩ = some (.int .i64 0) := blk_cell hr 7 rfl
      have q8 : w9.cell? ⟨w.heap.size + 1, 8, none⟩ = some (.slice none 0 0) := blk_cell hr 8 rfl
      have q9 : w9.cell? ⟨w.heap.size + 1, 9, none⟩ = some (.string ⟨#[]⟩) := blk_cell hr 9 rfl
      have q10 : w9.cell? ⟨w.heap.size + 1, 10, none⟩ = some (.slice none 0 0) := blk_cell hr 10 rfl
      have q11 : w9.cell? ⟨w.heap.size + 1, 11, none⟩ = some (.int .i64 0) := blk_cell hr 11 rfl
      have q12 : w9.cell? ⟨w.heap.size + 1, 12, none⟩ = some (.int .i64 0) := blk_cell hr 12 rfl
      have q13 : w9.cell? ⟨w.heap.size + 1, 13, none⟩ = some (.int .i64 0) := blk_cell hr 13 rfl
      exact bodyPost_ret (v := cmdV ((1 : Nat) : Int) ((0 : Nat) : Int) ((0 : Nat) : Int) 0 0 0 none 0 0 0) (by simp [results, Tryz.results96, go_sem, cmdV, evV, q0, q1, q2, q3, q4, q5, q6, q7, q8, q9, q10, q11, q12, q13]) rfl hpost
    | false =>
      have c0 : w3.cell? ⟨w2.heap.size, 0, none⟩ = some (.int .i64 1) := blk_cell HT.out.xb 0 rfl
      have e0 := blk_free HT.out.xb 0
      go_wp2_with fail
      obtain ⟨wA, hwA⟩ : ∃ wA, w3.setCell ⟨w2.heap.size, 0, none⟩ (.int .i64 2) = wA := ⟨_, rfl⟩
      rw [hwA]
      have HA : Hid (CmS B p a len cap gS tk ls oo no co w w2.heap.size (cmdC 2 0 0 0 0 0 none 0 0 0) wA) := hide (by rw [← hwA]; exact HT.out.put 0 [.int .i64 2])
      clear HT hwA h0 c0 e0
      have hO : (2 : Nat) = 2 := rfl
      rename_i K15 h15 K8 h8
      have CONT : Hid (Cont15 B p a len cap gS tk ls oo no co w w2 (fun o => o = 2) K15) := by
        refine hide ?_
        intro o t s wr ho ht hs hcm v1 v2 v6 v7 v8 v9 v10 v11 v12 v13 v14 v15 v16 v17 v18 v19 v20 v21 v22 v23 v24 v25 v26 v27 v28 v29 v30 v31 v32 v33 v34 v35 v36 v37 v38 v39 v40 v41 v42 v43 v44 v45 v46 v47 v48 v49 v50 v51 v52 v53 v54 v55 v56 v57 v58 v59 v60 v61 v62 v63 v64 v65 v66 v67 v68 v69 v70 v71 v72 v73 v74 v75 v76 v77 v78 v79 v80 v81 v82 v83 v84 v85 v86 v87 v88 v89 v90 v91 v92 v93 v94 v95 v96 v97 v98 v99 v100 v101 v102 v103 v104 v105 v106 v107 v108 v109 v110 v111 v112 v113 v114 v115 v116 v117 v118 v119 v120 v121
        have HM := hide hcm
        clear hcm
        refine h15 _ _ ?_
        apply wp_seq_k; intro K29 h29
        have CR : Hid (Cont29 B p a len cap gS tk ls oo no co w w2 K29) := by
          refine hide ?_
          clear ho ht hs HM
          intro o t s id kd sd op cp d u wr hin hcm v1 v2 v6 v7 v8 v9 v10 v11 v12 v13 v14 v15 v16 v17 v18 v19 v20 v21 v22 v23 v24 v25 v26 v27 v28 v29 v30 v31 v32 v33 v34 v35 v36 v37 v38 v39 v40 v41 v42 v43 v44 v45 v46 v47 v48 v49 v50 v51 v52 v53 v54 v55 v56 v57 v58 v59 v60 v61 v62 v63 v64 v65 v66 v67 v68 v69 v70 v71 v72 v73 v74 v75 v76 v77 v78 v79 v80 v81 v82 v83 v84 v85 v86 v87 v88 v89 v90 v91 v92 v93 v94 v95 v96 v97 v98 v99 v100 v101 v102 v103 v104 v105 v106 v107 v108 v109 v110 v111 v112 v113 v114 v115 v116 v117 v118 v119 v120 v121
          have HM := hide hcm
          clear hcm
          have h4 := HM.out.h5
          refine h29 _ _ ?_
          clear h29
          have a0 : wr.cell? ⟨w2.heap.size, 0, none⟩ = some (.int .i64 (o : Int)) := blk_cell HM.out.xb 0 rfl
          have a1 : wr.cell? ⟨w2.heap.size, 1, none⟩ = some (.int .i64 (t : Int)) := blk_cell HM.out.xb 1 rfl
          have a2 : wr.cell? ⟨w2.heap.size, 2, none⟩ = some (.int .i64 (s : Int)) := blk_cell HM.out.xb 2 rfl
          have a3 : wr.cell? ⟨w2.heap.size, 3, none⟩ = some (.int .i64 id) := blk_cell HM.out.xb 3 rfl
          have a4 : wr.cell? ⟨w2.heap.size, 4, none⟩ = some (.int .i64 kd) := blk_cell HM.out.xb 4 rfl
          have a5 : wr.cell? ⟨w2.heap.size, 5, none⟩ = some (.int .i64 sd) := blk_cell HM.out.xb 5 rfl
          have a6 : wr.cell? ⟨w2.heap.size, 6, none⟩ = some (.int .i64 0) := blk_cell HM.out.xb 6 rfl
          have a7 : wr.cell? ⟨w2.heap.size, 7, none⟩ = some (.int .i64 0) := blk_cell HM.out.xb 7 rfl
          have a8 : wr.cell? ⟨w2.heap.size, 8, none⟩ = some (.slice none 0 0) := blk_cell HM.out.xb 8 rfl
          have a9 : wr.cell? ⟨w2.heap.size, 9, none⟩ = some (.string ⟨#[]⟩) := blk_cell HM.out.xb 9 rfl
          have a10 : wr.cell? ⟨w2.heap.size, 10, none⟩ = some (.slice op 0 cp) := blk_cell HM.out.xb 10 rfl
          have a11 : wr.cell? ⟨w2.heap.size, 11, none⟩ = some (.int .i64 0) := blk_cell HM.out.xb 11 rfl
          have a12 : wr.cell? ⟨w2.heap.size, 12, none⟩ = some (.int .i64 d) := blk_cell HM.out.xb 12 rfl
          have a13 : wr.cell? ⟨w2.heap.size, 13, none⟩ = some (.int .i64 u) := blk_cell HM.out.xb 13 rfl
          have b0 : wr.cell? ⟨w.heap.size + 1, 0, none⟩ = some (.int .i64 0) := blk_cell HM.out.rb 0 rfl
          have b1 : wr.cell? ⟨w.heap.size + 1, 1, none⟩ = some (.int .i64 0) := blk_cell HM.out.rb 1 rfl
          have b2 : wr.cell? ⟨w.heap.size + 1, 2, none⟩ = some (.int .i64 0) := blk_cell HM.out.rb 2 rfl
          have b3 : wr.cell? ⟨w.heap.size + 1, 3, none⟩ = some (.int .i64 0) := blk_cell HM.out.rb 3 rfl
          have b4 : wr.cell? ⟨w.heap.size + 1, 4, none⟩ = some (.int .i64 0) := blk_cell HM.out.rb 4 rfl
          have b5 : wr.cell? ⟨w.heap.size + 1, 5, none⟩ = some (.int .i64 0) := blk_cell HM.out.rb 5 rfl
          have b6 : wr.cell? ⟨w.heap.size + 1, 6, none⟩ = some (.int .i64 0) := blk_cell HM.out.rb 6 rfl
          have b7 : wr.cell? ⟨w.heap.size + 1, 7, none⟩ = some (.int .i64 0) := blk_cell HM.out.rb 7 rfl
          have b8 : wr.cell? ⟨w.heap.size + 1, 8, none⟩ = some (.slice none 0 0) := blk_cell HM.out.rb 8 rfl
          have b9 : wr.cell? ⟨w.heap.size + 1, 9, none⟩ = some (.string ⟨#[]⟩) := blk_cell HM.out.rb 9 rfl
          have b10 : wr.cell? ⟨w.heap.size + 1, 10, none⟩ = some (.slice none 0 0) := blk_cell HM.out.rb 10 rfl
          have b11 : wr.cell? ⟨w.heap.size + 1, 11, none⟩ = some (.int .i64 0) := blk_cell HM.out.rb 11 rfl
          have b12 : wr.cell? ⟨w.heap.size + 1, 12, none⟩ = some (.int .i64 0) := blk_cell HM.out.rb 12 rfl
          have b13 : wr.cell? ⟨w.heap.size + 1, 13, none⟩ = some (.int .i64 0) := blk_cell HM.out.rb 13 rfl
          have f0 := blk_free HM.out.rb 0
          have f1 := blk_free HM.out.rb 1
          have f2 := blk_free HM.out.rb 2
          have f3 := blk_free HM.out.rb 3
          have f4 := blk_free HM.out.rb 4
          have f5 := blk_free HM.out.rb 5
          have f6 := blk_free HM.out.rb 6
          have f7 := blk_free HM.out.rb 7
          have f8 := blk_free HM.out.rb 8
          have f9 := blk_free HM.out.rb 9
          have f10 := blk_free HM.out.rb 10
          have f11 := blk_free HM.out.rb 11
          have f12 := blk_free HM.out.rb 12
          have f13 := blk_free HM.out.rb 13
          go_wp2_with fail
          obtain ⟨w9, hw9⟩ : ∃ w9, ((((((((((((((wr.setCell ⟨w.heap.size + 1, 0, none⟩ (.int .i64 (o : Int))).setCell ⟨w.heap.size + 1, 1, none⟩ (.int .i64 (t : Int))).setCell ⟨w.heap.size + 1, 2, none⟩ (.int .i64 (s : Int))).setCell ⟨w.heap.size + 1, 3, none⟩ (.int .i64 id)).setCell ⟨w.heap.size + 1, 4, none⟩ (.int .i64 kd)).setCell ⟨w.heap.size + 1, 5, none⟩ (.int .i64 sd)).setCell ⟨w.heap.size + 1, 6, none⟩ (.int .i64 0)).setCell ⟨w.heap.size + 1, 7, none⟩ (.int .i64 0)).setCell ⟨w.heap.size + 1, 8, none⟩ (.slice none 0 0)).setCell ⟨w.heap.size + 1, 9, none⟩ (.string ⟨#[]⟩)).setCell ⟨w.heap.size + 1, 10, none⟩ (.slice op 0 cp)).setCell ⟨w.heap.size + 1, 11, none⟩ (.int .i64 0)).setCell ⟨w.heap.size + 1, 12, none⟩ (.int .i64 d)).setCell ⟨w.heap.size + 1, 13, none⟩ (.int .i64 u)) = w9 := ⟨_, rfl⟩
          obtain ⟨hr, hpost⟩ := HM.out.ret hin
          rw [show wr.setCells (w.heap.size + 1) 0 (cmdC (o : Int) t s id kd sd op cp d u).toList = w9 from hw9] at hr hpost
          rw [hw9]
          clear a0 b0 f0 a1 b1 f1 a2 b2 f2 a3 b3 f3 a4 b4 f4 a5 b5 f5 a6 b6 f6 a7 b7 f7 a8 b8 f8 a9 b9 f9 a10 b10 f10 a11 b11 f11 a12 b12 f12 a13 b13 f13
          have q0 : w9.cell? ⟨w.heap.size + 1, 0, none⟩ = some (.int .i64 (o : Int)) := blk_cell hr 0 rfl
          have q1 : w9.cell? ⟨w.heap.size + 1, 1, none⟩ = some (.int .i64 (t : Int)) := blk_cell hr 1 rfl
          have q2 : w9.cell? ⟨w.heap.size + 1, 2, none⟩ = some (.int .i64 (s : Int)) := blk_cell hr 2 rfl
          have q3 : w9.cell? ⟨w.heap.size + 1, 3, none⟩ = some (.int .i64 id) := blk_cell hr 3 rfl
          have q4 : w9.cell? ⟨w.heap.size + 1, 4, none⟩ = some (.int .i64 kd) := blk_cell hr 4 rfl
          have q5 : w9.cell? ⟨w.heap.size + 1, 5, none⟩ = some (.int .i64 sd) := blk_cell hr 5 rfl
          have q6 : w9.cell? ⟨w.heap.size + 1, 6, none⟩ = some (.int .i64 0) := blk_cell hr 6 rfl
          have q7 : w9.cell? ⟨w.heap.size + 1, 7, none⟩ = some (.int .i64 0) := blk_cell hr 7 rfl
          have q8 : w9.cell? ⟨w.heap.size + 1, 8, none⟩ = some (.slice none 0 0) := blk_cell hr 8 rfl
          have q9 : w9.cell? ⟨w.heap.size + 1, 9, none⟩ = some (.string ⟨#[]⟩) := blk_cell hr 9 rfl
          have q10 : w9.cell? ⟨w.heap.size + 1, 10, none⟩ = some (.slice op 0 cp) := blk_cell hr 10 rfl
          have q11 : w9.cell? ⟨w.heap.size + 1, 11, none⟩ = some (.int .i64 0) := blk_cell hr 11 rfl
          have q12 : w9.cell? ⟨w.heap.size + 1, 12, none⟩ = some (.int .i64 d) := blk_cell hr 12 rfl
          have q13 : w9.cell? ⟨w.heap.size + 1, 13, none⟩ = some (.int .i64 u) := blk_cell hr 13 rfl
          exact bodyPost_ret (v := cmdV (o : Int) t s id kd sd op cp d u) (by simp [results, Tryz.results96, go_sem, cmdV, evV, q0, q1, q2, q3, q4, q5, q6, q7, q8, q9, q10, q11, q12, q13]) rfl hpost
        clear h29
        obtain rfl : o = 2 := ho
        have c0 : wr.cell? ⟨w2.heap.size, 0, none⟩ = some (.int .i64 2) := blk_cell HM.out.xb 0 rfl
        have h1 := blk_cell HM.out.hb 1 rfl
        have h2 := blk_cell HM.out.hb 2 rfl
        have h3 := blk_cell HM.out.hb 3 rfl
        go_wp2_with fail
        refine (l12Next_first p 2 _).mono ?_
        rintro r w20 ⟨rfl, hb20⟩
        have HN := hide (HM.out.on hb20)
        clear HM hb20 c0 h1 h2 h3
        have x3 : w20.cell? ⟨w2.heap.size, 3, none⟩ = some (.int .i64 0) := blk_cell HN.out.xb 3 rfl
        have x4 : w20.cell? ⟨w2.heap.size, 4, none⟩ = some (.int .i64 0) := blk_cell HN.out.xb 4 rfl
        have x5 : w20.cell? ⟨w2.heap.size, 5, none⟩ = some (.int .i64 0) := blk_cell HN.out.xb 5 rfl
        have x6 : w20.cell? ⟨w2.heap.size, 6, none⟩ = some (.int .i64 0) := blk_cell HN.out.xb 6 rfl
        have x7 : w20.cell? ⟨w2.heap.size, 7, none⟩ = some (.int .i64 0) := blk_cell HN.out.xb 7 rfl
        have x8 : w20.cell? ⟨w2.heap.size, 8, none⟩ = some (.slice none 0 0) := blk_cell HN.out.xb 8 rfl
        have x9 : w20.cell? ⟨w2.heap.size, 9, none⟩ = some (.string ⟨#[]⟩) := blk_cell HN.out.xb 9 rfl
        have x10 : w20.cell? ⟨w2.heap.size, 10, none⟩ = some (.slice none 0 0) := blk_cell HN.out.xb 10 rfl
        have x11 : w20.cell? ⟨w2.heap.size, 11, none⟩ = some (.int .i64 0) := blk_cell HN.out.xb 11 rfl
        have y3 := blk_free HN.out.xb 3
        have y4 := blk_free HN.out.xb 4
        have y5 := blk_free HN.out.xb 5
        have y6 := blk_free HN.out.xb 6
        have y7 := blk_free HN.out.xb 7
        have y8 := blk_free HN.out.xb 8
        have y9 := blk_free HN.out.xb 9
        have y10 := blk_free HN.out.xb 10
        have y11 := blk_free HN.out.xb 11
        have hlt : w2.heap.size < w20.heap.size := blk_lt HN.out.xb
        unfold evV
        go_wp2_with fail
        exact CR.out 2 t s 0 1 1 (some ⟨w20.heap.size + 1, 0, none⟩) 0 0 0 _ (.send t s _ 0 ht hs) (((HN.out.event 0 1 1 (some ⟨w20.heap.size + 1, 0, none⟩) 0).alloc _).alloc _) _ _ _ _ _ _ _ _ _ _ _ _ _ _ _ _ _ _ _ _ _ _ _ _ _ _ _ _ _ _ _ _ _ _ _ _ _ _ _ _ _ _ _ _ _ _ _ _ _ _ _ _ _ _ _ _ _ _ _ _ _ _ _ _ _ _ _ _ _ _ _ _ _ _ _ _ _ _ _ _ _ _ _ _ _ _ _ _ _ _ _ _ _ _ _ _ _ _ _ _ _ _ _ _ _ _ _ _ _ _ _ _ _ _ _ _ _ _
      clear h15
      refine wp_region_held_drew (S := CmS B p a len cap gS tk ls oo no co w w2.heap.size (cmdC 2 0 0 0 0 0 none 0 0 0)) (by kernel_rfl) HA.out.drew (fun hHeld => ?_)
      generalize wA.drew = wB at hHeld ⊢
      refine wpAnyH_take (i := 0) (v := ?_) rfl (by kernel_rfl) (by kernel_rfl) (by kernel_rfl) (fun _ _ _ h => h) (Or.inl ⟨by rfl, ?_⟩) (by assumption) ?_; rotate_left
      · (intro wz hSw; have z0 := blk_cell hSw.hb 0 rfl; have z1 := blk_cell hSw.sb 0 rfl; have z2 := blk_cell hSw.sb 1 rfl; have z3 := blk_cell hSw.sb 2 rfl; clear hSw; go_simp; first | done | with_reducible rfl)
      try simp only [Act.put, List.getElem_toArray, List.getElem_cons_zero, List.getElem_cons_succ, List.setIfInBounds_toArray, List.set_cons_zero, List.set_cons_succ]
      refine wpAnyH_take (i := 1) (v := ?_) rfl (by kernel_rfl) (by kernel_rfl) (by kernel_rfl) (fun _ _ _ h => h) (Or.inl ⟨by rfl, ?_⟩) (by assumption) ?_; rotate_left
      · (intro wz hSw; have z0 := blk_cell hSw.hb 0 rfl; have z1 := blk_cell hSw.sb 0 rfl; have z2 := blk_cell hSw.sb 1 rfl; have z3 := blk_cell hSw.sb 2 rfl; clear hSw; go_simp; first | done | with_reducible rfl)
      try simp only [Act.put, List.getElem_toArray, List.getElem_cons_zero, List.getElem_cons_succ, List.setIfInBounds_toArray, List.set_cons_zero, List.set_cons_succ]
      refine wpAnyH_take (i := 2) (v := ?_) rfl (by kernel_rfl) (by kernel_rfl) (by kernel_rfl) (fun _ _ _ h => h) (Or.inl ⟨by rfl, ?_⟩) (by assumption) ?_; rotate_left
      · (intro wz hSw; have z0 := blk_cell hSw.hb 0 rfl; have z1 := blk_cell hSw.sb 0 rfl; have z2 := blk_cell hSw.sb 1 rfl; have z3 := blk_cell hSw.sb 2 rfl; clear hSw; go_simp; first | done | with_reducible rfl)
      try simp only [Act.put, List.getElem_toArray, List.getElem_cons_zero, List.getElem_cons_succ, List.setIfInBounds_toArray, List.set_cons_zero, List.set_cons_succ]
      refine wpAnyH_take (i := 3) (v := ?_) rfl (by kernel_rfl) (by kernel_rfl) (by kernel_rfl) (fun _ _ _ h => h) (Or.inl ⟨by rfl, ?_⟩) (by assumption) ?_; rotate_left
      · (intro wz hSw; have z0 := blk_cell hSw.hb 0 rfl; have z1 := blk_cell hSw.sb 0 rfl; have z2 := blk_cell hSw.sb 1 rfl; have z3 := blk_cell hSw.sb 2 rfl; clear hSw; go_simp; first | done | with_reducible rfl)
      try simp only [Act.put, List.getElem_toArray, List.getElem_cons_zero, List.getElem_cons_succ, List.setIfInBounds_toArray, List.set_cons_zero, List.set_cons_succ]
      refine wpAnyH_take (i := 4) (v := ?_) rfl (by kernel_rfl) (by kernel_rfl) (by kernel_rfl) (fun _ _ _ h => h) (Or.inl ⟨by rfl, ?_⟩) (by assumption) ?_; rotate_left
      · (intro wz hSw; have z0 := blk_cell hSw.hb 0 rfl; have z1 := blk_cell hSw.sb 0 rfl; have z2 := blk_cell hSw.sb 1 rfl; have z3 := blk_cell hSw.sb 2 rfl; clear hSw; go_simp; first | done | with_reducible rfl)
      try simp only [Act.put, List.getElem_toArray, List.getElem_cons_zero, List.getElem_cons_succ, List.setIfInBounds_toArray, List.set_cons_zero, List.set_cons_succ]
      refine wpAnyH_take (i := 5) (v := ?_) rfl (by kernel_rfl) (by kernel_rfl) (by kernel_rfl) (fun _ _ _ h => h) (Or.inl ⟨by rfl, ?_⟩) (by assumption) ?_; rotate_left
      · (intro wz hSw; have z0 := blk_cell hSw.hb 0 rfl; have z1 := blk_cell hSw.sb 0 rfl; have z2 := blk_cell hSw.sb 1 rfl; have z3 := blk_cell hSw.sb 2 rfl; clear hSw; go_simp; first | done | with_reducible rfl)
      try simp only [Act.put, List.getElem_toArray, List.getElem_cons_zero, List.getElem_cons_succ, List.setIfInBounds_toArray, List.set_cons_zero, List.set_cons_succ]
      refine wpAnyH_ready (rs := [6, 9]) (by kernel_rfl) (by simp) ?_
      refine AllReadyH.cons rfl (fun K hK => ?_) ?_
      · rw [if_pos (by rfl)]
        go_simp
        go_at_call 37
        refine (l01Below_any B p a len cap 1 (by decide) (by decide) _ hHeld.cur).mono ?_
        rintro r w16 ⟨y, hy, rfl, hc16, hg16⟩
        obtain rfl : y = 0 := by omega
        try go_simp
        refine hK.out _ _ ?_ (fun hHeld => ?_)
        · exact hHeld.drawn hc16 hg16
        clear hK K
        try simp only [Act.put, List.getElem_toArray, List.getElem_cons_zero, List.getElem_cons_succ, List.setIfInBounds_toArray, List.set_cons_zero, List.set_cons_succ]
        clear hc16 hg16 hy
        refine wpAnyH_take (i := 7) (v := ?_) rfl (by kernel_rfl) (by kernel_rfl) (by kernel_rfl) (fun _ _ _ h => h) (Or.inl ⟨by rfl, ?_⟩) (by assumption) ?_; rotate_left
        · (intro wz hSw; have z0 := blk_cell hSw.hb 0 rfl; have z1 := blk_cell hSw.sb 0 rfl; have z2 := blk_cell hSw.sb 1 rfl; have z3 := blk_cell hSw.sb 2 rfl; clear hSw; go_simp; first | done | with_reducible rfl)
        try simp only [Act.put, List.getElem_toArray, List.getElem_cons_zero, List.getElem_cons_succ, List.setIfInBounds_toArray, List.set_cons_zero, List.set_cons_succ]
        refine wpAnyH_take (i := 8) (v := ?_) rfl (by kernel_rfl) (by kernel_rfl) (by kernel_rfl) (fun _ _ _ h => h) (Or.inl ⟨by rfl, ?_⟩) (by assumption) ?_; rotate_left
        · (intro wz hSw; have z0 := blk_cell hSw.hb 0 rfl; have z1 := blk_cell hSw.sb 0 rfl; have z2 := blk_cell hSw.sb 1 rfl; have z3 := blk_cell hSw.sb 2 rfl; clear hSw; go_simp; first | done | with_reducible rfl)
        try simp only [Act.put, List.getElem_toArray, List.getElem_cons_zero, List.getElem_cons_succ, List.setIfInBounds_toArray, List.set_cons_zero, List.set_cons_succ]
        refine wpAnyH_ready (rs := [9]) (by kernel_rfl) (by simp) ?_
        refine AllReadyH.cons rfl (fun K hK => ?_) ?_
        · have HV := hide hHeld
          have HG := hide (CmS.session hHeld #[.int .i64 0, .int .i64 0, .string ⟨#[]⟩])
          rw [if_pos (by rfl)]
          go_simp
          refine hK.out _ _ ?_ (fun hHeld => ?_)
          · exact CmS.alloc hHeld _
          clear hK K
          try simp only [Act.put, List.getElem_toArray, List.getElem_cons_zero, List.getElem_cons_succ, List.setIfInBounds_toArray, List.set_cons_zero, List.set_cons_succ]
          refine wpAnyH_ready (rs := [10]) (by kernel_rfl) (by simp) ?_
          refine AllReadyH.cons rfl (fun K hK => ?_) ?_
          · have HF := hide (CmS.session HV.out #[.int .i64 (tk : Int), .int .i64 (ls : Int), .string ⟨#[]⟩])
            rw [if_pos (by rfl)]
            go_simp
            refine hK.out _ _ ?_ (fun hHeld => ?_)
            · exact HF.out.cm
            clear hK K
            try simp only [Act.put, List.getElem_toArray, List.getElem_cons_zero, List.getElem_cons_succ, List.setIfInBounds_toArray, List.set_cons_zero, List.set_cons_succ]
            clear HG HV
            refine wpAnyH_done (by kernel_rfl) ?_ _
            obtain ⟨wC, hwC⟩ : ∃ wC, w16.alloc (.cells #[.int .i64 (tk : Int), .int .i64 (ls : Int), .string ⟨#[]⟩] 154) = wC := ⟨_, rfl⟩
            rw [hwC]
            replace HF : Hid (Cm7 B p a len cap gS tk ls oo no co w w2.heap.size (cmdC 2 0 0 0 0 0 none 0 0 0) w16.heap.size #[.int .i64 (tk : Int), .int .i64 (ls : Int), .string ⟨#[]⟩] wC) := hide (by rw [← hwC]; exact HF.out)
            clear hwC hHeld
            have c0 := blk_cell HF.out.blk 0 rfl
            have c1 := blk_cell HF.out.blk 1 rfl
            have d1 : wC.cell? ⟨w2.heap.size, 1, none⟩ = some (.int .i64 0) := blk_cell HF.out.cm.xb 1 rfl
            have d2 : wC.cell? ⟨w2.heap.size, 2, none⟩ = some (.int .i64 0) := blk_cell HF.out.cm.xb 2 rfl
            have e1 := blk_free HF.out.cm.xb 1
            have e2 := blk_free HF.out.cm.xb 2
            have gne : w16.heap.size ≠ w2.heap.size := HF.out.ne
            go_wp2_with fail
            have HP : Hid (Cm7 B p a len cap gS tk ls oo no co w w2.heap.size (cmdC 2 tk (ls + 1 : Nat) 0 0 0 none 0 0 0) w16.heap.size #[.int .i64 (tk : Int), .int .i64 (ls : Int), .string ⟨#[]⟩] ((wC.setCell ⟨w2.heap.size, 1, none⟩ (.int .i64 (tk : Int))).setCell ⟨w2.heap.size, 2, none⟩ (.int .i64 ((ls : Int) + 1)))) := hide (HF.out.put 1 [.int .i64 (tk : Int), .int .i64 ((ls + 1 : Nat) : Int)])
            clear HF c0 c1 d1 d2 e1 e2
            refine (l01Below_any B p a len cap 10 (by decide) (by decide) _ HP.out.cm.cur).mono ?_
            rintro r w17 ⟨y, hy, rfl, hc17, hg17⟩
            have HQ := hide (HP.out.drawn hc17 hg17)
            clear HP hc17 hg17
            by_cases y0 : y = 0
            · subst y0
              have c1 := blk_cell HQ.out.blk 1 rfl
              have d2 : w17.cell? ⟨w2.heap.size, 2, none⟩ = some (.int .i64 ((ls + 1 : Nat) : Int)) := blk_cell HQ.out.cm.xb 2 rfl
              have e2 := blk_free HQ.out.cm.xb 2
              go_wp2_with fail
              refine (l01Below_any B p a len cap (ls + 3) (by omega) (by omega) _ HQ.out.cm.cur).mono ?_
              rintro r w18 ⟨z, hz, rfl, hc18, hg18⟩
              have HR := hide (HQ.out.drawn hc18 hg18)
              clear HQ hc18 hg18 c1 d2 e2
              have d2 : w18.cell? ⟨w2.heap.size, 2, none⟩ = some (.int .i64 ((ls + 1 : Nat) : Int)) := blk_cell HR.out.cm.xb 2 rfl
              have e2 := blk_free HR.out.cm.xb 2
              go_wp2_with fail
              exact CONT.out 2 tk z _ rfl (by omega) (by omega) (HR.out.cm.put 2 [.int .i64 (z : Int)]) _ _ _ _ _ _ _ _ _ _ _ _ _ _ _ _ _ _ _ _ _ _ _ _ _ _ _ _ _ _ _ _ _ _ _ _ _ _ _ _ _ _ _ _ _ _ _ _ _ _ _ _ _ _ _ _ _ _ _ _ _ _ _ _ _ _ _ _ _ _ _ _ _ _ _ _ _ _ _ _ _ _ _ _ _ _ _ _ _ _ _ _ _ _ _ _ _ _ _ _ _ _ _ _ _ _ _ _ _ _ _ _ _ _ _ _ _ _
            · have q0 : ((y : Int) == 0) = false := by rw [beq_eq_false_iff_ne]; omega
              by_cases y1 : y = 1
              · subst y1
                go_wp2_with fail
                refine (l01Below_any B p a len cap 12 (by decide) (by decide) _ HQ.out.cm.cur).mono ?_
                rintro r w18 ⟨z, hz, rfl, hc18, hg18⟩
                have HR := hide (HQ.out.drawn hc18 hg18)
                clear HQ hc18 hg18
                have d1 : w18.cell? ⟨w2.heap.size, 1, none⟩ = some (.int .i64 (tk : Int)) := blk_cell HR.out.cm.xb 1 rfl
                have e1 := blk_free HR.out.cm.xb 1
                go_wp2_with fail
                exact CONT.out 2 z (ls + 1) _ rfl (by omega) (by omega) (HR.out.cm.put 1 [.int .i64 (z : Int)]) _ _ _ _ _ _ _ _ _ _ _ _ _ _ _ _ _ _ _ _ _ _ _ _ _ _ _ _ _ _ _ _ _ _ _ _ _ _ _ _ _ _ _ _ _ _ _ _ _ _ _ _ _ _ _ _ _ _ _ _ _ _ _ _ _ _ _ _ _ _ _ _ _ _ _ _ _ _ _ _ _ _ _ _ _ _ _ _ _ _ _ _ _ _ _ _ _ _ _ _ _ _ _ _ _ _ _ _ _ _ _ _ _ _ _ _ _ _
              · have q1 : ((y : Int) == 1) = false := by rw [beq_eq_false_iff_ne]; omega
                go_wp2_with fail
                exact CONT.out 2 tk (ls + 1) _ rfl (by omega) (by omega) HQ.out.cm _ _ _ _ _ _ _ _ _ _ _ _ _ _ _ _ _ _ _ _ _ _ _ _ _ _ _ _ _ _ _ _ _ _ _ _ _ _ _ _ _ _ _ _ _ _ _ _ _ _ _ _ _ _ _ _ _ _ _ _ _ _ _ _ _ _ _ _ _ _ _ _ _ _ _ _ _ _ _ _ _ _ _ _ _ _ _ _ _ _ _ _ _ _ _ _ _ _ _ _ _ _ _ _ _ _ _ _ _ _ _ _ _ _ _ _ _ _
          exact AllReadyH.nil
        exact AllReadyH.nil
      refine AllReadyH.cons rfl (fun K hK => ?_) ?_
      · have HV := hide hHeld
        have HG := hide (CmS.session hHeld #[.int .i64 0, .int .i64 0, .string ⟨#[]⟩])
        rw [if_pos (by rfl)]
        go_simp
        refine hK.out _ _ ?_ (fun hHeld => ?_)
        · exact CmS.alloc hHeld _
        clear hK K
        try simp only [Act.put, List.getElem_toArray, List.getElem_cons_zero, List.getElem_cons_succ, List.setIfInBounds_toArray, List.set_cons_zero, List.set_cons_succ]
        refine wpAnyH_ready (rs := [6]) (by kernel_rfl) (by simp) ?_
        refine AllReadyH.cons rfl (fun K hK => ?_) ?_
        · rw [if_pos (by rfl)]
          go_simp
          go_at_call 37
          refine (l01Below_any B p a len cap 1 (by decide) (by decide) _ hHeld.cur).mono ?_
          rintro r w16 ⟨y, hy, rfl, hc16, hg16⟩
          obtain rfl : y = 0 := by omega
          replace HG := hide (HG.out.drawn hc16 hg16)
          try go_simp
          refine hK.out _ _ ?_ (fun hHeld => ?_)
          · exact hHeld.drawn hc16 hg16
          clear hK K
          try simp only [Act.put, List.getElem_toArray, List.getElem_cons_zero, List.getElem_cons_succ, List.setIfInBounds_toArray, List.set_cons_zero, List.set_cons_succ]
          clear hc16 hg16 hy
          refine wpAnyH_take (i := 7) (v := ?_) rfl (by kernel_rfl) (by kernel_rfl) (by kernel_rfl) (fun _ _ _ h => h) (Or.inl ⟨by rfl, ?_⟩) (by assumption) ?_; rotate_left
          · (intro wz hSw; have z0 := blk_cell hSw.hb 0 rfl; have z1 := blk_cell hSw.sb 0 rfl; have z2 := blk_cell hSw.sb 1 rfl; have z3 := blk_cell hSw.sb 2 rfl; clear hSw; go_simp; first | done | with_reducible rfl)
          try simp only [Act.put, List.getElem_toArray, List.getElem_cons_zero, List.getElem_cons_succ, List.setIfInBounds_toArray, List.set_cons_zero, List.set_cons_succ]
          refine wpAnyH_take (i := 8) (v := ?_) rfl (by kernel_rfl) (by kernel_rfl) (by kernel_rfl) (fun _ _ _ h => h) (Or.inl ⟨by rfl, ?_⟩) (by assumption) ?_; rotate_left
          · (intro wz hSw; have z0 := blk_cell hSw.hb 0 rfl; have z1 := blk_cell hSw.sb 0 rfl; have z2 := blk_cell hSw.sb 1 rfl; have z3 := blk_cell hSw.sb 2 rfl; clear hSw; go_simp; first | done | with_reducible rfl)
          try simp only [Act.put, List.getElem_toArray, List.getElem_cons_zero, List.getElem_cons_succ, List.setIfInBounds_toArray, List.set_cons_zero, List.set_cons_succ]
          refine wpAnyH_ready (rs := [10]) (by kernel_rfl) (by simp) ?_
          refine AllReadyH.cons rfl (fun K hK => ?_) ?_
          · have y0 := blk_cell HG.out.blk 0 rfl
            have y1 := blk_cell HG.out.blk 1 rfl
            have y2 := blk_cell HG.out.blk 2 rfl
            have f0 := blk_free HG.out.blk 0
            have f1 := blk_free HG.out.blk 1
            have f2 := blk_free HG.out.blk 2
            have HF := hide (show Cm7 B p a len cap gS tk ls oo no co w w2.heap.size (cmdC 2 0 0 0 0 0 none 0 0 0) _ #[.int .i64 (tk : Int), .int .i64 (ls : Int), .string ⟨#[]⟩] _ from HG.out.fill 0 [.int .i64 tk, .int .i64 ls, .string ⟨#[]⟩])
            rw [if_pos (by rfl)]
            go_simp
            refine hK.out _ _ ?_ (fun hHeld => ?_)
            · exact HF.out.cm
            clear hK K
            try simp only [Act.put, List.getElem_toArray, List.getElem_cons_zero, List.getElem_cons_succ, List.setIfInBounds_toArray, List.set_cons_zero, List.set_cons_succ]
            clear HG HV
            clear y0 y1 y2 f0 f1 f2
            refine wpAnyH_done (by kernel_rfl) ?_ _
            obtain ⟨wC, hwC⟩ : ∃ wC, ((w16.setCell ⟨wB.heap.size, 0, none⟩ (.int .i64 (tk : Int))).setCell ⟨wB.heap.size, 1, none⟩ (.int .i64 (ls : Int))).setCell ⟨wB.heap.size, 2, none⟩ (.string ⟨#[]⟩) = wC := ⟨_, rfl⟩
            rw [hwC]
            replace HF : Hid (Cm7 B p a len cap gS tk ls oo no co w w2.heap.size (cmdC 2 0 0 0 0 0 none 0 0 0) wB.heap.size #[.int .i64 (tk : Int), .int .i64 (ls : Int), .string ⟨#[]⟩] wC) := hide (by rw [← hwC]; exact HF.out)
            clear hwC hHeld
            have c0 := blk_cell HF.out.blk 0 rfl
            have c1 := blk_cell HF.out.blk 1 rfl
            have d1 : wC.cell? ⟨w2.heap.size, 1, none⟩ = some (.int .i64 0) := blk_cell HF.out.cm.xb 1 rfl
            have d2 : wC.cell? ⟨w2.heap.size, 2, none⟩ = some (.int .i64 0) := blk_cell HF.out.cm.xb 2 rfl
            have e1 := blk_free HF.out.cm.xb 1
            have e2 := blk_free HF.out.cm.xb 2
            have gne : wB.heap.size ≠ w2.heap.size := HF.out.ne
            go_wp2_with fail
            have HP : Hid (Cm7 B p a len cap gS tk ls oo no co w w2.heap.size (cmdC 2 tk (ls + 1 : Nat) 0 0 0 none 0 0 0) wB.heap.size #[.int .i64 (tk : Int), .int .i64 (ls : Int), .string ⟨#[]⟩] ((wC.setCell ⟨w2.heap.size, 1, none⟩ (.int .i64 (tk : Int))).setCell ⟨w2.heap.size, 2, none⟩ (.int .i64 ((ls : Int) + 1)))) := hide (HF.out.put 1 [.int .i64 (tk : Int), .int .i64 ((ls + 1 : Nat) : Int)])
            clear HF c0 c1 d1 d2 e1 e2
            refine (l01Below_any B p a len cap 10 (by decide) (by decide) _ HP.out.cm.cur).mono ?_
            rintro r w17 ⟨y, hy, rfl, hc17, hg17⟩
            have HQ := hide (HP.out.drawn hc17 hg17)
            clear HP hc17 hg17
            by_cases y0 : y = 0
            · subst y0
              have c1 := blk_cell HQ.out.blk 1 rfl
              have d2 : w17.cell? ⟨w2.heap.size, 2, none⟩ = some (.int .i64 ((ls + 1 : Nat) : Int)) := blk_cell HQ.out.cm.xb 2 rfl
              have e2 := blk_free HQ.out.cm.xb 2
              go_wp2_with fail
              refine (l01Below_any B p a len cap (ls + 3) (by omega) (by omega) _ HQ.out.cm.cur).mono ?_
              rintro r w18 ⟨z, hz, rfl, hc18, hg18⟩
              have HR := hide (HQ.out.drawn hc18 hg18)
              clear HQ hc18 hg18 c1 d2 e2
              have d2 : w18.cell? ⟨w2.heap.size, 2, none⟩ = some (.int .i64 ((ls + 1 : Nat) : Int)) := blk_cell HR.out.cm.xb 2 rfl
              have e2 := blk_free HR.out.cm.xb 2
              go_wp2_with fail
              exact CONT.out 2 tk z _ rfl (by omega) (by omega) (HR.out.cm.put 2 [.int .i64 (z : Int)]) _ _ _ _ _ _ _ _ _ _ _ _ _ _ _ _ _ _ _ _ _ _ _ _ _ _ _ _ _ _ _ _ _ _ _ _ _ _ _ _ _ _ _ _ _ _ _ _ _ _ _ _ _ _ _ _ _ _ _ _ _ _ _ _ _ _ _ _ _ _ _ _ _ _ _ _ _ _ _ _ _ _ _ _ _ _ _ _ _ _ _ _ _ _ _ _ _ _ _ _ _ _ _ _ _ _ _ _ _ _ _ _ _ _ _ _ _ _
            · have q0 : ((y : Int) == 0) = false := by rw [beq_eq_false_iff_ne]; omega
              by_cases y1 : y = 1
              · subst y1
                go_wp2_with fail
                refine (l01Below_any B p a len cap 12 (by decide) (by decide) _ HQ.out.cm.cur).mono ?_
                rintro r w18 ⟨z, hz, rfl, hc18, hg18⟩
                have HR := hide (HQ.out.drawn hc18 hg18)
                clear HQ hc18 hg18
                have d1 : w18.cell? ⟨w2.heap.size, 1, none⟩ = some (.int .i64 (tk : Int)) := blk_cell HR.out.cm.xb 1 rfl
                have e1 := blk_free HR.out.cm.xb 1
                go_wp2_with fail
                exact CONT.out 2 z (ls + 1) _ rfl (by omega) (by omega) (HR.out.cm.put 1 [.int .i64 (z : Int)]) _ _ _ _ _ _ _ _ _ _ _ _ _ _ _ _ _ _ _ _ _ _ _ _ _ _ _ _ _ _ _ _ _ _ _ _ _ _ _ _ _ _ _ _ _ _ _ _ _ _ _ _ _ _ _ _ _ _ _ _ _ _ _ _ _ _ _ _ _ _ _ _ _ _ _ _ _ _ _ _ _ _ _ _ _ _ _ _ _ _ _ _ _ _ _ _ _ _ _ _ _ _ _ _ _ _ _ _ _ _ _ _ _ _ _ _ _ _
              · have q1 : ((y : Int) == 1) = false := by rw [beq_eq_false_iff_ne]; omega
                go_wp2_with fail
                exact CONT.out 2 tk (ls + 1) _ rfl (by omega) (by omega) HQ.out.cm _ _ _ _ _ _ _ _ _ _ _ _ _ _ _ _ _ _ _ _ _ _ _ _ _ _ _ _ _ _ _ _ _ _ _ _ _ _ _ _ _ _ _ _ _ _ _ _ _ _ _ _ _ _ _ _ _ _ _ _ _ _ _ _ _ _ _ _ _ _ _ _ _ _ _ _ _ _ _ _ _ _ _ _ _ _ _ _ _ _ _ _ _ _ _ _ _ _ _ _ _ _ _ _ _ _ _ _ _ _ _ _ _ _ _ _ _ _
          exact AllReadyH.nil
        exact AllReadyH.nil
      exact AllReadyH.nil
  · obtain ⟨o, rfl, hO⟩ : ∃ o : Nat, x = (o : Int) ∧ (o = 2 ∨ o = 3 ∨ o = 4 ∨ o = 5) := by
      have := HX.out
      simp [opsL, hx1] at this
      rcases this with rfl | rfl | rfl | rfl
      · exact ⟨2, rfl, by decide⟩
      · exact ⟨3, rfl, by decide⟩
      · exact ⟨4, rfl, by decide⟩
      · exact ⟨5, rfl, by decide⟩
    have hx0 : ((o : Int) == 1) = false := by rw [beq_eq_false_iff_ne]; exact hx1
    go_wp2_with fail
    obtain ⟨wA, hwA⟩ : ∃ wA, w2.alloc (.cells #[.int .i64 (o : Int), .int .i64 0, .int .i64 0, .int .i64 0, .int .i64 0, .int .i64 0, .int .i64 0, .int .i64 0, .slice none 0 0, .string ⟨#[]⟩, .slice none 0 0, .int .i64 0, .int .i64 0, .int .i64 0] 122) = wA := ⟨_, rfl⟩
    rw [hwA]
    have HA : Hid (CmS B p a len cap gS tk ls oo no co w w2.heap.size (cmdC (o : Int) 0 0 0 0 0 none 0 0 0) wA) := hide (hwA ▸ HS.out)
    clear HS hwA hh2
    rename_i K15 h15 hq K8 h8
    have CONT : Hid (Cont15 B p a len cap gS tk ls oo no co w w2 (fun o => o = 2 ∨ o = 3 ∨ o = 4 ∨ o = 5) K15) := by
      refine hide ?_
      intro o t s wr ho ht hs hcm v1 v2 v6 v7 v8 v9 v10 v11 v12 v13 v14 v15 v16 v17 v18 v19 v20 v21 v22 v23 v24 v25 v26 v27 v28 v29 v30 v31 v32 v33 v34 v35 v36 v37 v38 v39 v40 v41 v42 v43 v44 v45 v46 v47 v48 v49 v50 v51 v52 v53 v54 v55 v56 v57 v58 v59 v60 v61 v62 v63 v64 v65 v66 v67 v68 v69 v70 v71 v72 v73 v74 v75 v76 v77 v78 v79 v80 v81 v82 v83 v84 v85 v86 v87 v88 v89 v90 v91 v92 v93 v94 v95 v96 v97 v98 v99 v100 v101 v102 v103 v104 v105 v106 v107 v108 v109 v110 v111 v112 v113 v114 v115 v116 v117 v118 v119 v120 v121
      have HM := hide hcm
      clear hcm
      refine h15 _ _ ?_
      apply wp_seq_k; intro K29 h29
      have CR : Hid (Cont29 B p a len cap gS tk ls oo no co w w2 K29) := by
        refine hide ?_
        clear ho ht hs HM
        intro o t s id kd sd op cp d u wr hin hcm v1 v2 v6 v7 v8 v9 v10 v11 v12 v13 v14 v15 v16 v17 v18 v19 v20 v21 v22 v23 v24 v25 v26 v27 v28 v29 v30 v31 v32 v33 v34 v35 v36 v37 v38 v39 v40 v41 v42 v43 v44 v45 v46 v47 v48 v49 v50 v51 v52 v53 v54 v55 v56 v57 v58 v59 v60 v61 v62 v63 v64 v65 v66 v67 v68 v69 v70 v71 v72 v73 v74 v75 v76 v77 v78 v79 v80 v81 v82 v83 v84 v85 v86 v87 v88 v89 v90 v91 v92 v93 v94 v95 v96 v97 v98 v99 v100 v101 v102 v103 v104 v105 v106 v107 v108 v109 v110 v111 v112 v113 v114 v115 v116 v117 v118 v119 v120 v121
        have HM := hide hcm
        clear hcm
        have h4 := HM.out.h5
        refine h29 _ _ ?_
        clear h29
        have a0 : wr.cell? ⟨w2.heap.size, 0, none⟩ = some (.int .i64 (o : Int)) := blk_cell HM.out.xb 0 rfl
        have a1 : wr.cell? ⟨w2.heap.size, 1, none⟩ = some (.int .i64 (t : Int)) := blk_cell HM.out.xb 1 rfl
        have a2 : wr.cell? ⟨w2.heap.size, 2, none⟩ = some (.int .i64 (s : Int)) := blk_cell HM.out.xb 2 rfl
        have a3 : wr.cell? ⟨w2.heap.size, 3, none⟩ = some (.int .i64 id) := blk_cell HM.out.xb 3 rfl
        have a4 : wr.cell? ⟨w2.heap.size, 4, none⟩ = some (.int .i64 kd) := blk_cell HM.out.xb 4 rfl
        have a5 : wr.cell? ⟨w2.heap.size, 5, none⟩ = some (.int .i64 sd) := blk_cell HM.out.xb 5 rfl
        have a6 : wr.cell? ⟨w2.heap.size, 6, none⟩ = some (.int .i64 0) := blk_cell HM.out.xb 6 rfl
        have a7 : wr.cell? ⟨w2.heap.size, 7, none⟩ = some (.int .i64 0) := blk_cell HM.out.xb 7 rfl
        have a8 : wr.cell? ⟨w2.heap.size, 8, none⟩ = some (.slice none 0 0) := blk_cell HM.out.xb 8 rfl
        have a9 : wr.cell? ⟨w2.heap.size, 9, none⟩ = some (.string ⟨#[]⟩) := blk_cell HM.out.xb 9 rfl
        have a10 : wr.cell? ⟨w2.heap.size, 10, none⟩ = some (.slice op 0 cp) := blk_cell HM.out.xb 10 rfl
        have a11 : wr.cell? ⟨w2.heap.size, 11, none⟩ = some (.int .i64 0) := blk_cell HM.out.xb 11 rfl
        have a12 : wr.cell? ⟨w2.heap.size, 12, none⟩ = some (.int .i64 d) := blk_cell HM.out.xb 12 rfl
        have a13 : wr.cell? ⟨w2.heap.size, 13, none⟩ = some (.int .i64 u) := blk_cell HM.out.xb 13 rfl
        have b0 : wr.cell? ⟨w.heap.size + 1, 0, none⟩ = some (.int .i64 0) := blk_cell HM.out.rb 0 rfl
        have b1 : wr.cell? ⟨w.heap.size + 1, 1, none⟩ = some (.int .i64 0) := blk_cell HM.out.rb 1 rfl
        have b2 : wr.cell? ⟨w.heap.size + 1, 2, none⟩ = some (.int .i64 0) := blk_cell HM.out.rb 2 rfl
        have b3 : wr.cell? ⟨w.heap.size + 1, 3, none⟩ = some (.int .i64 0) := blk_cell HM.out.rb 3 rfl
        have b4 : wr.cell? ⟨w.heap.size + 1, 4, none⟩ = some (.int .i64 0) := blk_cell HM.out.rb 4 rfl
        have b5 : wr.cell? ⟨w.heap.size + 1, 5, none⟩ = some (.int .i64 0) := blk_cell HM.out.rb 5 rfl
        have b6 : wr.cell? ⟨w.heap.size + 1, 6, none⟩ = some (.int .i64 0) := blk_cell HM.out.rb 6 rfl
        have b7 : wr.cell? ⟨w.heap.size + 1, 7, none⟩ = some (.int .i64 0) := blk_cell HM.out.rb 7 rfl
        have b8 : wr.cell? ⟨w.heap.size + 1, 8, none⟩ = some (.slice none 0 0) := blk_cell HM.out.rb 8 rfl
        have b9 : wr.cell? ⟨w.heap.size + 1, 9, none⟩ = some (.string ⟨#[]⟩) := blk_cell HM.out.rb 9 rfl
        have b10 : wr.cell? ⟨w.heap.size + 1, 10, none⟩ = some (.slice none 0 0) := blk_cell HM.out.rb 10 rfl
        have b11 : wr.cell? ⟨w.heap.size + 1, 11, none⟩ = some (.int .i64 0) := blk_cell HM.out.rb 11 rfl
        have b12 : wr.cell? ⟨w.heap.size + 1, 12, none⟩ = some (.int .i64 0) := blk_cell HM.out.rb 12 rfl
        have b13 : wr.cell? ⟨w.heap.size + 1, 13, none⟩ = some (.int .i64 0) := blk_cell HM.out.rb 13 rfl
        have f0 := blk_free HM.out.rb 0
        have f1 := blk_free HM.out.rb 1
        have f2 := blk_free HM.out.rb 2
        have f3 := blk_free HM.out.rb 3
        have f4 := blk_free HM.out.rb 4
        have f5 := blk_free HM.out.rb 5
        have f6 := blk_free HM.out.rb 6
        have f7 := blk_free HM.out.rb 7
        have f8 := blk_free HM.out.rb 8
        have f9 := blk_free HM.out.rb 9
        have f10 := blk_free HM.out.rb 10
        have f11 := blk_free HM.out.rb 11
        have f12 := blk_free HM.out.rb 12
        have f13 := blk_free HM.out.rb 13
        go_wp2_with fail
        obtain ⟨w9, hw9⟩ : ∃ w9, ((((((((((((((wr.setCell ⟨w.heap.size + 1, 0, none⟩ (.int .i64 (o : Int))).setCell ⟨w.heap.size + 1, 1, none⟩ (.int .i64 (t : Int))).setCell ⟨w.heap.size + 1, 2, none⟩ (.int .i64 (s : Int))).setCell ⟨w.heap.size + 1, 3, none⟩ (.int .i64 id)).setCell ⟨w.heap.size + 1, 4, none⟩ (.int .i64 kd)).setCell ⟨w.heap.size + 1, 5, none⟩ (.int .i64 sd)).setCell ⟨w.heap.size + 1, 6, none⟩ (.int .i64 0)).setCell ⟨w.heap.size + 1, 7, none⟩ (.int .i64 0)).setCell ⟨w.heap.size + 1, 8, none⟩ (.slice none 0 0)).setCell ⟨w.heap.size + 1, 9, none⟩ (.string ⟨#[]⟩)).setCell ⟨w.heap.size + 1, 10, none⟩ (.slice op 0 cp)).setCell ⟨w.heap.size + 1, 11, none⟩ (.int .i64 0)).setCell ⟨w.heap.size + 1, 12, none⟩ (.int .i64 d)).setCell ⟨w.heap.size + 1, 13, none⟩ (.int .i64 u)) = w9 := ⟨_, rfl⟩
        obtain ⟨hr, hpost⟩ := HM.out.ret hin
        rw [show wr.setCells (w.heap.size + 1) 0 (cmdC (o : Int) t s id kd sd op cp d u).toList = w9 from hw9] at hr hpost
        rw [hw9]
        clear a0 b0 f0 a1 b1 f1 a2 b2 f2 a3 b3 f3 a4 b4 f4 a5 b5 f5 a6 b6 f6 a7 b7 f7 a8 b8 f8 a9 b9 f9 a10 b10 f10 a11 b11 f11 a12 b12 f12 a13 b13 f13
        have q0 : w9.cell? ⟨w.heap.size + 1, 0, none⟩ = some (.int .i64 (o : Int)) := blk_cell hr 0 rfl
        have q1 : w9.cell? ⟨w.heap.size + 1, 1, none⟩ = some (.int .i64 (t : Int)) := blk_cell hr 1 rfl
        have q2 : w9.cell? ⟨w.heap.size + 1, 2, none⟩ = some (.int .i64 (s : Int)) := blk_cell hr 2 rfl
        have q3 : w9.cell? ⟨w.heap.size + 1, 3, none⟩ = some (.int .i64 id) := blk_cell hr 3 rfl
        have q4 : w9.cell? ⟨w.heap.size + 1, 4, none⟩ = some (.int .i64 kd) := blk_cell hr 4 rfl
        have q5 : w9.cell? ⟨w.heap.size + 1, 5, none⟩ = some (.int .i64 sd) := blk_cell hr 5 rfl
        have q6 : w9.cell? ⟨w.heap.size + 1, 6, none⟩ = some (.int .i64 0) := blk_cell hr 6 rfl
        have q7 : w9.cell? ⟨w.heap.size + 1, 7, none⟩ = some (.int .i64 0) := blk_cell hr 7 rfl
        have q8 : w9.cell? ⟨w.heap.size + 1, 8, none⟩ = some (.slice none 0 0) := blk_cell hr 8 rfl
        have q9 : w9.cell? ⟨w.heap.size + 1, 9, none⟩ = some (.string ⟨#[]⟩) := blk_cell hr 9 rfl
        have q10 : w9.cell? ⟨w.heap.size + 1, 10, none⟩ = some (.slice op 0 cp) := blk_cell hr 10 rfl
        have q11 : w9.cell? ⟨w.heap.size + 1, 11, none⟩ = some (.int .i64 0) := blk_cell hr 11 rfl
        have q12 : w9.cell? ⟨w.heap.size + 1, 12, none⟩ = some (.int .i64 d) := blk_cell hr 12 rfl
        have q13 : w9.cell? ⟨w.heap.size + 1, 13, none⟩ = some (.int .i64 u) := blk_cell hr 13 rfl
        exact bodyPost_ret (v := cmdV (o : Int) t s id kd sd op cp d u) (by simp [results, Tryz.results96, go_sem, cmdV, evV, q0, q1, q2, q3, q4, q5, q6, q7, q8, q9, q10, q11, q12, q13]) rfl hpost
      clear h29
      rcases ho with rfl | rfl | rfl | rfl
      · have c0 : wr.cell? ⟨w2.heap.size, 0, none⟩ = some (.int .i64 2) := blk_cell HM.out.xb 0 rfl
        have h1 := blk_cell HM.out.hb 1 rfl
        have h2 := blk_cell HM.out.hb 2 rfl
        have h3 := blk_cell HM.out.hb 3 rfl
        go_wp2_with fail
        refine (l12Next_first p 2 _).mono ?_
        rintro r w20 ⟨rfl, hb20⟩
        have HN := hide (HM.out.on hb20)
        clear HM hb20 c0 h1 h2 h3
        have x3 : w20.cell? ⟨w2.heap.size, 3, none⟩ = some (.int .i64 0) := blk_cell HN.out.xb 3 rfl
        have x4 : w20.cell? ⟨w2.heap.size, 4, none⟩ = some (.int .i64 0) := blk_cell HN.out.xb 4 rfl
        have x5 : w20.cell? ⟨w2.heap.size, 5, none⟩ = some (.int .i64 0) := blk_cell HN.out.xb 5 rfl
        have x6 : w20.cell? ⟨w2.heap.size, 6, none⟩ = some (.int .i64 0) := blk_cell HN.out.xb 6 rfl
        have x7 : w20.cell? ⟨w2.heap.size, 7, none⟩ = some (.int .i64 0) := blk_cell HN.out.xb 7 rfl
        have x8 : w20.cell? ⟨w2.heap.size, 8, none⟩ = some (.slice none 0 0) := blk_cell HN.out.xb 8 rfl
        have x9 : w20.cell? ⟨w2.heap.size, 9, none⟩ = some (.string ⟨#[]⟩) := blk_cell HN.out.xb 9 rfl
        have x10 : w20.cell? ⟨w2.heap.size, 10, none⟩ = some (.slice none 0 0) := blk_cell HN.out.xb 10 rfl
        have x11 : w20.cell? ⟨w2.heap.size, 11, none⟩ = some (.int .i64 0) := blk_cell HN.out.xb 11 rfl
        have y3 := blk_free HN.out.xb 3
        have y4 := blk_free HN.out.xb 4
        have y5 := blk_free HN.out.xb 5
        have y6 := blk_free HN.out.xb 6
        have y7 := blk_free HN.out.xb 7
        have y8 := blk_free HN.out.xb 8
        have y9 := blk_free HN.out.xb 9
        have y10 := blk_free HN.out.xb 10
        have y11 := blk_free HN.out.xb 11
        have hlt : w2.heap.size < w20.heap.size := blk_lt HN.out.xb
        unfold evV
        go_wp2_with fail
        exact CR.out 2 t s 0 1 1 (some ⟨w20.heap.size + 1, 0, none⟩) 0 0 0 _ (.send t s _ 0 ht hs) (((HN.out.event 0 1 1 (some ⟨w20.heap.size + 1, 0, none⟩) 0).alloc _).alloc _) _ _ _ _ _ _ _ _ _ _ _ _ _ _ _ _ _ _ _ _ _ _ _ _ _ _ _ _ _ _ _ _ _ _ _ _ _ _ _ _ _ _ _ _ _ _ _ _ _ _ _ _ _ _ _ _ _ _ _ _ _ _ _ _ _ _ _ _ _ _ _ _ _ _ _ _ _ _ _ _ _ _ _ _ _ _ _ _ _ _ _ _ _ _ _ _ _ _ _ _ _ _ _ _ _ _ _ _ _ _ _ _ _ _ _ _ _ _
      · have c0 : wr.cell? ⟨w2.heap.size, 0, none⟩ = some (.int .i64 3) := blk_cell HM.out.xb 0 rfl
        go_wp2_with fail
        refine wp_region_held_drew (S := fun v => ∃ Y, CmS B p a len cap gS tk ls oo no co w w2.heap.size Y v) (by kernel_rfl) ⟨_, HM.out.drew⟩ (fun hHeld => ?_)
        have HH := hide HM.out.drew
        clear HM c0 hHeld
        generalize wr.drew = wB at HH ⊢
        have hHeld : (fun v => ∃ Y, CmS B p a len cap gS tk ls oo no co w w2.heap.size Y v) wB := ⟨_, HH.out⟩
        refine wpAnyH_take (i := 0) (v := ?_) rfl (by kernel_rfl) (by kernel_rfl) (by kernel_rfl) (fun _ _ _ h => h) (Or.inl ⟨by rfl, ?_⟩) (by assumption) ?_; rotate_left
        · (intro wz hSw; obtain ⟨Yz, hSz⟩ := hSw; have z1 := blk_cell hSz.hb 1 rfl; have z2 := blk_cell hSz.hb 2 rfl; have z3 := blk_cell hSz.hb 3 rfl; clear hSz; go_simp; first | done | with_reducible rfl)
        try simp only [Act.put, List.getElem_toArray, List.getElem_cons_zero, List.getElem_cons_succ, List.setIfInBounds_toArray, List.set_cons_zero, List.set_cons_succ]
        refine wpAnyH_take (i := 1) (v := ?_) rfl (by kernel_rfl) (by kernel_rfl) (by kernel_rfl) (fun _ _ _ h => h) (Or.inl ⟨by rfl, ?_⟩) (by assumption) ?_; rotate_left
        · (intro wz hSw; obtain ⟨Yz, hSz⟩ := hSw; have z1 := blk_cell hSz.hb 1 rfl; have z2 := blk_cell hSz.hb 2 rfl; have z3 := blk_cell hSz.hb 3 rfl; clear hSz; go_simp; first | done | with_reducible rfl)
        try simp only [Act.put, List.getElem_toArray, List.getElem_cons_zero, List.getElem_cons_succ, List.setIfInBounds_toArray, List.set_cons_zero, List.set_cons_succ]
        refine wpAnyH_take (i := 2) (v := ?_) rfl (by kernel_rfl) (by kernel_rfl) (by kernel_rfl) (fun _ _ _ h => h) (Or.inl ⟨by rfl, ?_⟩) (by assumption) ?_; rotate_left
        · (intro wz hSw; obtain ⟨Yz, hSz⟩ := hSw; have z1 := blk_cell hSz.hb 1 rfl; have z2 := blk_cell hSz.hb 2 rfl; have z3 := blk_cell hSz.hb 3 rfl; clear hSz; go_simp; first | done | with_reducible rfl)
        try simp only [Act.put, List.getElem_toArray, List.getElem_cons_zero, List.getElem_cons_succ, List.setIfInBounds_toArray, List.set_cons_zero, List.set_cons_succ]
        refine wpAnyH_take (i := 3) (v := ?_) rfl (by kernel_rfl) (by kernel_rfl) (by kernel_rfl) (fun _ _ _ h => h) (Or.inl ⟨by rfl, ?_⟩) (by assumption) ?_; rotate_left
        · (intro wz hSw; obtain ⟨Yz, hSz⟩ := hSw; have z1 := blk_cell hSz.hb 1 rfl; have z2 := blk_cell hSz.hb 2 rfl; have z3 := blk_cell hSz.hb 3 rfl; clear hSz; go_simp; first | done | with_reducible rfl)
        try simp only [Act.put, List.getElem_toArray, List.getElem_cons_zero, List.getElem_cons_succ, List.setIfInBounds_toArray, List.set_cons_zero, List.set_cons_succ]
        refine wpAnyH_ready (rs := [4]) (by kernel_rfl) (by simp) ?_
        refine AllReadyH.cons rfl (fun K hK => ?_) ?_
        · rw [if_pos (by rfl)]
          go_simp
          go_at_call 37
          refine (l01Below_any B p a len cap 40 (by decide) (by decide) _ HH.out.cur).mono ?_
          rintro r w24 ⟨n, hn, rfl, hc24, hg24⟩
          have k1 : IntKind.i64.wrap (2 * (n : Int)) = 2 * (n : Int) := by rw [IntKind.wrap_i64]; omega
          have k2 : IntKind.i64.wrap (2 * (n : Int) + 1) = 2 * (n : Int) + 1 := by rw [IntKind.wrap_i64]; omega
          replace HH := hide (HH.out.drawn hc24 hg24)
          clear hc24 hg24
          try go_simp
          refine hK.out _ _ ?_ (fun hHeld => ?_)
          · exact ⟨_, HH.out⟩
          clear hK K
          try simp only [Act.put, List.getElem_toArray, List.getElem_cons_zero, List.getElem_cons_succ, List.setIfInBounds_toArray, List.set_cons_zero, List.set_cons_succ]
          refine wpAnyH_take (i := 5) (v := ?_) rfl (by kernel_rfl) (by kernel_rfl) (by kernel_rfl) (fun _ _ _ h => h) (Or.inl ⟨by rfl, ?_⟩) (by assumption) ?_; rotate_left
          · (intro wz hSw; obtain ⟨Yz, hSz⟩ := hSw; have z1 := blk_cell hSz.hb 1 rfl; have z2 := blk_cell hSz.hb 2 rfl; have z3 := blk_cell hSz.hb 3 rfl; clear hSz; go_simp; first | done | with_reducible rfl)
          try simp only [Act.put, List.getElem_toArray, List.getElem_cons_zero, List.getElem_cons_succ, List.setIfInBounds_toArray, List.set_cons_zero, List.set_cons_succ]
          refine wpAnyH_take (i := 6) (v := ?_) rfl (by kernel_rfl) (by kernel_rfl) (by kernel_rfl) (fun _ _ _ h => h) (Or.inl ⟨by rfl, ?_⟩) (by assumption) ?_; rotate_left
          · (intro wz hSw; obtain ⟨Yz, hSz⟩ := hSw; have z1 := blk_cell hSz.hb 1 rfl; have z2 := blk_cell hSz.hb 2 rfl; have z3 := blk_cell hSz.hb 3 rfl; clear hSz; go_simp; first | done | with_reducible rfl)
          try simp only [Act.put, List.getElem_toArray, List.getElem_cons_zero, List.getElem_cons_succ, List.setIfInBounds_toArray, List.set_cons_zero, List.set_cons_succ]
          refine wpAnyH_ready (rs := [7]) (by kernel_rfl) (by simp) ?_
          refine AllReadyH.cons rfl (fun K hK => ?_) ?_
          · rw [if_pos (by rfl)]
            go_simp
            go_at_call 103
            refine (l12Next_first p (2 * (n : Int) + 1) _).mono ?_
            rintro r w27 ⟨rfl, hb27⟩
            replace HH := hide (HH.out.on hb27)
            clear hb27
            unfold evV
            try go_simp
            refine hK.out _ _ ?_ (fun hHeld => ?_)
            · exact ⟨_, HH.out⟩
            clear hK K
            try simp only [Act.put, List.getElem_toArray, List.getElem_cons_zero, List.getElem_cons_succ, List.setIfInBounds_toArray, List.set_cons_zero, List.set_cons_succ]
            refine wpAnyH_take (i := 8) (v := ?_) rfl (by kernel_rfl) (by kernel_rfl) (by kernel_rfl) (fun _ _ _ h => h) (Or.inl ⟨by rfl, ?_⟩) (by assumption) ?_; rotate_left
            · (intro wz hSw; obtain ⟨Yz, hSz⟩ := hSw; have z1 := blk_cell hSz.hb 1 rfl; have z2 := blk_cell hSz.hb 2 rfl; have z3 := blk_cell hSz.hb 3 rfl; clear hSz; go_simp; first | done | with_reducible rfl)
            try simp only [Act.put, List.getElem_toArray, List.getElem_cons_zero, List.getElem_cons_succ, List.setIfInBounds_toArray, List.set_cons_zero, List.set_cons_succ]
            refine wpAnyH_ready (rs := [9]) (by kernel_rfl) (by simp) ?_
            refine AllReadyH.cons rfl (fun K hK => ?_) ?_
            · have x3 : w27.cell? ⟨w2.heap.size, 3, none⟩ = some (.int .i64 0) := blk_cell HH.out.xb 3 rfl
              have x4 : w27.cell? ⟨w2.heap.size, 4, none⟩ = some (.int .i64 0) := blk_cell HH.out.xb 4 rfl
              have x5 : w27.cell? ⟨w2.heap.size, 5, none⟩ = some (.int .i64 0) := blk_cell HH.out.xb 5 rfl
              have x6 : w27.cell? ⟨w2.heap.size, 6, none⟩ = some (.int .i64 0) := blk_cell HH.out.xb 6 rfl
              have x7 : w27.cell? ⟨w2.heap.size, 7, none⟩ = some (.int .i64 0) := blk_cell HH.out.xb 7 rfl
              have x8 : w27.cell? ⟨w2.heap.size, 8, none⟩ = some (.slice none 0 0) := blk_cell HH.out.xb 8 rfl
              have x9 : w27.cell? ⟨w2.heap.size, 9, none⟩ = some (.string ⟨#[]⟩) := blk_cell HH.out.xb 9 rfl
              have x10 : w27.cell? ⟨w2.heap.size, 10, none⟩ = some (.slice none 0 0) := blk_cell HH.out.xb 10 rfl
              have x11 : w27.cell? ⟨w2.heap.size, 11, none⟩ = some (.int .i64 0) := blk_cell HH.out.xb 11 rfl
              have y3 := blk_free HH.out.xb 3
              have y4 := blk_free HH.out.xb 4
              have y5 := blk_free HH.out.xb 5
              have y6 := blk_free HH.out.xb 6
              have y7 := blk_free HH.out.xb 7
              have y8 := blk_free HH.out.xb 8
              have y9 := blk_free HH.out.xb 9
              have y10 := blk_free HH.out.xb 10
              have y11 := blk_free HH.out.xb 11
              have HE := hide (HH.out.event (2 * (n : Int) + 1) 1 1 none 0)
              rw [if_pos (by rfl)]
              go_simp
              refine hK.out _ _ ?_ (fun hHeld => ?_)
              · exact ⟨_, HE.out⟩
              clear hK K
              try simp only [Act.put, List.getElem_toArray, List.getElem_cons_zero, List.getElem_cons_succ, List.setIfInBounds_toArray, List.set_cons_zero, List.set_cons_succ]
              clear x3 y3 x4 y4 x5 y5 x6 y6 x7 y7 x8 y8 x9 y9 x10 y10 x11 y11
              refine wpAnyH_done (by kernel_rfl) ?_ _
              obtain ⟨wE, hwE⟩ : ∃ wE, (((((((((w27.setCell ⟨w2.heap.size, 3, none⟩ (.int .i64 (2 * (n : Int) + 1))).setCell ⟨w2.heap.size, 4, none⟩ (.int .i64 1)).setCell ⟨w2.heap.size, 5, none⟩ (.int .i64 1)).setCell ⟨w2.heap.size, 6, none⟩ (.int .i64 0)).setCell ⟨w2.heap.size, 7, none⟩ (.int .i64 0)).setCell ⟨w2.heap.size, 8, none⟩ (.slice none 0 0)).setCell ⟨w2.heap.size, 9, none⟩ (.string ⟨#[]⟩)).setCell ⟨w2.heap.size, 10, none⟩ (.slice none 0 0)).setCell ⟨w2.heap.size, 11, none⟩ (.int .i64 0)) = wE := ⟨_, rfl⟩
              rw [hwE]
              replace HE : Hid (CmS B p a len cap gS tk ls oo no co w w2.heap.size (cmdC (3 : Nat) t s (2 * (n : Int) + 1) 1 1 none 0 0 0) wE) := hide (by rw [← hwE]; exact HE.out)
              clear hwE HH hHeld
              have e3 : wE.cell? ⟨w2.heap.size, 3, none⟩ = some (.int .i64 (2 * (n : Int) + 1)) := blk_cell HE.out.xb 3 rfl
              have e4 : wE.cell? ⟨w2.heap.size, 4, none⟩ = some (.int .i64 1) := blk_cell HE.out.xb 4 rfl
              have e5 : wE.cell? ⟨w2.heap.size, 5, none⟩ = some (.int .i64 1) := blk_cell HE.out.xb 5 rfl
              have e6 : wE.cell? ⟨w2.heap.size, 6, none⟩ = some (.int .i64 0) := blk_cell HE.out.xb 6 rfl
              have e7 : wE.cell? ⟨w2.heap.size, 7, none⟩ = some (.int .i64 0) := blk_cell HE.out.xb 7 rfl
              have e8 : wE.cell? ⟨w2.heap.size, 8, none⟩ = some (.slice none 0 0) := blk_cell HE.out.xb 8 rfl
              have e9 : wE.cell? ⟨w2.heap.size, 9, none⟩ = some (.string ⟨#[]⟩) := blk_cell HE.out.xb 9 rfl
              have e10 : wE.cell? ⟨w2.heap.size, 10, none⟩ = some (.slice none 0 0) := blk_cell HE.out.xb 10 rfl
              have e11 : wE.cell? ⟨w2.heap.size, 11, none⟩ = some (.int .i64 0) := blk_cell HE.out.xb 11 rfl
              go_wp2_with fail
              refine (eventOk_create (2 * (n : Int) + 1) (by omega) (by omega) none 0 _).mono ?_
              rintro r w30 ⟨rfl, hb30⟩
              replace HE := hide (HE.out.on hb30)
              clear hb30 e3 e4 e5 e6 e7 e8 e9 e10 e11
              go_wp2_with fail
              exact CR.out 3 t s (2 * (n : Int) + 1) 1 1 none 0 0 0 _ (.receive t s n ht hs (by omega)) HE.out _ _ _ _ _ _ _ _ _ _ _ _ _ _ _ _ _ _ _ _ _ _ _ _ _ _ _ _ _ _ _ _ _ _ _ _ _ _ _ _ _ _ _ _ _ _ _ _ _ _ _ _ _ _ _ _ _ _ _ _ _ _ _ _ _ _ _ _ _ _ _ _ _ _ _ _ _ _ _ _ _ _ _ _ _ _ _ _ _ _ _ _ _ _ _ _ _ _ _ _ _ _ _ _ _ _ _ _ _ _ _ _ _ _ _ _ _ _
            exact AllReadyH.nil
          exact AllReadyH.nil
        exact AllReadyH.nil
      · have c0 : wr.cell? ⟨w2.heap.size, 0, none⟩ = some (.int .i64 4) := blk_cell HM.out.xb 0 rfl
        go_wp2_with fail
        refine (l01Below_any B p a len cap 2 (by decide) (by decide) _ HM.out.cur).mono ?_
        rintro r w20 ⟨d, hd, rfl, hc20, hg20⟩
        have HN := hide (HM.out.drawn hc20 hg20)
        clear HM hc20 hg20 c0
        have x12 : w20.cell? ⟨w2.heap.size, 12, none⟩ = some (.int .i64 0) := blk_cell HN.out.xb 12 rfl
        have y12 := blk_free HN.out.xb 12
        go_wp2_with fail
        have HP : Hid (CmS B p a len cap gS tk ls oo no co w w2.heap.size (cmdC (4 : Nat) t s 0 0 0 none 0 ((1 + d : Nat) : Int) 0) (w20.setCell ⟨w2.heap.size, 12, none⟩ (.int .i64 (1 + (d : Int))))) := hide (HN.out.put 12 [.int .i64 ((1 + d : Nat) : Int)])
        clear HN x12 y12
        refine (l01Below_any B p a len cap 6 (by decide) (by decide) _ HP.out.cur).mono ?_
        rintro r w21 ⟨u, hu, rfl, hc21, hg21⟩
        have HQ := hide (HP.out.drawn hc21 hg21)
        clear HP hc21 hg21
        have x13 : w21.cell? ⟨w2.heap.size, 13, none⟩ = some (.int .i64 0) := blk_cell HQ.out.xb 13 rfl
        have y13 := blk_free HQ.out.xb 13
        go_wp2_with fail
        exact CR.out 4 t s 0 0 0 none 0 ((1 + d : Nat) : Int) (u : Int) _ (.acked t s (1 + d) u ht hs (by omega) (by omega) (by omega)) (HQ.out.put 13 [.int .i64 (u : Int)]) _ _ _ _ _ _ _ _ _ _ _ _ _ _ _ _ _ _ _ _ _ _ _ _ _ _ _ _ _ _ _ _ _ _ _ _ _ _ _ _ _ _ _ _ _ _ _ _ _ _ _ _ _ _ _ _ _ _ _ _ _ _ _ _ _ _ _ _ _ _ _ _ _ _ _ _ _ _ _ _ _ _ _ _ _ _ _ _ _ _ _ _ _ _ _ _ _ _ _ _ _ _ _ _ _ _ _ _ _ _ _ _ _ _ _ _ _ _
      · have c0 : wr.cell? ⟨w2.heap.size, 0, none⟩ = some (.int .i64 5) := blk_cell HM.out.xb 0 rfl
        go_wp2_with fail
        exact CR.out 5 t s 0 0 0 none 0 0 0 _ (.members t s ht hs) HM.out _ _ _ _ _ _ _ _ _ _ _ _ _ _ _ _ _ _ _ _ _ _ _ _ _ _ _ _ _ _ _ _ _ _ _ _ _ _ _ _ _ _ _ _ _ _ _ _ _ _ _ _ _ _ _ _ _ _ _ _ _ _ _ _ _ _ _ _ _ _ _ _ _ _ _ _ _ _ _ _ _ _ _ _ _ _ _ _ _ _ _ _ _ _ _ _ _ _ _ _ _ _ _ _ _ _ _ _ _ _ _ _ _ _ _ _ _ _
    clear h15 hq
    refine wp_region_held_drew (S := CmS B p a len cap gS tk ls oo no co w w2.heap.size (cmdC (o : Int) 0 0 0 0 0 none 0 0 0)) (by kernel_rfl) HA.out.drew (fun hHeld => ?_)
    generalize wA.drew = wB at hHeld ⊢
    refine wpAnyH_take (i := 0) (v := ?_) rfl (by kernel_rfl) (by kernel_rfl) (by kernel_rfl) (fun _ _ _ h => h) (Or.inl ⟨by rfl, ?_⟩) (by assumption) ?_; rotate_left
    · (intro wz hSw; have z0 := blk_cell hSw.hb 0 rfl; have z1 := blk_cell hSw.sb 0 rfl; have z2 := blk_cell hSw.sb 1 rfl; have z3 := blk_cell hSw.sb 2 rfl; clear hSw; go_simp; first | done | with_reducible rfl)
    try simp only [Act.put, List.getElem_toArray, List.getElem_cons_zero, List.getElem_cons_succ, List.setIfInBounds_toArray, List.set_cons_zero, List.set_cons_succ]
    refine wpAnyH_take (i := 1) (v := ?_) rfl (by kernel_rfl) (by kernel_rfl) (by kernel_rfl) (fun _ _ _ h => h) (Or.inl ⟨by rfl, ?_⟩) (by assumption) ?_; rotate_left
    · (intro wz hSw; have z0 := blk_cell hSw.hb 0 rfl; have z1 := blk_cell hSw.sb 0 rfl; have z2 := blk_cell hSw.sb 1 rfl; have z3 := blk_cell hSw.sb 2 rfl; clear hSw; go_simp; first | done | with_reducible rfl)
    try simp only [Act.put, List.getElem_toArray, List.getElem_cons_zero, List.getElem_cons_succ, List.setIfInBounds_toArray, List.set_cons_zero, List.set_cons_succ]
    refine wpAnyH_take (i := 2) (v := ?_) rfl (by kernel_rfl) (by kernel_rfl) (by kernel_rfl) (fun _ _ _ h => h) (Or.inl ⟨by rfl, ?_⟩) (by assumption) ?_; rotate_left
    · (intro wz hSw; have z0 := blk_cell hSw.hb 0 rfl; have z1 := blk_cell hSw.sb 0 rfl; have z2 := blk_cell hSw.sb 1 rfl; have z3 := blk_cell hSw.sb 2 rfl; clear hSw; go_simp; first | done | with_reducible rfl)
    try simp only [Act.put, List.getElem_toArray, List.getElem_cons_zero, List.getElem_cons_succ, List.setIfInBounds_toArray, List.set_cons_zero, List.set_cons_succ]
    refine wpAnyH_take (i := 3) (v := ?_) rfl (by kernel_rfl) (by kernel_rfl) (by kernel_rfl) (fun _ _ _ h => h) (Or.inl ⟨by rfl, ?_⟩) (by assumption) ?_; rotate_left
    · (intro wz hSw; have z0 := blk_cell hSw.hb 0 rfl; have z1 := blk_cell hSw.sb 0 rfl; have z2 := blk_cell hSw.sb 1 rfl; have z3 := blk_cell hSw.sb 2 rfl; clear hSw; go_simp; first | done | with_reducible rfl)
    try simp only [Act.put, List.getElem_toArray, List.getElem_cons_zero, List.getElem_cons_succ, List.setIfInBounds_toArray, List.set_cons_zero, List.set_cons_succ]
    refine wpAnyH_take (i := 4) (v := ?_) rfl (by kernel_rfl) (by kernel_rfl) (by kernel_rfl) (fun _ _ _ h => h) (Or.inl ⟨by rfl, ?_⟩) (by assumption) ?_; rotate_left
    · (intro wz hSw; have z0 := blk_cell hSw.hb 0 rfl; have z1 := blk_cell hSw.sb 0 rfl; have z2 := blk_cell hSw.sb 1 rfl; have z3 := blk_cell hSw.sb 2 rfl; clear hSw; go_simp; first | done | with_reducible rfl)
    try simp only [Act.put, List.getElem_toArray, List.getElem_cons_zero, List.getElem_cons_succ, List.setIfInBounds_toArray, List.set_cons_zero, List.set_cons_succ]
    refine wpAnyH_take (i := 5) (v := ?_) rfl (by kernel_rfl) (by kernel_rfl) (by kernel_rfl) (fun _ _ _ h => h) (Or.inl ⟨by rfl, ?_⟩) (by assumption) ?_; rotate_left
    · (intro wz hSw; have z0 := blk_cell hSw.hb 0 rfl; have z1 := blk_cell hSw.sb 0 rfl; have z2 := blk_cell hSw.sb 1 rfl; have z3 := blk_cell hSw.sb 2 rfl; clear hSw; go_simp; first | done | with_reducible rfl)
    try simp only [Act.put, List.getElem_toArray, List.getElem_cons_zero, List.getElem_cons_succ, List.setIfInBounds_toArray, List.set_cons_zero, List.set_cons_succ]
    refine wpAnyH_ready (rs := [6, 9]) (by kernel_rfl) (by simp) ?_
    refine AllReadyH.cons rfl (fun K hK => ?_) ?_
    · rw [if_pos (by rfl)]
      go_simp
      go_at_call 37
      refine (l01Below_any B p a len cap 1 (by decide) (by decide) _ hHeld.cur).mono ?_
      rintro r w16 ⟨y, hy, rfl, hc16, hg16⟩
      obtain rfl : y = 0 := by omega
      try go_simp
      refine hK.out _ _ ?_ (fun hHeld => ?_)
      · exact hHeld.drawn hc16 hg16
      clear hK K
      try simp only [Act.put, List.getElem_toArray, List.getElem_cons_zero, List.getElem_cons_succ, List.setIfInBounds_toArray, List.set_cons_zero, List.set_cons_succ]
      clear hc16 hg16 hy
      refine wpAnyH_take (i := 7) (v := ?_) rfl (by kernel_rfl) (by kernel_rfl) (by kernel_rfl) (fun _ _ _ h => h) (Or.inl ⟨by rfl, ?_⟩) (by assumption) ?_; rotate_left
      · (intro wz hSw; have z0 := blk_cell hSw.hb 0 rfl; have z1 := blk_cell hSw.sb 0 rfl; have z2 := blk_cell hSw.sb 1 rfl; have z3 := blk_cell hSw.sb 2 rfl; clear hSw; go_simp; first | done | with_reducible rfl)
      try simp only [Act.put, List.getElem_toArray, List.getElem_cons_zero, List.getElem_cons_succ, List.setIfInBounds_toArray, List.set_cons_zero, List.set_cons_succ]
      refine wpAnyH_take (i := 8) (v := ?_) rfl (by kernel_rfl) (by kernel_rfl) (by kernel_rfl) (fun _ _ _ h => h) (Or.inl ⟨by rfl, ?_⟩) (by assumption) ?_; rotate_left
      · (intro wz hSw; have z0 := blk_cell hSw.hb 0 rfl; have z1 := blk_cell hSw.sb 0 rfl; have z2 := blk_cell hSw.sb 1 rfl; have z3 := blk_cell hSw.sb 2 rfl; clear hSw; go_simp; first | done | with_reducible rfl)
      try simp only [Act.put, List.getElem_toArray, List.getElem_cons_zero, List.getElem_cons_succ, List.setIfInBounds_toArray, List.set_cons_zero, List.set_cons_succ]
      refine wpAnyH_ready (rs := [9]) (by kernel_rfl) (by simp) ?_
      refine AllReadyH.cons rfl (fun K hK => ?_) ?_
      · have HV := hide hHeld
        have HG := hide (CmS.session hHeld #[.int .i64 0, .int .i64 0, .string ⟨#[]⟩])
        rw [if_pos (by rfl)]
        go_simp
        refine hK.out _ _ ?_ (fun hHeld => ?_)
        · exact CmS.alloc hHeld _
        clear hK K
        try simp only [Act.put, List.getElem_toArray, List.getElem_cons_zero, List.getElem_cons_succ, List.setIfInBounds_toArray, List.set_cons_zero, List.set_cons_succ]
        refine wpAnyH_ready (rs := [10]) (by kernel_rfl) (by simp) ?_
        refine AllReadyH.cons rfl (fun K hK => ?_) ?_
        · have HF := hide (CmS.session HV.out #[.int .i64 (tk : Int), .int .i64 (ls : Int), .string ⟨#[]⟩])
          rw [if_pos (by rfl)]
          go_simp
          refine hK.out _ _ ?_ (fun hHeld => ?_)
          · exact HF.out.cm
          clear hK K
          try simp only [Act.put, List.getElem_toArray, List.getElem_cons_zero, List.getElem_cons_succ, List.setIfInBounds_toArray, List.set_cons_zero, List.set_cons_succ]
          clear HG HV
          refine wpAnyH_done (by kernel_rfl) ?_ _
          obtain ⟨wC, hwC⟩ : ∃ wC, w16.alloc (.cells #[.int .i64 (tk : Int), .int .i64 (ls : Int), .string ⟨#[]⟩] 154) = wC := ⟨_, rfl⟩
          rw [hwC]
          replace HF : Hid (Cm7 B p a len cap gS tk ls oo no co w w2.heap.size (cmdC (o : Int) 0 0 0 0 0 none 0 0 0) w16.heap.size #[.int .i64 (tk : Int), .int .i64 (ls : Int), .string ⟨#[]⟩] wC) := hide (by rw [← hwC]; exact HF.out)
          clear hwC hHeld
          have c0 := blk_cell HF.out.blk 0 rfl
          have c1 := blk_cell HF.out.blk 1 rfl
          have d1 : wC.cell? ⟨w2.heap.size, 1, none⟩ = some (.int .i64 0) := blk_cell HF.out.cm.xb 1 rfl
          have d2 : wC.cell? ⟨w2.heap.size, 2, none⟩ = some (.int .i64 0) := blk_cell HF.out.cm.xb 2 rfl
          have e1 := blk_free HF.out.cm.xb 1
          have e2 := blk_free HF.out.cm.xb 2
          have gne : w16.heap.size ≠ w2.heap.size := HF.out.ne
          go_wp2_with fail
          have HP : Hid (Cm7 B p a len cap gS tk ls oo no co w w2.heap.size (cmdC (o : Int) tk (ls + 1 : Nat) 0 0 0 none 0 0 0) w16.heap.size #[.int .i64 (tk : Int), .int .i64 (ls : Int), .string ⟨#[]⟩] ((wC.setCell ⟨w2.heap.size, 1, none⟩ (.int .i64 (tk : Int))).setCell ⟨w2.heap.size, 2, none⟩ (.int .i64 ((ls : Int) + 1)))) := hide (HF.out.put 1 [.int .i64 (tk : Int), .int .i64 ((ls + 1 : Nat) : Int)])
          clear HF c0 c1 d1 d2 e1 e2
          refine (l01Below_any B p a len cap 10 (by decide) (by decide) _ HP.out.cm.cur).mono ?_
          rintro r w17 ⟨y, hy, rfl, hc17, hg17⟩
          have HQ := hide (HP.out.drawn hc17 hg17)
          clear HP hc17 hg17
          by_cases y0 : y = 0
          · subst y0
            have c1 := blk_cell HQ.out.blk 1 rfl
            have d2 : w17.cell? ⟨w2.heap.size, 2, none⟩ = some (.int .i64 ((ls + 1 : Nat) : Int)) := blk_cell HQ.out.cm.xb 2 rfl
            have e2 := blk_free HQ.out.cm.xb 2
            go_wp2_with fail
            refine (l01Below_any B p a len cap (ls + 3) (by omega) (by omega) _ HQ.out.cm.cur).mono ?_
            rintro r w18 ⟨z, hz, rfl, hc18, hg18⟩
            have HR := hide (HQ.out.drawn hc18 hg18)
            clear HQ hc18 hg18 c1 d2 e2
            have d2 : w18.cell? ⟨w2.heap.size, 2, none⟩ = some (.int .i64 ((ls + 1 : Nat) : Int)) := blk_cell HR.out.cm.xb 2 rfl
            have e2 := blk_free HR.out.cm.xb 2
            go_wp2_with fail
            exact CONT.out o tk z _ hO (by omega) (by omega) (HR.out.cm.put 2 [.int .i64 (z : Int)]) _ _ _ _ _ _ _ _ _ _ _ _ _ _ _ _ _ _ _ _ _ _ _ _ _ _ _ _ _ _ _ _ _ _ _ _ _ _ _ _ _ _ _ _ _ _ _ _ _ _ _ _ _ _ _ _ _ _ _ _ _ _ _ _ _ _ _ _ _ _ _ _ _ _ _ _ _ _ _ _ _ _ _ _ _ _ _ _ _ _ _ _ _ _ _ _ _ _ _ _ _ _ _ _ _ _ _ _ _ _ _ _ _ _ _ _ _ _
          · have q0 : ((y : Int) == 0) = false := by rw [beq_eq_false_iff_ne]; omega
            by_cases y1 : y = 1
            · subst y1
              go_wp2_with fail
              refine (l01Below_any B p a len cap 12 (by decide) (by decide) _ HQ.out.cm.cur).mono ?_
              rintro r w18 ⟨z, hz, rfl, hc18, hg18⟩
              have HR := hide (HQ.out.drawn hc18 hg18)
              clear HQ hc18 hg18
              have d1 : w18.cell? ⟨w2.heap.size, 1, none⟩ = some (.int .i64 (tk : Int)) := blk_cell HR.out.cm.xb 1 rfl
              have e1 := blk_free HR.out.cm.xb 1
              go_wp2_with fail
              exact CONT.out o z (ls + 1) _ hO (by omega) (by omega) (HR.out.cm.put 1 [.int .i64 (z : Int)]) _ _ _ _ _ _ _ _ _ _ _ _ _ _ _ _ _ _ _ _ _ _ _ _ _ _ _ _ _ _ _ _ _ _ _ _ _ _ _ _ _ _ _ _ _ _ _ _ _ _ _ _ _ _ _ _ _ _ _ _ _ _ _ _ _ _ _ _ _ _ _ _ _ _ _ _ _ _ _ _ _ _ _ _ _ _ _ _ _ _ _ _ _ _ _ _ _ _ _ _ _ _ _ _ _ _ _ _ _ _ _ _ _ _ _ _ _ _
            · have q1 : ((y : Int) == 1) = false := by rw [beq_eq_false_iff_ne]; omega
              go_wp2_with fail
              exact CONT.out o tk (ls + 1) _ hO (by omega) (by omega) HQ.out.cm _ _ _ _ _ _ _ _ _ _ _ _ _ _ _ _ _ _ _ _ _ _ _ _ _ _ _ _ _ _ _ _ _ _ _ _ _ _ _ _ _ _ _ _ _ _ _ _ _ _ _ _ _ _ _ _ _ _ _ _ _ _ _ _ _ _ _ _ _ _ _ _ _ _ _ _ _ _ _ _ _ _ _ _ _ _ _ _ _ _ _ _ _ _ _ _ _ _ _ _ _ _ _ _ _ _ _ _ _ _ _ _ _ _ _ _ _ _
        exact AllReadyH.nil
      exact AllReadyH.nil
    refine AllReadyH.cons rfl (fun K hK => ?_) ?_
    · have HV := hide hHeld
      have HG := hide (CmS.session hHeld #[.int .i64 0, .int .i64 0, .string ⟨#[]⟩])
      rw [if_pos (by rfl)]
      go_simp
      refine hK.out _ _ ?_ (fun hHeld => ?_)
      · exact CmS.alloc hHeld _
      clear hK K
      try simp only [Act.put, List.getElem_toArray, List.getElem_cons_zero, List.getElem_cons_succ, List.setIfInBounds_toArray, List.set_cons_zero, List.set_cons_succ]
      refine wpAnyH_ready (rs := [6]) (by kernel_rfl) (by simp) ?_
      refine AllReadyH.cons rfl (fun K hK => ?_) ?_
      · rw [if_pos (by rfl)]
        go_simp
        go_at_call 37
        refine (l01Below_any B p a len cap 1 (by decide) (by decide) _ hHeld.cur).mono ?_
        rintro r w16 ⟨y, hy, rfl, hc16, hg16⟩
        obtain rfl : y = 0 := by omega
        replace HG := hide (HG.out.drawn hc16 hg16)
        try go_simp
        refine hK.out _ _ ?_ (fun hHeld => ?_)
        · exact hHeld.drawn hc16 hg16
        clear hK K
        try simp only [Act.put, List.getElem_toArray, List.getElem_cons_zero, List.getElem_cons_succ, List.setIfInBounds_toArray, List.set_cons_zero, List.set_cons_succ]
        clear hc16 hg16 hy
        refine wpAnyH_take (i := 7) (v := ?_) rfl (by kernel_rfl) (by kernel_rfl) (by kernel_rfl) (fun _ _ _ h => h) (Or.inl ⟨by rfl, ?_⟩) (by assumption) ?_; rotate_left
        · (intro wz hSw; have z0 := blk_cell hSw.hb 0 rfl; have z1 := blk_cell hSw.sb 0 rfl; have z2 := blk_cell hSw.sb 1 rfl; have z3 := blk_cell hSw.sb 2 rfl; clear hSw; go_simp; first | done | with_reducible rfl)
        try simp only [Act.put, List.getElem_toArray, List.getElem_cons_zero, List.getElem_cons_succ, List.setIfInBounds_toArray, List.set_cons_zero, List.set_cons_succ]
        refine wpAnyH_take (i := 8) (v := ?_) rfl (by kernel_rfl) (by kernel_rfl) (by kernel_rfl) (fun _ _ _ h => h) (Or.inl ⟨by rfl, ?_⟩) (by assumption) ?_; rotate_left
        · (intro wz hSw; have z0 := blk_cell hSw.hb 0 rfl; have z1 := blk_cell hSw.sb 0 rfl; have z2 := blk_cell hSw.sb 1 rfl; have z3 := blk_cell hSw.sb 2 rfl; clear hSw; go_simp; first | done | with_reducible rfl)
        try simp only [Act.put, List.getElem_toArray, List.getElem_cons_zero, List.getElem_cons_succ, List.setIfInBounds_toArray, List.set_cons_zero, List.set_cons_succ]
        refine wpAnyH_ready (rs := [10]) (by kernel_rfl) (by simp) ?_
        refine AllReadyH.cons rfl (fun K hK => ?_) ?_
        · have y0 := blk_cell HG.out.blk 0 rfl
          have y1 := blk_cell HG.out.blk 1 rfl
          have y2 := blk_cell HG.out.blk 2 rfl
          have f0 := blk_free HG.out.blk 0
          have f1 := blk_free HG.out.blk 1
          have f2 := blk_free HG.out.blk 2
          have HF := hide (show Cm7 B p a len cap gS tk ls oo no co w w2.heap.size (cmdC (o : Int) 0 0 0 0 0 none 0 0 0) _ #[.int .i64 (tk : Int), .int .i64 (ls : Int), .string ⟨#[]⟩] _ from HG.out.fill 0 [.int .i64 tk, .int .i64 ls, .string ⟨#[]⟩])
          rw [if_pos (by rfl)]
          go_simp
          refine hK.out _ _ ?_ (fun hHeld => ?_)
          · exact HF.out.cm
          clear hK K
          try simp only [Act.put, List.getElem_toArray, List.getElem_cons_zero, List.getElem_cons_succ, List.setIfInBounds_toArray, List.set_cons_zero, List.set_cons_succ]
          clear HG HV
          clear y0 y1 y2 f0 f1 f2
          refine wpAnyH_done (by kernel_rfl) ?_ _
          obtain ⟨wC, hwC⟩ : ∃ wC, ((w16.setCell ⟨wB.heap.size, 0, none⟩ (.int .i64 (tk : Int))).setCell ⟨wB.heap.size, 1, none⟩ (.int .i64 (ls : Int))).setCell ⟨wB.heap.size, 2, none⟩ (.string ⟨#[]⟩) = wC := ⟨_, rfl⟩
          rw [hwC]
          replace HF : Hid (Cm7 B p a len cap gS tk ls oo no co w w2.heap.size (cmdC (o : Int) 0 0 0 0 0 none 0 0 0) wB.heap.size #[.int .i64 (tk : Int), .int .i64 (ls : Int), .string ⟨#[]⟩] wC) := hide (by rw [← hwC]; exact HF.out)
          clear hwC hHeld
          have c0 := blk_cell HF.out.blk 0 rfl
          have c1 := blk_cell HF.out.blk 1 rfl
          have d1 : wC.cell? ⟨w2.heap.size, 1, none⟩ = some (.int .i64 0) := blk_cell HF.out.cm.xb 1 rfl
          have d2 : wC.cell? ⟨w2.heap.size, 2, none⟩ = some (.int .i64 0) := blk_cell HF.out.cm.xb 2 rfl
          have e1 := blk_free HF.out.cm.xb 1
          have e2 := blk_free HF.out.cm.xb 2
          have gne : wB.heap.size ≠ w2.heap.size := HF.out.ne
          go_wp2_with fail
          have HP : Hid (Cm7 B p a len cap gS tk ls oo no co w w2.heap.size (cmdC (o : Int) tk (ls + 1 : Nat) 0 0 0 none 0 0 0) wB.heap.size #[.int .i64 (tk : Int), .int .i64 (ls : Int), .string ⟨#[]⟩] ((wC.setCell ⟨w2.heap.size, 1, none⟩ (.int .i64 (tk : Int))).setCell ⟨w2.heap.size, 2, none⟩ (.int .i64 ((ls : Int) + 1)))) := hide (HF.out.put 1 [.int .i64 (tk : Int), .int .i64 ((ls + 1 : Nat) : Int)])
          clear HF c0 c1 d1 d2 e1 e2
          refine (l01Below_any B p a len cap 10 (by decide) (by decide) _ HP.out.cm.cur).mono ?_
          rintro r w17 ⟨y, hy, rfl, hc17, hg17⟩
          have HQ := hide (HP.out.drawn hc17 hg17)
          clear HP hc17 hg17
          by_cases y0 : y = 0
          · subst y0
            have c1 := blk_cell HQ.out.blk 1 rfl
            have d2 : w17.cell? ⟨w2.heap.size, 2, none⟩ = some (.int .i64 ((ls + 1 : Nat) : Int)) := blk_cell HQ.out.cm.xb 2 rfl
            have e2 := blk_free HQ.out.cm.xb 2
            go_wp2_with fail
            refine (l01Below_any B p a len cap (ls + 3) (by omega) (by omega) _ HQ.out.cm.cur).mono ?_
            rintro r w18 ⟨z, hz, rfl, hc18, hg18⟩
            have HR := hide (HQ.out.drawn hc18 hg18)
            clear HQ hc18 hg18 c1 d2 e2
            have d2 : w18.cell? ⟨w2.heap.size, 2, none⟩ = some (.int .i64 ((ls + 1 : Nat) : Int)) := blk_cell HR.out.cm.xb 2 rfl
            have e2 := blk_free HR.out.cm.xb 2
            go_wp2_with fail
            exact CONT.out o tk z _ hO (by omega) (by omega) (HR.out.cm.put 2 [.int .i64 (z : Int)]) _ _ _ _ _ _ _ _ _ _ _ _ _ _ _ _ _ _ _ _ _ _ _ _ _ _ _ _ _ _ _ _ _ _ _ _ _ _ _ _ _ _ _ _ _ _ _ _ _ _ _ _ _ _ _ _ _ _ _ _ _ _ _ _ _ _ _ _ _ _ _ _ _ _ _ _ _ _ _ _ _ _ _ _ _ _ _ _ _ _ _ _ _ _ _ _ _ _ _ _ _ _ _ _ _ _ _ _ _ _ _ _ _ _ _ _ _ _
          · have q0 : ((y : Int) == 0) = false := by rw [beq_eq_false_iff_ne]; omega
            by_cases y1 : y = 1
            · subst y1
              go_wp2_with fail
              refine (l01Below_any B p a len cap 12 (by decide) (by decide) _ HQ.out.cm.cur).mono ?_
              rintro r w18 ⟨z, hz, rfl, hc18, hg18⟩
              have HR := hide (HQ.out.drawn hc18 hg18)
              clear HQ hc18 hg18
              have d1 : w18.cell? ⟨w2.heap.size, 1, none⟩ = some (.int .i64 (tk : Int)) := blk_cell HR.out.cm.xb 1 rfl
              have e1 := blk_free HR.out.cm.xb 1
              go_wp2_with fail
              exact CONT.out o z (ls + 1) _ hO (by omega) (by omega) (HR.out.cm.put 1 [.int .i64 (z : Int)]) _ _ _ _ _ _ _ _ _ _ _ _ _ _ _ _ _ _ _ _ _ _ _ _ _ _ _ _ _ _ _ _ _ _ _ _ _ _ _ _ _ _ _ _ _ _ _ _ _ _ _ _ _ _ _ _ _ _ _ _ _ _ _ _ _ _ _ _ _ _ _ _ _ _ _ _ _ _ _ _ _ _ _ _ _ _ _ _ _ _ _ _ _ _ _ _ _ _ _ _ _ _ _ _ _ _ _ _ _ _ _ _ _ _ _ _ _ _
            · have q1 : ((y : Int) == 1) = false := by rw [beq_eq_false_iff_ne]; omega
              go_wp2_with fail
              exact CONT.out o tk (ls + 1) _ hO (by omega) (by omega) HQ.out.cm _ _ _ _ _ _ _ _ _ _ _ _ _ _ _ _ _ _ _ _ _ _ _ _ _ _ _ _ _ _ _ _ _ _ _ _ _ _ _ _ _ _ _ _ _ _ _ _ _ _ _ _ _ _ _ _ _ _ _ _ _ _ _ _ _ _ _ _ _ _ _ _ _ _ _ _ _ _ _ _ _ _ _ _ _ _ _ _ _ _ _ _ _ _ _ _ _ _ _ _ _ _ _ _ _ _ _ _ _ _ _ _ _ _ _ _ _ _
        exact AllReadyH.nil
      exact AllReadyH.nil
    exact AllReadyH.nil

end Go.Proofs.YtmllcomppjkhhaaGreatDoor
