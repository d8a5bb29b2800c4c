/-
  A queue of numbers in the call's own memory: a window of a block, whose first one is taken, and to whose end is appended.
-/
import Derived.Test.YtmifhdoaknbkbaaApart2
import Derived.Laws.Slices
namespace Go.Proofs.Ytmifhdoaknbkbaa
open Go.RowKit K
set_option linter.unusedVariables false
set_option linter.unusedSimpArgs false
set_option maxRecDepth 20000

/-- A window of numbers in a block of the call's own. -/
structure WinN (w : World) (base g o cap : Nat) (l : List Int) : Prop where
  lo : base ≤ g
  room : l.length ≤ cap
  most : cap ≤ maxLen
  wf : ∀ z ∈ l, (Lit.int .i64 z).wf = true
  blk : ∃ cur, w.heap[g]? = some (.cells cur 3 (0, 0)) ∧ o + cap ≤ cur.size ∧ ∀ j z, l[j]? = some z → cur[o + j]? = some (.int .i64 z)

theorem WinN.lt {w : World} {base g o cap : Nat} {l : List Int} (h : WinN w base g o cap l) : g < w.heap.size := by
  obtain ⟨cur, hb, _⟩ := h.blk
  exact blk_lt hb

theorem WinN.kept {w w' : World} {base g o cap : Nat} {l : List Int} {row : Option Nat} (h : WinN w base g o cap l) (hg : w.grownBy w' row) (hne : row ≠ some g) : WinN w' base g o cap l := by
  obtain ⟨h1, h2, h3, h4, cur, hb, hc⟩ := h
  exact ⟨h1, h2, h3, h4, cur, (hg.block g (blk_lt hb) (fun e => hne e.symm)).trans hb, hc⟩

theorem WinN.below {w w' : World} {base g o cap : Nat} {l : List Int} (h : WinN w base g o cap l) (hb : Below w.heap.size w w') : WinN w' base g o cap l := h.kept (row := none) (grown_below hb) (fun e => by cases e)

theorem WinN.ints {w : World} {base g o cap : Nat} {l : List Int} (h : WinN w base g o cap l) : IntsAt w (some ⟨g, o, none⟩) l.length cap l := by
  obtain ⟨h1, h2, h3, h4, cur, hb, hc, hz⟩ := h
  exact ⟨rfl, h2, h3, h4, fun i z hi => ⟨g, o, rfl, blk_cell hb _ (hz i z hi)⟩⟩

theorem WinN.head {w : World} {base g o cap : Nat} {z : Int} {r : List Int} (h : WinN w base g o cap (z :: r)) : w.cell? ⟨g, o, none⟩ = some (.int .i64 z) := by
  obtain ⟨h1, h2, h3, h4, cur, hb, hc, hz⟩ := h
  exact blk_cell hb _ (hz 0 z rfl)

theorem winN_new (w : World) (base : Nat) (x : Int) (hb : base ≤ w.heap.size) (hx : (Lit.int .i64 x).wf = true) : WinN (w.alloc (.cells #[.int .i64 x] 3)) base w.heap.size 0 1 [x] :=
  ⟨hb, by simp, by unfold maxLen; omega, fun z hz => by simp at hz; subst hz; exact hx, _, heap_alloc_new w _, by simp, fun j z hj => by
    match j, hj with
    | 0, hj => simpa using hj⟩

/-- The first one taken. -/
theorem WinN.tail {w : World} {base g o cap : Nat} {z : Int} {r : List Int} (h : WinN w base g o cap (z :: r)) :
    ∃ o' cap', (∀ wx, (Instr.slice 38 (.slice (some ⟨g, o, none⟩) (r.length + 1) cap) (some (.int .i64 1)) none none).run Try.prog wx = .ok (.slice (some ⟨g, o', none⟩) r.length cap') wx) ∧ WinN w base g o' cap' r := by
  obtain ⟨h1, h2, h3, h4, cur, hb, hc, hz⟩ := h
  simp only [List.length_cons] at h2
  have he : Try.prog.elem 38 = 3 := by kernel_rfl
  have hs : ∀ wx : World, (sizeOf 3).run Try.prog wx = .ok 1 wx := fun wx => Try.sizeOf3 wx
  by_cases hcap : cap = 1
  · subst hcap
    have hr : r = [] := List.eq_nil_of_length_eq_zero (by omega)
    subst hr
    refine ⟨o, 0, fun wx => ?_, ⟨h1, by simp, by unfold maxLen; omega, fun z hz => by simp at hz, cur, hb, by omega, fun j z hj => by simp at hj⟩⟩
    have := run_slice_l (P := Try.prog) wx 38 (some ⟨g, o, none⟩) 1 1 (by rw [he]; exact Try.underlying38) .i64 1 (by omega) (by omega)
    rw [he] at this
    simpa [hs, Result.andThen, sliced] using this
  · refine ⟨o + 1, cap - 1, fun wx => ?_, ⟨h1, by omega, by omega, fun y hy => h4 y (List.mem_cons_of_mem _ hy), cur, hb, by omega, fun j y hj => ?_⟩⟩
    · have := run_slice_l (P := Try.prog) wx 38 (some ⟨g, o, none⟩) (r.length + 1) cap (by rw [he]; exact Try.underlying38) .i64 1 (by omega) (by omega)
      rw [he] at this
      have hc1 : ¬ cap = 1 := hcap
      simpa [hs, Result.andThen, sliced, hc1, Addr.add_mid] using this
    · have := hz (j + 1) y (by simpa using hj)
      rw [show o + 1 + j = o + (j + 1) from by omega]
      exact this

/-- One appended to the end: in its place, or in a new block. -/
theorem run_append_win {w : World} {base g o cap : Nat} {l : List Int} (ty : TypeId) (h : WinN w base g o cap l) (x : Int) (hx : (Lit.int .i64 x).wf = true) {b c : Nat} (hbk : w.heap[b]? = some (.cells #[.int .i64 x] 3 (0, 0))) (hbase : base ≤ w.heap.size) (hl : l.length + 1 ≤ 1000000000) :
    ∃ g' o' cap' w', (Builtin.append_ #[38, 38] ty #[.slice (some ⟨g, o, none⟩) l.length cap, .slice (some ⟨b, 0, none⟩) 1 c]).run Try.prog w = .ok (.slice (some ⟨g', o', none⟩) (l.length + 1) cap') w' ∧ WinN w' base g' o' cap' (l ++ [x]) ∧ w.grownBy w' (some g) ∧ (g' = g ∨ g' = w.heap.size) := by
  obtain ⟨i, hi, hz, h1, h2⟩ := info_parts infoIz
  have hwn : ∀ z ∈ l ++ [x], (Lit.int .i64 z).wf = true := fun z hz => by
    rcases List.mem_append.1 hz with hz | hz
    · exact h.wf z hz
    · simp at hz; subst hz; exact hx
  have hnews : ∀ j u, [Value.int .i64 x][j]? = some u → w.cell? ((⟨b, 0, none⟩ : Addr).add j) = some u := fun j u hu => World.news_of_block hbk j u (by simpa using hu)
  obtain ⟨k1, k2, k3, k4, cur, hb, hc, hzz⟩ := h
  have ht := Try.underlying38
  by_cases hroom : l.length + 1 ≤ cap
  · have hst := run_storeCells_at Try.prog g (o + l.length) 3 [.int .i64 x] 0 cur w hb (by simp; omega) (by simp [Value.oneCell'])
    simp only [Nat.add_zero] at hst
    have hf := run_firstCells_some (P := Try.prog) w i.size 1 ⟨b, 0, none⟩ 1 c [.int .i64 x] (by simp [h1]) hnews
    refine ⟨g, o, cap, w.setRow g (cur.toList.take (o + l.length) ++ [Value.int .i64 x] ++ cur.toList.drop (o + l.length + 1)).toArray, ?_, ⟨k1, by simp; omega, k3, hwn, _, setRow_heap w g cur _ 3 _ hb, ?_, fun j z hj => ?_⟩, ⟨rfl, rfl, rfl, by simp, fun k _ hk => setRow_other w g k _ (fun e => hk (by rw [e]))⟩, .inl rfl⟩
    · simp [Builtin.append_, run_underlying ht, sizeOf, typeInfo, hi, h1, Builtin.lenOf, hroom, Addr.add_mid]
      rw [h1] at hf
      simp [hf, hst]
    · simp
      omega
    · have hcs : o + l.length < cur.size := by omega
      rcases Nat.lt_or_ge j l.length with hjl | hjl
      · rw [List.getElem?_append_left hjl] at hj
        have := hzz j z hj
        simp only [List.getElem?_toArray]
        rw [List.append_assoc, List.getElem?_append_left (by simp; omega), List.getElem?_take_of_lt (by omega)]
        simpa using this
      · have hjle : j = l.length := by
          have := (List.getElem?_eq_some_iff.1 hj).1
          simp at this
          omega
        subst hjle
        rw [List.getElem?_append_right (Nat.le_refl _)] at hj
        simp at hj
        subst hj
        simp only [List.getElem?_toArray]
        rw [List.append_assoc, List.getElem?_append_right (by simp; omega)]
        simp [Nat.min_eq_left (Nat.le_of_lt hcs)]
  · have holds : ∀ j u, (l.map icell)[j]? = some u → w.cell? ((⟨g, o, none⟩ : Addr).add j) = some u := fun j u hu => by
      rw [List.getElem?_map] at hu
      cases hq : l[j]? with
      | none => rw [hq] at hu; cases hu
      | some z =>
        rw [hq] at hu
        cases hu
        rw [Addr.add_mid]
        exact blk_cell hb _ (hzz j z hq)
    have hr := run_append_grow (P := Try.prog) w 38 ty 3 i (.int .i64 0) ht hi hz ⟨g, o, none⟩ l.length cap (l.map icell) (by simp [h1]) holds ⟨b, 0, none⟩ 1 c [.int .i64 x] (by simp [h1]) hnews (by omega) (by omega) (growslice_fits (by omega) (by rw [h2]; omega))
    have hge := grownCap_ge w (l.length + 1) cap 3
    have hcm : grownCap w (l.length + 1) cap 3 ≤ maxLen := grownCap_le_maxLen w (l.length + 1) cap 3 (by unfold maxLen; omega)
    refine ⟨w.heap.size, 0, _, _, hr, ⟨hbase, by simpa using hge, hcm, hwn, _, heap_alloc_new w.drew _, ?_, fun j z hj => ?_⟩, ⟨rfl, rfl, rfl, by simp, fun k hk _ => heap_alloc_old w.drew _ hk⟩, .inr rfl⟩
    · simp [size_zeroCells, Value.cells]
      omega
    · have hjl : j < l.length + 1 := by
        have := (List.getElem?_eq_some_iff.1 hj).1
        simpa using this
      rw [Nat.zero_add]
      have e1 : (l ++ [x])[j]?.map icell = some (.int .i64 z) := by rw [hj]; rfl
      rw [← List.getElem?_map, List.map_append] at e1
      rw [← e1, Array.getElem?_append_left (by simp; omega)]
      simp [icell]

theorem wpList_push_win {W0 : World} {ops : Array Oper} {rest : List Oper} {o' : Oper} {a : Act} {Q : Exit → Act → World → Prop} (hgd : o'.guard = none) (s x : Operand)
    (ho : o'.op = .call { callee := .builtin .append, args := #[s, x], argTypes := #[38, 38] })
    {base g o cap : Nat} {l : List Int} (h : WinN W0 base g o cap l) (y : Int) (hy : (Lit.int .i64 y).wf = true)
    (hs : a.eval s = .slice (some ⟨g, o, none⟩) l.length cap) (hx : a.eval x = .slice (some ⟨W0.heap.size, 0, none⟩) 1 1) (hbase : base ≤ W0.heap.size) (hl : l.length + 1 ≤ 1000000000)
    (hK : ∀ g' o2 cap' w', WinN w' base g' o2 cap' (l ++ [y]) → (W0.alloc (.cells #[.int .i64 y] 3)).grownBy w' (some g) → (g' = g ∨ g' = W0.heap.size + 1) → wpList Try.prog ops Q rest (a.put o'.dst (.slice (some ⟨g', o2, none⟩) (l.length + 1) cap')) w') : wpList Try.prog ops Q (o' :: rest) a (W0.alloc (.cells #[.int .i64 y] 3)) := by
  refine wpList_plain hgd fun K hKK => ?_
  obtain ⟨g', o2, cap', w', hr, r1, r2, r3⟩ := run_append_win (w := W0.alloc (.cells #[.int .i64 y] 3)) o'.type (h.below ((Below.refl _ _).alloc (Nat.le_refl _) _)) y hy (b := W0.heap.size) (c := 1) (heap_alloc_new W0 _) (by simp; omega) hl
  unfold Oper.wp execOp
  simp only [ho, resolve, invoke, builtin, Sem.run_bind, Sem.run_pure, Result.andThen_ok, List.map_toArray, List.map_cons, List.map_nil, hs, hx, hr]
  rw [World.size_alloc] at r3
  exact hKK _ _ (hK g' o2 cap' w' r1 r2 r3)

end Go.Proofs.Ytmifhdoaknbkbaa
