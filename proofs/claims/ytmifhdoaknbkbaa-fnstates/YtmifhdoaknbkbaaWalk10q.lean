/-
  Walks of chapter 10 of the specification: a drawn state of a room (made by wip/tools/gen10q.py).
-/
import Derived.Test.YtmifhdoaknbkbaaPkWalk12g
import Derived.Test.YtmifhdoaknbkbaaPkDraw1
namespace Go.Proofs.Ytmifhdoaknbkbaa
open Go.RowKit P1 P3 P5 P9 P11 P12 P14 P15 K
set_option linter.unusedVariables false
set_option linter.unusedSimpArgs false

/-- 'append(out, x...)' at a step of a region that draws its order. -/
theorem step_append_src {P : Program} {w : World} {ops : Array Oper} {o : Oper} {a : Act} {K : Act → World → Prop} {Q : Exit → Act → World → Prop} {E : Prop} (hgd : o.guard = none) (s x : Operand) (t : TypeId)
    (ho : o.op = .call { callee := .builtin .append, args := #[s, x], argTypes := #[t, t] })
    {base k bytes : Nat} {e : TypeId} {z : Value} (hk0 : 0 < k) (ht : P.underlying t = some (.slice e)) (hi : (P.info? e).map (fun i => (i.zero, i.size, i.bytes)) = some (some z, k, bytes)) (hzs : z.cells.size = k)
    {v v2 : Value} {n m : Nat} {xs ys : List Value} (hs : a.eval s = v) (hown : w.ownsRow base e k v n xs) (hx : a.eval x = v2) (hsrc : Src w k v2 m ys) (hbase : base ≤ w.heap.size) (h63 : n + m ≤ maxLen) (hbytes : (n + m) * bytes ≤ 140737488355328)
    (h : ∀ v' w', w'.ownsRow base e k v' (n + m) (xs ++ ys) → w.grownBy w' v.ownBlock → K (a.put o.dst v') w') :
    if Region.wanted o (yielded ops a.tmps) = true then Oper.wp P o a w K Q else E := by
  have hw : Region.wanted o (yielded ops a.tmps) = true := by simp [Region.wanted, hgd]
  rw [if_pos hw]
  obtain ⟨v', w', hr, k1, k2, k3⟩ := run_append_src (P := P) (ty := o.type) hk0 ht hi hzs hown hsrc hbase h63 hbytes
  unfold Oper.wp execOp
  simp only [ho, resolve, invoke, builtin, Sem.run_bind, Sem.run_pure, Result.andThen_ok, List.map_toArray, List.map_cons, List.map_nil, hs, hx, hr]
  exact h v' w' k1 k2

theorem own_pos {w : World} {base : Nat} {e : TypeId} {size : Nat} {v : Value} {n : Nat} {xs : List Value} (h : w.ownsRow base e size v n xs) (hn : 0 < n) : ∃ g cap, v = .slice (some ⟨g, 0, none⟩) n cap := by
  rcases h.2 with ⟨rfl, h2⟩ | ⟨g, cap, cur, rfl, _⟩
  · omega
  · exact ⟨g, cap, rfl⟩

theorem EvsR.at_ {w : World} {B : Nat} {v : Value} {es : List EvV} (h : EvsR w B v es) : ∃ oa cap, v = .slice oa es.length cap ∧ EvsAt w oa es.length cap es := by
  obtain ⟨xs, h1, h2, h3⟩ := h
  refine evsAt_of (own_src h1 h2) (fun i e he => ?_)
  obtain ⟨vl, vp, q1, q2, q3, q4, q5, q6⟩ := h3 i e he
  obtain ⟨xa, xc, rfl, hl⟩ := ints_own q2 q4
  obtain ⟨ya, yc, rfl, hq⟩ := ints_own q3 q5
  exact ⟨xa, xc, ya, yc, q1, hl, hq, q6⟩

/-- A drawn state, beside a list that is not told of. -/
def PairPost (B p : Nat) (a : Option Addr) (len cap : Nat) (w : World) (r : Ending) (w' : World) : Prop :=
  ∃ (vl : Value) (ov : Option Addr) (cv : Nat) (t : St), r = .returned (.tuple #[vl, .slice ov t.length cv]) ∧ w'.ownsRow w.heap.size 32 2 (.slice ov t.length cv) t.length (t.flatMap icells) ∧ t.length ≤ 17 ∧ (∀ x ∈ t, WideI x) ∧ CurAt B w' p a len cap ∧ w.grownBy w' (some p)

theorem roomM_sts {p : Nat} {w : World} {ve vg : Value} {os : Option Addr} {n cs : Nat} {es : List EvV} {sts : List St} (h : RoomM p w ve (.slice os n cs) vg es sts) : StsAt w os n cs sts := by
  obtain ⟨xs, ys, zs, hX⟩ := h
  obtain ⟨oa, cap, he, hs⟩ := stsAt_of hX.ss_ hX.sx
  injection he with h1 h2 h3
  subst h1
  subst h3
  rw [h2]
  exact hs.un

theorem set_item {t : St} {i : Nat} (hi : i < t.length) (v : Int) : (t.flatMap icells).set (i * 2 + 1) (.int .i64 v) = (t.set i (t[i].1, v)).flatMap icells := flat_set icells 2 icells_length _ t i 1 _ hi (by decide) (by simp [icells])

set_option maxRecDepth 100000 in
set_option maxHeartbeats 8000000 in
theorem l10Pair_any (B p : Nat) (a : Option Addr) (len cap : Nat) (hlen : len ≤ 1048576) (w : World) (hB : B ≤ w.heap.size) (hc : CurAt B w p a len cap) :
    Calls Try.prog 26 #[.pointer (some ⟨p, 0, none⟩), .slice a len cap] w (PairPost B p a len cap w) := by
  have hpw := hc.lt
  have HC := hide hc
  clear hc
  go_enter Try.func26, Try.ntmps26
  go_upto_region 2 with (go_at_call 34; refine (l12Room_any B p a len cap hlen _ hB HC.out).mono ?_; rintro r w1 ⟨xe, xs, xg, es, sts, rfl, hrr, hD, hc1, hg1⟩; obtain ⟨oe, ce, os, cs, og, cg, rfl, rfl, rfl⟩ := hrr.form)
  have hn40 := hD.inv.len
  have hst40 : sts.length ≤ 40 := by rw [hD.inv.eqn]; exact hn40
  have hst1 : 0 < sts.length := by
    rw [hD.inv.eqn]
    have := hD.some_
    cases es with
    | nil => exact absurd rfl this
    | cons x r => simp
  have hes1 : 0 < es.length := by rw [← hD.inv.eqn]; exact hst1
  have HFI := hide hD.inv.fine
  have HSF := hide (fun s hs => hD.inv.st s hs)
  obtain ⟨W2, hW2⟩ : ∃ W2, w1.alloc (.cells #[.slice oe es.length ce, .slice os sts.length cs, .slice og es.length cg] 37) = W2 := ⟨_, rfl⟩
  have hb2 : Below w1.heap.size w1 W2 := by rw [← hW2]; exact (Below.refl _ _).alloc (Nat.le_refl _) _
  have hR2 : W2.heap[w1.heap.size]? = some (.cells #[.slice oe es.length ce, .slice os sts.length cs, .slice og es.length cg] 37 (0, 0)) := by rw [← hW2]; exact heap_alloc_new _ _
  have hs1 := hg1.size
  obtain ⟨oe', ce', heo, hat0⟩ := (hrr.below hb2).e.at_
  cases heo
  have HRM := hide ((hrr.below hb2).room (p := p) hpw)
  have HCL := hide (l09CopyList_any oe es.length ce es HFI.out W2 hat0)
  have HR2 := hide hR2
  have r02 := blk_cell hR2 0 rfl
  have HC2 := hide (hc1.kept (hb2.mono (by omega)) (hb2.block p (by omega)))
  have HG2 := hide (show w.grownBy W2 (some p) from grown_low hg1 (hb2.mono hs1))
  have hs2 := hb2.size
  have hlR := blk_lt hR2
  have HW2 := hide hW2
  clear hrr hD hc1 hg1 hb2 hR2 hat0 hW2 HC
  try rw [HW2.out]
  clear HW2
  go_upto_region 3 with (go_at_call 52; (with_reducible refine HCL.out.mono ?_); rintro r w3 ⟨vl, rfl, hRl, hb3⟩; obtain ⟨ol, cl, rfl⟩ := hRl.form)
  have hs3 := hb3.size
  have hR3 := (hb3.block w1.heap.size hlR).trans HR2.out
  obtain ⟨W4, hW4⟩ : ∃ W4, w3.alloc (.cells #[] 32) = W4 := ⟨_, rfl⟩
  have hb4 : Below w3.heap.size w3 W4 := by rw [← hW4]; exact (Below.refl _ _).alloc (Nat.le_refl _) _
  have HO4 := hide (show W4.ownsRow w3.heap.size 32 2 (.slice (some ⟨w3.heap.size, 0, none⟩) 0 0) 0 [] by rw [← hW4]; exact World.ownsRow_made (w := w3) #[] 0 (Nat.le_refl _) (by decide) rfl)
  have hb24 := hb3.trans (hb4.mono hs3)
  have hs4 := hb4.size
  have HR4 := hide ((hb4.block w1.heap.size (by omega)).trans hR3)
  have HC4 := hide (HC2.out.kept (hb24.mono (by omega)) (hb24.block p (by omega)))
  have HG4 := hide (grown_low HG2.out (hb24.mono (by omega)))
  have HRM4 := hide (HRM.out.on (mask_below (p := p) hb24 (by omega)))
  have hlc : es.length ≤ cl := by
    obtain ⟨_, h1, _⟩ := hRl
    rcases h1.2 with ⟨h1, h2⟩ | ⟨g', cap', cur, h1, -, -, h5, -⟩
    · omega
    · injection h1 with _ _ h3; omega
  have hol : ∃ g, ol = some ⟨g, 0, none⟩ := by
    obtain ⟨_, h1, _⟩ := hRl
    rcases h1.2 with ⟨h1, h2⟩ | ⟨g', cap', cur, h1, -, -, h5, -⟩
    · omega
    · injection h1 with h3 _ _; exact ⟨g', h3⟩
  obtain ⟨gl, rfl⟩ := hol
  have HW4 := hide hW4
  have r14 := blk_cell HR4.out 1 rfl
  have hgt : (0 : Int) < (sts.length : Int) := by omega
  clear hb3 hR3 hb4 hb24 hW4 hRl HRM HCL HR2 r02 HC2 HG2
  go_upto_region 4 with fail
  try rw [HW4.out]
  clear HW4
  go_upto_region 5 with fail
  refine (fun (KEY : Hid ?GP) => ?mainP) (hide ?keyP)
  case mainP =>
    go_region_law (first
      | (rw [if_pos (by rfl)]; go_simp; go_at_call 53; refine (l01Below_any B p a len cap sts.length hst1 (by omega) _ (HC4.out.kept (Below.refl B W4).drew rfl)).mono ?_; rintro r w5 ⟨x5, hx5, rfl, hc5, hg5'⟩; have hg5 : W4.grownBy w5 (some p) := grownBy_eq_l hg5'; have r15 := blk_cell ((hg5.block w1.heap.size (by omega) (fun q => by have := Option.some.inj q; omega)).trans HR4.out) 1 rfl; obtain ⟨s5, b5, q5, xa5, xc5, hs5, hidx5, c5, hit5⟩ := (roomM_sts (HRM4.out.on (mask_grown hg5 (by omega)))).get Try.underlying34 infoSt x5 hx5; have ho5 := HO4.out.kept hg5 (row_far HO4.out (by omega)); have hsf5 := HSF.out s5 (List.mem_of_getElem? hs5); have hl5 := hsf5.len; have hsz5 := hg5.size)
      | (refine step_append_src rfl _ _ 24 rfl (by decide) Try.underlying24 infoIIz rfl rfl ho5 rfl (items_src hit5) (by omega) (by unfold maxLen; omega) (by omega) ?_; intro v6 w6 ho6 hg6; obtain ⟨o6, c6, rfl⟩ := row_form ho6))
    all_goals
      have hb56 : Below w3.heap.size w5 w6 := (Below.refl _ _).grown hg6 (by omega) (fun k hk => (ho5.lt k hk).1)
      have HO6 := hide (show w6.ownsRow w.heap.size 32 2 (.slice o6 s5.length c6) s5.length (s5.flatMap icells) by have h := own_base ho6 (show w.heap.size ≤ w3.heap.size by omega); simpa using h)
      have HC6 := hide (hc5.kept (hb56.mono (by omega)) (hb56.block p (by omega)))
      have HG6 := hide (grown_low (grown_trans HG4.out hg5) (hb56.mono (by omega)))
      have HS6 := hide hsf5
      try simp only [Nat.zero_add]
      clear ho6 hg6 hb56 ho5 hsf5 hl5 hsz5 hit5 c5 hidx5 hs5 r15 hg5 hg5' hc5 hx5
      revert HS6
      revert HG6
      revert HC6
      revert HO6
      revert s5
      revert w6
      revert c6
      revert o6
      revert xc5
      revert xa5
      revert q5
      revert b5
      revert x5
      exact KEY.out
  case keyP =>
    intro x5 b5 q5 xa5 xc5 o6 c6 w6 s5 HO6 HC6 HG6 HS6
    have hsl := HS6.out.len
    have hpl : p < w6.heap.size := HC6.out.lt
    have hs6 := HG6.out.size
    clear HO4 HC4 HG4 HR4 HRM4 r14
    go_wp2_with fail
    refine (l01Below_any B p a len cap 20 (by omega) (by omega) _ HC6.out).mono ?_
    rintro r w7 ⟨x7, hx7, rfl, hc7, hg7⟩
    have HC7 := hide hc7
    have HG7 := hide (grown_trans HG6.out hg7)
    have HO7 := hide (HO6.out.kept hg7 (row_far HO6.out hpw))
    have hs7 := HG7.out.size
    clear hc7 hg7 HO6 HC6 HG6
    by_cases h0 : x7 = 0
    · subst h0
      have HOL := hide (show (w7.alloc (.cells #[.int .i64 0, .int .i64 3, .int .i64 4, .int .i64 15, .int .i64 16] 3)).ownsRow w7.heap.size 3 1 (.slice (some ⟨w7.heap.size, 0, none⟩) 5 5) 5 (I64z [0, 3, 4, 15, 16]) from World.ownsRow_lit (base := w7.heap.size) (size := 1) w7 #[.int .i64 0, .int .i64 3, .int .i64 4, .int .i64 15, .int .i64 16] 5 (Nat.le_refl _) (by decide) (by simp))
      have HCA := hide (HC7.out.kept (((Below.refl w7.heap.size w7).alloc (Nat.le_refl _) (.cells #[.int .i64 0, .int .i64 3, .int .i64 4, .int .i64 15, .int .i64 16] 3)).mono (by omega)) (((Below.refl w7.heap.size w7).alloc (Nat.le_refl _) (.cells #[.int .i64 0, .int .i64 3, .int .i64 4, .int .i64 15, .int .i64 16] 3)).block p (by omega)))
      have HBA := hide (show Below w7.heap.size w7 (w7.alloc (.cells #[.int .i64 0, .int .i64 3, .int .i64 4, .int .i64 15, .int .i64 16] 3)) from (Below.refl _ _).alloc (Nat.le_refl _) _)
      go_wp2_with fail
      refine (l01PickInt_any B p a len cap w7.heap.size _ [0, 3, 4, 15, 16] (by simp) (by simp) _ (by omega) HOL.out HCA.out).mono ?_
      rintro r w8 ⟨y, hy, rfl, hc8, hg8⟩
      have hyb : 0 ≤ y ∧ y ≤ 16 := by simp at hy; omega
      have ho8 := (own_below HO7.out HBA.out).kept hg8 (row_far HO7.out hpw)
      have HG8 := hide (grown_trans (grown_low HG7.out (HBA.out.mono hs7)) hg8)
      have HC8 := hide hc8
      have hs8 := HG8.out.size
      clear hc8 hg8 HOL HCA hy
      go_wp2_with (at_builtin; refine wpList_pushG (W0 := w8) (cs := #[.int .i64 y, .int .i64 1]) rfl _ _ 24 rfl (by decide) Try.underlying24 infoIIz rfl rfl ho8 rfl rfl (by simp [Value.oneCell']) hs8 (by unfold maxLen; omega) (by omega) ?_; intro v9 w9 ho9 hg9; obtain ⟨o9, c9, rfl⟩ := row_form ho9)
      have hb9 : Below w.heap.size w8 w9 := ((Below.refl w.heap.size w8).alloc hs8 _).grown hg9 (by simp; omega) (fun k hk => (ho8.lt k hk).1)
      have hlen9 : (s5 ++ [(y, (1 : Int))]).length = s5.length + 1 := by simp
      refine bodyPost_ret (v := .tuple #[.slice (some ⟨gl, 0, none⟩) es.length cl, .slice o9 (s5.length + 1) c9]) (by simp [results, Try.results26, go_sem]) rfl ?_
      refine ⟨_, o9, c9, s5 ++ [(y, 1)], by rw [hlen9], by rw [hlen9, List.flatMap_append]; simpa [icells] using ho9, by rw [hlen9]; omega, fun x hx => ?_, HC8.out.kept (hb9.mono hB) (hb9.block p hpw), grown_low HG8.out hb9⟩
      rcases List.mem_append.1 hx with hx | hx
      · exact HS6.out.wide x hx
      · simp at hx
        subst hx
        exact ⟨wide_id (by simp; omega) (by simp; omega), wide_id (by simp) (by simp)⟩
    · have g0 : ((x7 : Int) == 0) = false := by rw [beq_eq_false_iff_ne]; omega
      by_cases h1 : x7 = 1
      · subst h1
        by_cases hz : s5.length = 0
        · have hzi : ¬ ((0 : Int) < (s5.length : Int)) := by omega
          clear hz
          go_wp2_with fail
          refine bodyPost_ret (v := .tuple #[.slice (some ⟨gl, 0, none⟩) es.length cl, .slice o6 s5.length c6]) (by simp [results, Try.results26, go_sem]) rfl ?_
          exact ⟨_, o6, c6, s5, rfl, HO7.out, by omega, HS6.out.wide, HC7.out, HG7.out⟩
        · have hzi : (0 : Int) < (s5.length : Int) := by omega
          obtain ⟨g7, cg7, hv7⟩ := own_pos HO7.out (by omega)
          injection hv7 with hv1 hv2 hv3
          subst hv1
          subst hv3
          clear hv2
          go_wp2_with fail
          refine (l01Below_any B p a len cap s5.length (by omega) (by omega) _ HC7.out).mono ?_
          rintro r w8 ⟨x8, hx8, rfl, hc8, hg8⟩
          have HC8 := hide hc8
          have HG8 := hide (grown_trans HG7.out hg8)
          have HO8 := hide (HO7.out.kept hg8 (row_far HO7.out hpw))
          have hs8 := HG8.out.size
          clear hc8 hg8
          have HOL := hide (show (w8.alloc (.cells #[.int .i64 0, .int .i64 1, .int .i64 2, .int .i64 7, .int .i64 1000001] 3)).ownsRow w8.heap.size 3 1 (.slice (some ⟨w8.heap.size, 0, none⟩) 5 5) 5 (I64z [0, 1, 2, 7, 1000001]) from World.ownsRow_lit (base := w8.heap.size) (size := 1) w8 #[.int .i64 0, .int .i64 1, .int .i64 2, .int .i64 7, .int .i64 1000001] 5 (Nat.le_refl _) (by decide) (by simp))
          have HCA := hide (HC8.out.kept (((Below.refl w8.heap.size w8).alloc (Nat.le_refl _) (.cells #[.int .i64 0, .int .i64 1, .int .i64 2, .int .i64 7, .int .i64 1000001] 3)).mono (by omega)) (((Below.refl w8.heap.size w8).alloc (Nat.le_refl _) (.cells #[.int .i64 0, .int .i64 1, .int .i64 2, .int .i64 7, .int .i64 1000001] 3)).block p (by omega)))
          have HBA := hide (show Below w8.heap.size w8 (w8.alloc (.cells #[.int .i64 0, .int .i64 1, .int .i64 2, .int .i64 7, .int .i64 1000001] 3)) from (Below.refl _ _).alloc (Nat.le_refl _) _)
          go_wp2_with fail
          refine (l01PickInt_any B p a len cap w8.heap.size _ [0, 1, 2, 7, 1000001] (by simp) (by simp) _ (by omega) HOL.out HCA.out).mono ?_
          rintro r w9 ⟨y, hy, rfl, hc9, hg9⟩
          have hyb : 0 ≤ y ∧ y ≤ 1000001 := by simp at hy; omega
          have ho9 := (own_below HO8.out HBA.out).kept hg9 (row_far HO8.out hpw)
          have HG9 := hide (grown_trans (grown_low HG8.out (HBA.out.mono hs8)) hg9)
          have HC9 := hide hc9
          have hs9 := HG9.out.size
          clear hc9 hg9 HOL HCA hy
          have hidx : ∀ wx, (Instr.indexAt 24 (.slice (some ⟨g7, 0, none⟩) s5.length c6) (.int .i64 (x8 : Int))).run Try.prog wx = .ok (.pointer (some ⟨g7, x8 * 2, none⟩)) wx := fun wx => by
            have := run_indexAt_slice wx 24 32 2 Try.underlying24 infoII g7 0 s5.length c6 x8 hx8
            simpa using this
          have hln := ho9.1
          obtain ⟨uu, huu⟩ : ∃ uu, w9.cell? ⟨g7, x8 * 2 + 1, none⟩ = some uu := ⟨_, by rw [ho9.cellAt (x8 * 2 + 1) (by omega), List.getElem?_eq_getElem (by omega)]⟩
          have hfz := ho9.frozenAt (x8 * 2 + 1)
          have HST := hide (ho9.stored (x8 * 2 + 1) (.int .i64 y))
          have HO9 := hide ho9
          clear ho9
          go_wp2_with fail
          refine bodyPost_ret (v := .tuple #[.slice (some ⟨gl, 0, none⟩) es.length cl, .slice (some ⟨g7, 0, none⟩) s5.length c6]) (by simp [results, Try.results26, go_sem]) rfl ?_
          have hset := HST.out.1
          rw [set_item hx8] at hset
          have hls : (s5.set x8 (s5[x8].1, y)).length = s5.length := by simp
          have hlow : Below w.heap.size w9 (w9.setCell ⟨g7, x8 * 2 + 1, none⟩ (.int .i64 y)) := (Below.refl _ _).grown HST.out.2 hs9 (fun k hk => by cases hk; exact (HO9.out.lt g7 rfl).1)
          refine ⟨_, some ⟨g7, 0, none⟩, c6, s5.set x8 (s5[x8].1, y), by rw [hls], by rw [hls]; exact hset, by rw [hls]; omega, fun x hx => ?_, HC9.out.kept (hlow.mono hB) (hlow.block p hpw), grown_low HG9.out hlow⟩
          rcases List.mem_or_eq_of_mem_set hx with hx | rfl
          · exact HS6.out.wide x hx
          · exact ⟨(HS6.out.wide _ (List.getElem_mem hx8)).1, wide_id (by simp; omega) (by simp; omega)⟩
      · have g1 : ((x7 : Int) == 1) = false := by rw [beq_eq_false_iff_ne]; omega
        by_cases h2 : x7 = 2
        · subst h2
          have hzi : (0 : Int) < (es.length : Int) := by omega
          go_wp2_with fail
          · refine bodyPost_ret (v := .tuple #[.slice (some ⟨gl, 0, none⟩) (es.length - 1) 0, .slice o6 s5.length c6]) (by simp [results, Try.results26, go_sem]) rfl ?_
            exact ⟨_, o6, c6, s5, rfl, HO7.out, by omega, HS6.out.wide, HC7.out, HG7.out⟩
          · refine bodyPost_ret (v := .tuple #[.slice (some ⟨gl, 9, none⟩) (es.length - 1) (cl - 1), .slice o6 s5.length c6]) (by simp [results, Try.results26, go_sem]) rfl ?_
            exact ⟨_, o6, c6, s5, rfl, HO7.out, by omega, HS6.out.wide, HC7.out, HG7.out⟩
        · have g2 : ((x7 : Int) == 2) = false := by rw [beq_eq_false_iff_ne]; omega
          go_wp2_with fail
          refine bodyPost_ret (v := .tuple #[.slice (some ⟨gl, 0, none⟩) es.length cl, .slice o6 s5.length c6]) (by simp [results, Try.results26, go_sem]) rfl ?_
          exact ⟨_, o6, c6, s5, rfl, HO7.out, by omega, HS6.out.wide, HC7.out, HG7.out⟩

/-- A drawn state, a Key and an Id. -/
def PutDraw (w : World) (r : Ending) (w' : World) : Prop :=
  ∃ (ov : Option Addr) (cv : Nat) (t : St) (k i : Int), r = .returned (.tuple #[.slice ov t.length cv, .int .i64 k, .int .i64 i]) ∧ w'.ownsRow w.heap.size 32 2 (.slice ov t.length cv) t.length (t.flatMap icells) ∧ t.length ≤ 17 ∧ (∀ x ∈ t, WideI x) ∧ 0 ≤ k ∧ k ≤ 16 ∧ 0 ≤ i ∧ i ≤ 1000001 ∧ Below w.heap.size w w'

set_option maxHeartbeats 4000000 in
theorem drawPut_any (B : Nat) (a : Option Addr) (len cap : Nat) (w : World) (hlen : len ≤ 1048576) (hB : B ≤ w.heap.size) (hcode : CodeAt B w a len) :
    Calls Try.prog 8 #[.slice a len cap] w (PutDraw w) := by
  go_enter Try.func8, Try.ntmps8
  go_wp2_with fail
  refine (l01New_any B a len cap _ hlen hB hcode).mono ?_
  rintro e w1 ⟨rfl, hc1, hb1⟩
  have hs1 := hb1.size
  have HC1 := hide hc1
  have HB1 := hide hb1
  have hl1 := hc1.lt
  clear hc1 hb1
  go_wp2_with fail
  refine (l10Pair_any B w.heap.size a len cap hlen _ (by omega) HC1.out).mono ?_
  rintro r w2 ⟨vl, ov, cv, t, rfl, ho2, ht, hwd, hc2, hg2⟩
  have HO2 := hide (own_base ho2 hs1)
  have HC2 := hide hc2
  have HB2 := hide (HB1.out.grown hg2 HB1.out.size (fun k hk => by cases hk; exact Nat.le_refl _))
  have HF2 := hide (row_far ho2 hl1)
  have hs2 := HB2.out.size
  have hl2 := hc2.lt
  have HWD := hide hwd
  clear ho2 hc2 hg2 hwd HC1
  have HOL := hide (show (w2.alloc (.cells #[.int .i64 0, .int .i64 1, .int .i64 2, .int .i64 3, .int .i64 4, .int .i64 11, .int .i64 12, .int .i64 15, .int .i64 16] 3)).ownsRow w2.heap.size 3 1 (.slice (some ⟨w2.heap.size, 0, none⟩) 9 9) 9 (I64z [0, 1, 2, 3, 4, 11, 12, 15, 16]) from World.ownsRow_lit (base := w2.heap.size) (size := 1) w2 #[.int .i64 0, .int .i64 1, .int .i64 2, .int .i64 3, .int .i64 4, .int .i64 11, .int .i64 12, .int .i64 15, .int .i64 16] 9 (Nat.le_refl _) (by decide) (by simp))
  have HBA := hide (show Below w2.heap.size w2 (w2.alloc (.cells #[.int .i64 0, .int .i64 1, .int .i64 2, .int .i64 3, .int .i64 4, .int .i64 11, .int .i64 12, .int .i64 15, .int .i64 16] 3)) from (Below.refl _ _).alloc (Nat.le_refl _) _)
  have HCA := hide (HC2.out.kept (HBA.out.mono (by omega)) (HBA.out.block w.heap.size (by omega)))
  go_wp2_with fail
  refine (l01PickInt_any B w.heap.size a len cap w2.heap.size _ [0, 1, 2, 3, 4, 11, 12, 15, 16] (by simp) (by simp) _ (by omega) HOL.out HCA.out).mono ?_
  rintro r w3 ⟨y, hy, rfl, hc3, hg3⟩
  have hyb : 0 ≤ y ∧ y ≤ 16 := by simp at hy; omega
  have HO3 := hide ((own_below HO2.out HBA.out).kept hg3 HF2.out)
  have hb3 : Below w.heap.size w w3 := (HB2.out.trans (HBA.out.mono hs2)).grown hg3 (Nat.le_trans hs2 HBA.out.size) (fun k hk => by cases hk; exact Nat.le_refl _)
  have HC3 := hide hc3
  have HB3 := hide hb3
  have hs3 := hb3.size
  have hl3 := hc3.lt
  clear hc3 hg3 HOL HCA hy hb3 HBA HO2 HC2
  have HOL := hide (show (w3.alloc (.cells #[.int .i64 0, .int .i64 1, .int .i64 5, .int .i64 1000000, .int .i64 1000001] 3)).ownsRow w3.heap.size 3 1 (.slice (some ⟨w3.heap.size, 0, none⟩) 5 5) 5 (I64z [0, 1, 5, 1000000, 1000001]) from World.ownsRow_lit (base := w3.heap.size) (size := 1) w3 #[.int .i64 0, .int .i64 1, .int .i64 5, .int .i64 1000000, .int .i64 1000001] 5 (Nat.le_refl _) (by decide) (by simp))
  have HBA := hide (show Below w3.heap.size w3 (w3.alloc (.cells #[.int .i64 0, .int .i64 1, .int .i64 5, .int .i64 1000000, .int .i64 1000001] 3)) from (Below.refl _ _).alloc (Nat.le_refl _) _)
  have HCA := hide (HC3.out.kept (HBA.out.mono (by omega)) (HBA.out.block w.heap.size (by omega)))
  go_wp2_with fail
  refine (l01PickInt_any B w.heap.size a len cap w3.heap.size _ [0, 1, 5, 1000000, 1000001] (by simp) (by simp) _ (by omega) HOL.out HCA.out).mono ?_
  rintro r w4 ⟨z, hz, rfl, hc4, hg4⟩
  have hzb : 0 ≤ z ∧ z ≤ 1000001 := by simp at hz; omega
  have HO4 := hide ((own_below HO3.out HBA.out).kept hg4 HF2.out)
  have HB4 := hide (show Below w.heap.size w w4 from (HB3.out.trans (HBA.out.mono hs3)).grown hg4 (Nat.le_trans hs3 HBA.out.size) (fun k hk => by cases hk; exact Nat.le_refl _))
  clear hc4 hg4 HOL HCA hz HBA
  go_wp2_with fail
  refine bodyPost_ret (v := .tuple #[.slice ov t.length cv, .int .i64 y, .int .i64 z]) (by simp [results, Try.results8, go_sem]) rfl ?_
  exact ⟨ov, cv, t, y, z, rfl, HO4.out, ht, HWD.out, hyb.1, hyb.2, hzb.1, hzb.2, HB4.out⟩

end Go.Proofs.Ytmifhdoaknbkbaa
