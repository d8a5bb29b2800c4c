/-
  Walks of chapter 7: ReadJournal of the specification (made by wip/tools/gen7o.py).
-/
import Derived.Test.YthbgklmnmoclhaaGreatDoorWalk7m
import Derived.Test.YthbgklmnmoclhaaGreatDoorPack33
import Derived.Test.YthbgklmnmoclhaaGreatDoorPack27
namespace Go.Proofs.YthbgklmnmoclhaaGreatDoor
open Go.RowKit P1 P3 P9 K
attribute [local go_sem ↓] Go.wp_at_zero Go.wp_at_succ
set_option linter.unusedVariables false
set_option linter.unusedSimpArgs false

theorem frameAt_pos {l : List UInt8} {a b : Nat} {r : List UInt8} (h : frameAt l a = some (r, b)) : 1 ≤ r.length := by
  unfold frameAt at h
  split at h
  · cases h
  · split at h
    · rename_i hc
      cases h
      rw [List.length_take, List.length_drop]
      omega
    · cases h

theorem unframeF_mem : ∀ (f : Nat) (l : List UInt8) (a : Nat), (∀ x ∈ (unframeF f l a).1, 1 ≤ x.length ∧ x.length ≤ 9000) ∧ (unframeF f l a).1.length ≤ f
  | 0, l, a => ⟨fun x hx => by simp [unframeF] at hx, by simp [unframeF]⟩
  | f + 1, l, a => by
    unfold unframeF
    cases h : frameAt l a with
    | none => exact ⟨fun x hx => by simp at hx, by simp⟩
    | some p =>
      obtain ⟨r, b⟩ := p
      have ih := unframeF_mem f l b
      refine ⟨fun x hx => ?_, ?_⟩
      · rcases List.mem_cons.1 hx with rfl | hx
        · exact ⟨frameAt_pos h, (frameAt_some h).2.2⟩
        · exact ih.1 x hx
      · simp only [List.length_cons]
        have := ih.2
        omega

theorem unframeL_mem {l : List UInt8} {L : List (List UInt8)} {e : Nat} (h : unframeL l = (L, e)) : (∀ x ∈ L, 1 ≤ x.length ∧ x.length ≤ 9000) ∧ L.length ≤ 20000 := by
  unfold unframeL at h
  split at h
  · rename_i hl
    have k := unframeF_mem l.length l 0
    rw [h] at k
    exact ⟨k.1, Nat.le_trans k.2 hl⟩
  · cases h
    exact ⟨fun x hx => by simp at hx, by simp⟩

/-- Texts in a row stand when a journal is written. -/
theorem own_keptJ {w w' : World} {base b : Nat} {v : Value} {m : Nat} {xs : List Value} {n t v0 s u : Int} {x : Value} (ho : w.ownsRow base 9 1 v m xs) (hj : JB w b n t v0 s u x) (hg : w.grownBy w' (some b)) : w'.ownsRow base 9 1 v m xs := by
  refine ho.kept hg ?_
  rcases ho.2 with ⟨rfl, -⟩ | ⟨q, cap, cur, rfl, -, hqb, -⟩
  · exact Or.inl rfl
  · refine Or.inr (fun e => ?_)
    cases e
    unfold JB at hj
    rw [hqb] at hj
    cases hj

theorem jr_none {n : Int} {l : List UInt8} (h : rdJn n l = none) : jrR n l = (zeroJ, 0, false) := by unfold jrR; rw [h]
theorem jr_some {n : Int} {l : List UInt8} {j : JnV} {e : Nat} (h : rdJn n l = some (j, e)) : jrR n l = (j, e, true) := by unfold jrR; rw [h]

theorem rdJn_begin {n : Int} {l x : List UInt8} {r : List (List UInt8)} {e a b : Nat} (hi : jnIn n = true) (hu : unframeL l = (x :: r, e)) (h2 : rdTwo 66 x = some (a, b)) (hl : lgOk a b [] = true) : rdJn n l = some (jnFold ⟨n, 0, 0, a, b, []⟩ (frameL x).length r) := by
  unfold rdJn
  rw [if_pos hi, hu]
  simp only
  rw [h2]
  simp only
  rw [if_pos hl]
theorem rdJn_two {n : Int} {l x : List UInt8} {r : List (List UInt8)} {e : Nat} (hu : unframeL l = (x :: r, e)) (h2 : rdTwo 66 x = none) : rdJn n l = none := by
  unfold rdJn
  split
  · rw [hu]
    simp only
    rw [h2]
  · rfl
theorem rdJn_log {n : Int} {l x : List UInt8} {r : List (List UInt8)} {e a b : Nat} (hu : unframeL l = (x :: r, e)) (h2 : rdTwo 66 x = some (a, b)) (hl : lgOk a b [] = false) : rdJn n l = none := by
  unfold rdJn
  split
  · rw [hu]
    simp only
    rw [h2]
    simp only
    rw [hl]
    rfl
  · rfl

theorem jnMore_lg {j j' : JnV} {l : List UInt8} (h : jnMore j l = some j') (hj : lgOk j.s j.u j.es = true) : lgOk j'.s j'.u j'.es = true := by
  unfold jnMore at h
  split at h
  · split at h
    · cases h
      exact hj
    · cases h
  · split at h
    · cases h
    · split at h
      · rename_i hp
        cases h
        exact putL_ok hp
      · cases h

/-- What the loop carries. -/
def RjRel (w : World) (n : Int) (x : List UInt8) (r : List (List UInt8)) (j0 : JnV) (g b cap : Nat) (k E : Nat) (j : JnV) (wr : World) : Prop :=
  (k ≤ r.length + 1 ∧ E ≤ 9014 * k ∧ lgOk j.s j.u j.es = true ∧ ((k = 0 ∧ j = j0 ∧ E = 0) ∨ (1 ≤ k ∧ jnFold j0 (frameL x).length r = jnFold j E ((x :: r).drop k)))) ∧
  JSt wr b (b + 1) j ∧ JB wr w.heap.size 0 0 0 0 0 (.slice none 0 0) ∧ wr.ownsRow w.heap.size 9 1 (.slice (some ⟨g, 0, none⟩) (r.length + 1) cap) (r.length + 1) (strs (x :: r)) ∧ Below w.heap.size w wr ∧ b < wr.heap.size

set_option maxHeartbeats 8000000 in
theorem specReadJournal_any (n : Int) (s : ByteArray) (hs : s.size ≤ 1048576) (w : World) :
    Calls Tryz.prog 21 #[.int .i64 n, .string s] w fun e w' => JrPost n (bl s) w e w' := by
  have hb0 := (Below.refl w.heap.size w).alloc (Nat.le_refl _) (.cells (jcells 0 0 0 0 0 (.slice none 0 0)) 30)
  have HU := hide (specUnframe_any s hs (w.alloc (.cells (jcells 0 0 0 0 0 (.slice none 0 0)) 30)))
  have HJ0 := hide (JB.new w 0 0 0 0 0 (.slice none 0 0))
  have HB0 := hide hb0
  clear hb0
  obtain ⟨L, eU, hu⟩ : ∃ L eU, unframeL (bl s) = (L, eU) := ⟨_, _, rfl⟩
  have HUF := hide hu
  unfold UnfPost at HU
  rw [hu] at HU
  simp only at HU
  have hmem := unframeL_mem hu
  clear hu
  by_cases hi : 0 ≤ n ∧ n ≤ 999
  · obtain ⟨hi0, hi1⟩ := hi
    have HI := hide (jnIn_iff.2 ⟨hi0, hi1⟩)
    cases L with
    | nil =>
      have HR := hide (jr_none (rdJn_none (n := n) HUF.out))
      go_enter Tryz.func21, Tryz.ntmps21
      go_wp2_with fail
      refine HU.out.mono ?_
      rintro e w1 ⟨g, cap, rfl, ho1, hb1⟩
      have hj1 := HJ0.out.on hb1 (by simp)
      have B1 := hide (HB0.out.trans (hb1.mono (by simp)))
      have HO1 := hide (own_base ho1 (show w.heap.size ≤ _ by simp))
      clear ho1 hb1 HU HJ0 HB0
      obtain ⟨r0, r1, r2, r3, r4, r5⟩ := hj1.jv
      have f0 := hj1.free 0
      have f1 := hj1.free 1
      have f2 := hj1.free 2
      have f3 := hj1.free 3
      have f4 := hj1.free 4
      have f5 := hj1.free 5
      have HE := hide (hj1.all 0 0 0 0 0 (.slice none 0 0))
      go_wp2_with (go_at_call 37; refine (l01In_yes _ _ _ (by omega) (by omega) _).mono ?_; rintro e w9 ⟨rfl, rfl⟩)
      refine bodyPost_ret (v := .tuple #[jval 0 0 0 0 0 (.slice none 0 0), .int .i64 0, .bool false]) (by simp [results, Tryz.results21, go_sem, r0, r1, r2, r3, r4, r5, f0, f1, f2, f3, f4, f5]) rfl ?_
      exact JrPost.mk' HR.out rfl (World.ownsRow_nil _ _ _ _) (B1.out.grown HE.out.2 B1.out.size (fun k e => by cases e; exact Nat.le_refl _))
    | cons x r =>
      obtain ⟨hm1, hm2⟩ := hmem
      have HM := hide hm1
      simp only [List.length_cons] at HU hm2
      have hx1 := hm1 x (by simp)
      have HT := hide (l07Two_any 66 ⟨x.toArray⟩ (by rw [size_mk7]; omega))
      rw [bl_mk7] at HT
      clear hm1
      have gN : (((r.length + 1 : Nat) : Int) == 0) = false := by rw [beq_eq_false_iff_ne]; omega
      have gN2 : ((r.length : Int) + 1 == 0) = false := by rw [beq_eq_false_iff_ne]; omega
      cases h2 : rdTwo 66 x with
      | none =>
        have HR := hide (jr_none (rdJn_two (n := n) HUF.out h2))
        rw [h2, show rpVal none = .tuple #[.int .i64 0, .int .i64 0, .bool false] from rfl] at HT
        clear h2
        go_enter Tryz.func21, Tryz.ntmps21
        go_wp2_with fail
        refine HU.out.mono ?_
        rintro e w1 ⟨g, cap, rfl, ho1, hb1⟩
        have hj1 := HJ0.out.on hb1 (by simp)
        have B1 := hide (HB0.out.trans (hb1.mono (by simp)))
        have HO1 := hide (own_base ho1 (show w.heap.size ≤ _ by simp))
        clear ho1 hb1 HU HJ0 HB0
        have HJ1 := hide hj1
        clear hj1
        obtain ⟨oa1, cap1, he1, hat1⟩ := strsAt_own HO1.out
        cases he1
        obtain ⟨x0, b0, q0, hx0, hidx, hbl, hc⟩ := hat1.get Tryz.underlying78 infoStr1 scell_length (by decide) 0 (by simp)
        have hx0e : x = x0 := by simpa using hx0
        subst hx0e
        have c0 := hc 0 _ rfl
        rw [Nat.add_zero] at c0
        replace hidx : ∀ wx, (Instr.indexAt 78 (.slice (some ⟨g, 0, none⟩) (r.length + 1) cap) (.int .i64 0)).run Tryz.prog wx = .ok (.pointer (some ⟨b0, q0, none⟩)) wx := hidx
        clear hc hx0 hat1
        go_wp2_with (go_at_call 37; refine (l01In_yes _ _ _ (by omega) (by omega) _).mono ?_; rintro e w9 ⟨rfl, rfl⟩)
        refine (HT.out _).mono ?_
        rintro e w2 ⟨rfl, hb2⟩
        have hj2 := HJ1.out.on hb2 HJ1.out.lt
        have B2 := hide (B1.out.trans (hb2.mono B1.out.size))
        have HO2 := hide (own_below HO1.out hb2)
        clear hb2 hidx hbl c0 HJ1 B1 HO1 HT
        have hlw := hj2.lt
        obtain ⟨r0, r1, r2, r3, r4, r5⟩ := hj2.jv
        have f0 := hj2.free 0
        have f1 := hj2.free 1
        have f2 := hj2.free 2
        have f3 := hj2.free 3
        have f4 := hj2.free 4
        have f5 := hj2.free 5
        have HE := hide (hj2.all 0 0 0 0 0 (.slice none 0 0))
        clear hj2
        go_wp2_with fail
        refine bodyPost_ret (v := .tuple #[jval 0 0 0 0 0 (.slice none 0 0), .int .i64 0, .bool false]) (by simp [results, Tryz.results21, go_sem, hlw, r0, r1, r2, r3, r4, r5, f0, f1, f2, f3, f4, f5]) rfl ?_
        exact JrPost.mk' HR.out rfl (World.ownsRow_nil _ _ _ _) ((B2.out.grown HE.out.2 B2.out.size (fun k e => by cases e; exact Nat.le_refl _)).alloc (Nat.le_trans B2.out.size HE.out.2.size) _)
      | some p =>
        obtain ⟨a, b⟩ := p
        have hsm := rdTwo_small h2
        rw [h2, show rpVal (some (a, b)) = .tuple #[.int .i64 (a : Int), .int .i64 (b : Int), .bool true] from rfl] at HT
        have HLO := hide (fun w => specLogOk_any (a : Int) (b : Int) none 0 0 [] w (RowsAt.nil _ _ _ (by unfold maxLen; omega)) (fun f hf => by simp at hf))
        cases hl : lgOk a b [] with
        | false =>
          have HR := hide (jr_none (rdJn_log (n := n) HUF.out h2 hl))
          rw [hl] at HLO
          clear h2 hl hsm
          go_enter Tryz.func21, Tryz.ntmps21
          go_wp2_with fail
          refine HU.out.mono ?_
          rintro e w1 ⟨g, cap, rfl, ho1, hb1⟩
          have hj1 := HJ0.out.on hb1 (by simp)
          have B1 := hide (HB0.out.trans (hb1.mono (by simp)))
          have HO1 := hide (own_base ho1 (show w.heap.size ≤ _ by simp))
          clear ho1 hb1 HU HJ0 HB0
          have HJ1 := hide hj1
          clear hj1
          obtain ⟨oa1, cap1, he1, hat1⟩ := strsAt_own HO1.out
          cases he1
          obtain ⟨x0, b0, q0, hx0, hidx, hbl, hc⟩ := hat1.get Tryz.underlying78 infoStr1 scell_length (by decide) 0 (by simp)
          have hx0e : x = x0 := by simpa using hx0
          subst hx0e
          have c0 := hc 0 _ rfl
          rw [Nat.add_zero] at c0
          replace hidx : ∀ wx, (Instr.indexAt 78 (.slice (some ⟨g, 0, none⟩) (r.length + 1) cap) (.int .i64 0)).run Tryz.prog wx = .ok (.pointer (some ⟨b0, q0, none⟩)) wx := hidx
          clear hc hx0 hat1
          go_wp2_with (go_at_call 37; refine (l01In_yes _ _ _ (by omega) (by omega) _).mono ?_; rintro e w9 ⟨rfl, rfl⟩)
          refine (HT.out _).mono ?_
          rintro e w2 ⟨rfl, hb2⟩
          have hj2 := HJ1.out.on hb2 HJ1.out.lt
          have B2 := hide (B1.out.trans (hb2.mono B1.out.size))
          have HO2 := hide (own_below HO1.out hb2)
          clear hb2 hidx hbl c0 HJ1 B1 HO1 HT
          have hx3 := JB.new w2 n 0 0 a b (.slice none 0 0)
          have hb3 := (Below.refl w2.heap.size w2).alloc (Nat.le_refl _) (.cells (jcells n 0 0 a b (.slice none 0 0)) 30)
          have hj3 := hj2.on hb3 hj2.lt
          have B3 := hide (B2.out.trans (hb3.mono B2.out.size))
          have HO3 := hide (own_below HO2.out hb3)
          have sz3 : (w2.alloc (.cells (jcells n 0 0 a b (.slice none 0 0)) 30)).heap.size = w2.heap.size + 1 := by simp
          have hlw := hj2.lt
          clear hb3 hj2 B2 HO2
          obtain ⟨y0, y1, y2, y3, y4, y5⟩ := hx3.jv
          clear hx3
          have HJ3 := hide hj3
          clear hj3
          go_wp2_with fail
          refine (HLO.out _).mono ?_
          rintro e w4 ⟨rfl, hb4⟩
          have hj4 := HJ3.out.on hb4 HJ3.out.lt
          have B4 := hide (B3.out.trans (hb4.mono B3.out.size))
          clear hb4 HJ3 B3 y0 y1 y2 y3 y4 y5
          obtain ⟨r0, r1, r2, r3, r4, r5⟩ := hj4.jv
          have f0 := hj4.free 0
          have f1 := hj4.free 1
          have f2 := hj4.free 2
          have f3 := hj4.free 3
          have f4 := hj4.free 4
          have f5 := hj4.free 5
          have HE := hide (hj4.all 0 0 0 0 0 (.slice none 0 0))
          go_wp2_with fail
          refine bodyPost_ret (v := .tuple #[jval 0 0 0 0 0 (.slice none 0 0), .int .i64 0, .bool false]) (by simp [results, Tryz.results21, go_sem, r0, r1, r2, r3, r4, r5, f0, f1, f2, f3, f4, f5]) rfl ?_
          exact JrPost.mk' HR.out rfl (World.ownsRow_nil _ _ _ _) (B4.out.grown HE.out.2 B4.out.size (fun k e => by cases e; exact Nat.le_refl _))
        | true =>
          have HR0 := hide (rdJn_begin (n := n) HI.out HUF.out h2 hl)
          have HLG := hide hl
          rw [hl] at HLO
          clear h2 hl hsm
          go_enter Tryz.func21, Tryz.ntmps21
          go_wp2_with fail
          refine HU.out.mono ?_
          rintro e w1 ⟨g, cap, rfl, ho1, hb1⟩
          have hj1 := HJ0.out.on hb1 (by simp)
          have B1 := hide (HB0.out.trans (hb1.mono (by simp)))
          have HO1 := hide (own_base ho1 (show w.heap.size ≤ _ by simp))
          clear ho1 hb1 HU HJ0 HB0
          have HJ1 := hide hj1
          clear hj1
          obtain ⟨oa1, cap1, he1, hat1⟩ := strsAt_own HO1.out
          cases he1
          obtain ⟨x0, b0, q0, hx0, hidx, hbl, hc⟩ := hat1.get Tryz.underlying78 infoStr1 scell_length (by decide) 0 (by simp)
          have hx0e : x = x0 := by simpa using hx0
          subst hx0e
          have c0 := hc 0 _ rfl
          rw [Nat.add_zero] at c0
          replace hidx : ∀ wx, (Instr.indexAt 78 (.slice (some ⟨g, 0, none⟩) (r.length + 1) cap) (.int .i64 0)).run Tryz.prog wx = .ok (.pointer (some ⟨b0, q0, none⟩)) wx := hidx
          clear hc hx0 hat1
          go_wp2_with (go_at_call 37; refine (l01In_yes _ _ _ (by omega) (by omega) _).mono ?_; rintro e w9 ⟨rfl, rfl⟩)
          refine (HT.out _).mono ?_
          rintro e w2 ⟨rfl, hb2⟩
          have hj2 := HJ1.out.on hb2 HJ1.out.lt
          have B2 := hide (B1.out.trans (hb2.mono B1.out.size))
          have HO2 := hide (own_below HO1.out hb2)
          clear hb2 hidx hbl c0 HJ1 B1 HO1 HT
          have hx3 := JB.new w2 n 0 0 a b (.slice none 0 0)
          have hb3 := (Below.refl w2.heap.size w2).alloc (Nat.le_refl _) (.cells (jcells n 0 0 a b (.slice none 0 0)) 30)
          have hj3 := hj2.on hb3 hj2.lt
          have B3 := hide (B2.out.trans (hb3.mono B2.out.size))
          have HO3 := hide (own_below HO2.out hb3)
          have sz3 : (w2.alloc (.cells (jcells n 0 0 a b (.slice none 0 0)) 30)).heap.size = w2.heap.size + 1 := by simp
          have hlw := hj2.lt
          clear hb3 hj2 B2 HO2
          obtain ⟨y0, y1, y2, y3, y4, y5⟩ := hx3.jv
          have HX3 := hide hx3
          have HJ3 := hide hj3
          clear hj3 hx3
          go_wp2_with fail
          refine (HLO.out _).mono ?_
          rintro e w4 ⟨rfl, hb4⟩
          obtain ⟨BB, hBB⟩ : ∃ BB, w2.heap.size = BB := ⟨_, rfl⟩
          have hj4 := HJ3.out.on hb4 HJ3.out.lt
          have hx4 := HX3.out.on hb4 HX3.out.lt
          have hS4 : w2.heap.size < w4.heap.size := hx4.lt
          rw [hBB] at hlw hx4 hS4
          have REL := hide (show RjRel w n x r ⟨n, 0, 0, a, b, []⟩ g BB cap 0 0 ⟨n, 0, 0, a, b, []⟩ w4 from ⟨⟨Nat.zero_le _, Nat.zero_le _, HLG.out, Or.inl ⟨rfl, rfl, rfl⟩⟩, ⟨_, hx4, World.ownsRow_nil _ _ _ _⟩, hj4, own_below HO3.out hb4, B3.out.trans (hb4.mono B3.out.size), hS4⟩)
          clear hb4 hj4 hx4 hS4 HJ3 HX3 B3 HO3 y0 y1 y2 y3 y4 y5 sz3 HLG HLO
          rw [hBB]
          clear hBB
          go_wp2_with fail
          go_loopw [13, 14] (fun e i wr => ∃ (k E : Nat) (j : JnV), i = .int .i64 (k : Int) ∧ e = .int .i64 (E : Int) ∧ RjRel w n x r ⟨n, 0, 0, a, b, []⟩ g BB cap k E j wr) (fun _ i _ => r.length + 1 - (intOf i).toNat)
          case atStart => exact ⟨0, 0, _, rfl, rfl, REL.out⟩
          case round =>
            obtain ⟨k, E, j, rfl, rfl, ⟨⟨hk, hE, hlg, hfo⟩, hjs, hj9, hos, hbel, hbb⟩⟩ := hrel
            have HBL := hide hbel
            have HOS := hide hos
            have HFO := hide hfo
            clear hbel hos hfo
            by_cases hlt : k < r.length + 1
            · have k0 : (k : Int) < ((r.length + 1 : Nat) : Int) := by omega
              have k1 : (k : Int) < (r.length : Int) + 1 := by omega
              obtain ⟨oa1, cap1, he1, hat1⟩ := strsAt_own HOS.out
              cases he1
              obtain ⟨xk, bk, qk, hxk, hidx, hbk, hc⟩ := hat1.get Tryz.underlying78 infoStr1 scell_length (by decide) k hlt
              have c0 := hc 0 _ rfl
              rw [Nat.add_zero] at c0
              have hxl := HM.out xk (List.mem_of_getElem? hxk)
              have HFR := hide (specFrame_in xk hxl.1 hxl.2)
              have hfl := frameL_room hxl.2
              have HDR := hide (show (x :: r).drop k = xk :: (x :: r).drop (k + 1) by obtain ⟨h1, h2⟩ := List.getElem?_eq_some_iff.1 hxk; rw [List.drop_eq_getElem_cons h1, h2])
              have HXK := hide hxk
              clear hc hat1 hxk
              have k19 : k ≤ 20000 := by omega
              by_cases hk0 : k = 0
              · have k2 : decide (0 < k) = false := by simp [hk0]
                have k3 : decide ((0 : Int) < (k : Int)) = false := by simp [hk0]
                have HK0 := hide hk0
                clear hk0
                have HJS := hide hjs
                have HJ9 := hide hj9
                clear hjs hj9
                go_wp2_with fail
                refine (HFR.out _).mono ?_
                rintro e w5 ⟨rfl, hb5⟩
                have HJ5 := hide (HJS.out.on hb5)
                have H95 := hide (HJ9.out.on hb5 HJ9.out.lt)
                have HO5 := hide (own_below HOS.out hb5)
                have HB5 := hide (HBL.out.trans (hb5.mono HBL.out.size))
                have hb6 : BB < w5.heap.size := Nat.lt_of_lt_of_le hbb hb5.size
                have hsz : (⟨(frameL xk).toArray⟩ : ByteArray).size = (frameL xk).length := rfl
                clear hb5 HJS HJ9 HOS HBL c0 hidx hbk
                have HF := hide (show jnFold (⟨n, 0, 0, a, b, []⟩ : JnV) (frameL x).length r = jnFold j (E + (frameL xk).length) ((x :: r).drop (k + 1)) from by
                  have h0 := HK0.out
                  subst h0
                  rcases HFO.out with ⟨-, rfl, rfl⟩ | ⟨h, -⟩
                  · have hx9 : x = xk := by simpa using HXK.out
                    subst hx9
                    simp
                  · omega)
                generalize (⟨(frameL xk).toArray⟩ : ByteArray) = FB at hsz ⊢
                go_wp2_with fail
                go_roundw
                case rel => exact ⟨k + 1, E + (frameL xk).length, j, by go_num, by go_num, ⟨by omega, by omega, hlg, Or.inr ⟨by omega, HF.out⟩⟩, HJ5.out, H95.out, HO5.out, HB5.out, hb6⟩
                case measure => simp [intOf]; omega
              · have k2 : decide (0 < k) = true := by simp; omega
                have k3 : (0 : Int) < (k : Int) := by omega
                have HFE := hide (show jnFold (⟨n, 0, 0, a, b, []⟩ : JnV) (frameL x).length r = jnFold j E (xk :: (x :: r).drop (k + 1)) by rcases HFO.out with ⟨h, -⟩ | ⟨-, h⟩; exact absurd h hk0; rw [h, HDR.out])
                have HGO := hide (l07More_any ⟨xk.toArray⟩ (by rw [size_mk7]; omega) wr BB (BB + 1) j hjs (Nat.lt_succ_self _) hbb hlg)
                rw [bl_mk7] at HGO
                obtain ⟨v9, hjb9, hown9⟩ := hjs
                have HJB := hide hjb9
                have HJ9 := hide hj9
                clear hjb9 hown9 hj9 hk0
                cases hm : jnMore j xk with
                | none =>
                  have HR := hide (jr_some (HR0.out.trans (congrArg some (HFE.out.trans (jnFold_stop hm)))))
                  unfold GoPost jnNext at HGO
                  rw [hm, show (none : Option JnV).isSome = false from rfl, Option.getD_none] at HGO
                  clear hm
                  go_wp2_with fail
                  refine HGO.out.mono ?_
                  rintro e w5 ⟨rfl, ⟨v, hjb, hown⟩, hg5⟩
                  obtain ⟨oa, cap9, hv⟩ := own_form3 hown
                  subst hv
                  have hj9 := HJ9.out.kept hg5 (fun e => by injection e with e; omega)
                  have HOW := hide hown
                  have HB5 := hide (HBL.out.grown hg5 HBL.out.size (fun k e => by cases e; omega))
                  clear HBL
                  have HBL := hide HB5.out
                  clear hown hg5 HGO HOS HB5 HJB HJ9 c0 hidx hbk
                  obtain ⟨z0, z1, z2, z3, z4, z5⟩ := hjb.jv
                  obtain ⟨r0, r1, r2, r3, r4, r5⟩ := hj9.jv
                  have f0 := hj9.free 0
                  have f1 := hj9.free 1
                  have f2 := hj9.free 2
                  have f3 := hj9.free 3
                  have f4 := hj9.free 4
                  have f5 := hj9.free 5
                  have HE := hide (hj9.all j.number j.term j.vote j.s j.u (.slice oa j.es.length cap9))
                  clear hjb hj9
                  go_wp2_with fail
                  refine bodyPost_ret (v := .tuple #[jval j.number j.term j.vote j.s j.u (.slice oa j.es.length cap9), .int .i64 (E : Int), .bool true]) (by simp [results, Tryz.results21, go_sem, r0, r1, r2, r3, r4, r5, f0, f1, f2, f3, f4, f5]) rfl ?_
                  exact JrPost.mk' HR.out rfl (own_base (own_keptb HOW.out HE.out.2 (by omega)) (by omega)) (HBL.out.grown HE.out.2 HBL.out.size (fun k e => by cases e; exact Nat.le_refl _))
                | some j' =>
                  have HF := hide (show jnFold (⟨n, 0, 0, a, b, []⟩ : JnV) (frameL x).length r = jnFold j' (E + (frameL xk).length) ((x :: r).drop (k + 1)) by
                    rw [HFE.out]
                    simp only [jnFold]
                    rw [hm])
                  unfold GoPost jnNext at HGO
                  rw [hm, show (some j' : Option JnV).isSome = true from rfl, Option.getD_some] at HGO
                  have hlg' : lgOk j'.s j'.u j'.es = true := jnMore_lg hm hlg
                  clear hm
                  go_wp2_with fail
                  refine HGO.out.mono ?_
                  rintro e w5 ⟨rfl, hjs5, hg5⟩
                  have hj95 := HJ9.out.kept hg5 (fun e => by injection e with e; omega)
                  have ho5 := own_keptJ HOS.out HJB.out hg5
                  have hbel5 := HBL.out.grown hg5 HBL.out.size (fun k e => by cases e; omega)
                  have hbb5 : BB < w5.heap.size := Nat.lt_of_lt_of_le hbb hg5.size
                  obtain ⟨oa5, cap5, he5, hat5⟩ := strsAt_own ho5
                  cases he5
                  obtain ⟨xk', bk', qk', hxk', hidx', hbk', hc'⟩ := hat5.get Tryz.underlying78 infoStr1 scell_length (by decide) k hlt
                  have hxe : xk = xk' := Option.some.inj (HXK.out.symm.trans hxk')
                  subst hxe
                  have c5 := hc' 0 _ rfl
                  rw [Nat.add_zero] at c5
                  have HJS5 := hide hjs5
                  have HJ95 := hide hj95
                  have HO5 := hide ho5
                  have HB5 := hide hbel5
                  clear hidx hbk c0 hc' hxk' hat5 hjs5 hj95 ho5 hbel5 hg5 HGO HOS HBL HJB HJ9
                  go_wp2_with fail
                  refine (HFR.out _).mono ?_
                  rintro e w6 ⟨rfl, hb6⟩
                  have HJ6 := hide (HJS5.out.on hb6)
                  have H96 := hide (HJ95.out.on hb6 HJ95.out.lt)
                  have HO6 := hide (own_below HO5.out hb6)
                  have HB6 := hide (HB5.out.trans (hb6.mono HB5.out.size))
                  have hb7 : BB < w6.heap.size := Nat.lt_of_lt_of_le hbb5 hb6.size
                  have hsz : (⟨(frameL xk).toArray⟩ : ByteArray).size = (frameL xk).length := rfl
                  clear hb6 HJS5 HJ95 HO5 HB5 c5 hidx' hbk'
                  generalize (⟨(frameL xk).toArray⟩ : ByteArray) = FB at hsz ⊢
                  go_wp2_with fail
                  go_roundw
                  case rel => exact ⟨k + 1, E + (frameL xk).length, j', by go_num, by go_num, ⟨by omega, by omega, hlg', Or.inr ⟨by omega, HF.out⟩⟩, HJ6.out, H96.out, HO6.out, HB6.out, hb7⟩
                  case measure => simp [intOf]; omega
            · have hkn : k = r.length + 1 := by omega
              have HR := hide (jr_some (HR0.out.trans (congrArg some (show jnFold (⟨n, 0, 0, a, b, []⟩ : JnV) (frameL x).length r = (j, E) by
                rcases HFO.out with ⟨h, -⟩ | ⟨-, h⟩
                · omega
                · rw [h, List.drop_eq_nil_of_le (by simp [hkn])]
                  rfl))))
              have k0 : decide ((k : Int) < ((r.length + 1 : Nat) : Int)) = false := by simp; omega
              have k1 : decide ((k : Int) < (r.length : Int) + 1) = false := by simp; omega
              have HKN := hide hkn
              clear hkn
              obtain ⟨v, hjb, hown⟩ := hjs
              obtain ⟨oa, cap9, hv⟩ := own_form3 hown
              subst hv
              have HOW := hide hown
              clear hown HOS HFO
              obtain ⟨z0, z1, z2, z3, z4, z5⟩ := hjb.jv
              obtain ⟨r0, r1, r2, r3, r4, r5⟩ := hj9.jv
              have f0 := hj9.free 0
              have f1 := hj9.free 1
              have f2 := hj9.free 2
              have f3 := hj9.free 3
              have f4 := hj9.free 4
              have f5 := hj9.free 5
              have HE := hide (hj9.all j.number j.term j.vote j.s j.u (.slice oa j.es.length cap9))
              clear hjb hj9
              go_wp2_with fail
              refine bodyPost_ret (v := .tuple #[jval j.number j.term j.vote j.s j.u (.slice oa j.es.length cap9), .int .i64 (E : Int), .bool true]) (by simp [results, Tryz.results21, go_sem, r0, r1, r2, r3, r4, r5, f0, f1, f2, f3, f4, f5]) rfl ?_
              exact JrPost.mk' HR.out rfl (own_base (own_keptb HOW.out HE.out.2 (by omega)) (by omega)) (HBL.out.grown HE.out.2 HBL.out.size (fun k e => by cases e; exact Nat.le_refl _))
  · have HR := hide (jr_none (rdJn_out (n := n) (l := bl s) (by cases h : jnIn n with | false => rfl | true => exact absurd (jnIn_iff.1 h) hi)))
    go_enter Tryz.func21, Tryz.ntmps21
    go_wp2_with fail
    refine HU.out.mono ?_
    rintro e w1 ⟨g, cap, rfl, ho1, hb1⟩
    have hj1 := HJ0.out.on hb1 (by simp)
    have B1 := hide (HB0.out.trans (hb1.mono (by simp)))
    have HO1 := hide (own_base ho1 (show w.heap.size ≤ _ by simp))
    clear ho1 hb1 HU HJ0 HB0
    obtain ⟨r0, r1, r2, r3, r4, r5⟩ := hj1.jv
    have f0 := hj1.free 0
    have f1 := hj1.free 1
    have f2 := hj1.free 2
    have f3 := hj1.free 3
    have f4 := hj1.free 4
    have f5 := hj1.free 5
    have HE := hide (hj1.all 0 0 0 0 0 (.slice none 0 0))
    go_wp2_with (go_at_call 37; refine (l01In_no _ _ _ (by omega) _).mono ?_; rintro e w9 ⟨rfl, rfl⟩)
    refine bodyPost_ret (v := .tuple #[jval 0 0 0 0 0 (.slice none 0 0), .int .i64 0, .bool false]) (by simp [results, Tryz.results21, go_sem, r0, r1, r2, r3, r4, r5, f0, f1, f2, f3, f4, f5]) rfl ?_
    exact JrPost.mk' HR.out rfl (World.ownsRow_nil _ _ _ _) (B1.out.grown HE.out.2 B1.out.size (fun k e => by cases e; exact Nat.le_refl _))

end Go.Proofs.YthbgklmnmoclhaaGreatDoor
