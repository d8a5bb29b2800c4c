/-
  Walks of chapter 8: the program's reader goes through a snapshot.
-/
import Derived.Test.YtpenpbopehbncaaDoorWalk8d
import Derived.Test.YtpenpbopehbncaaDoorPack9
namespace Go.Proofs.YtpenpbopehbncaaDoor.P11
open P1 P3 P9

theorem rdSnapB_chain {l c b r : List UInt8} {i t : Nat} (h : rdSnapB l = some (i, t, c, b, r)) : ∃ r1 r2 r3, rdV l = some (i, r1) ∧ rdV r1 = some (t, r2) ∧ rdS r2 = some (c, r3) ∧ rdS r3 = some (b, r) := by
  unfold rdSnapB at h
  split at h
  · cases h
  · rename_i i' r1 h1
    split at h
    · cases h
    · rename_i t' r2 h2
      split at h
      · cases h
      · rename_i c' r3 h3
        split at h
        · cases h
        · rename_i b' r4 h4
          simp only [Option.some.injEq, Prod.mk.injEq] at h
          obtain ⟨rfl, rfl, rfl, rfl, rfl⟩ := h
          exact ⟨r1, r2, r3, h1, h2, h3, h4⟩

theorem rdSnap_parts {text l : List UInt8} (h : unsealL text = some l) {q : Nat × Nat × List Int × List UInt8} (hq : rdSnap text = some q) :
    ∃ i t c b r1 r2 r3, rdV l = some (i, r1) ∧ rdV r1 = some (t, r2) ∧ rdS r2 = some (c, r3) ∧ rdS r3 = some (b, []) ∧ i ≤ 1000000 ∧ t ≤ 100000 ∧ confOk (confZ c) = true := by
  unfold rdSnap at hq
  rw [h] at hq
  simp only at hq
  split at hq
  · cases hq
  · rename_i i t c b r hr
    split at hq
    · rename_i hc
      obtain ⟨rfl, -, hk⟩ := hc
      obtain ⟨r1, r2, r3, h1, h2, h3, h4⟩ := rdSnapB_chain hr
      have hk := snOk_iff.1 hk
      exact ⟨i, t, c, b, r1, r2, r3, h1, h2, h3, h4, by omega, by omega, hk.2.2⟩
    · cases hq

theorem rdSnap_long {text : List UInt8} (h : 20000 < text.length) : rdSnap text = none := by
  cases hq : rdSnap text with
  | none => rfl
  | some q =>
    obtain ⟨i, t, z, b⟩ := q
    have := (rdSnap_bounds hq).2.2.2.2
    omega

theorem rdSnap_all {text l c b r1 r2 r3 : List UInt8} {i t : Nat} (h : unsealL text = some l) (hl : text.length ≤ 20000) (h1 : rdV l = some (i, r1)) (h2 : rdV r1 = some (t, r2)) (h3 : rdS r2 = some (c, r3)) (h4 : rdS r3 = some (b, [])) (hi : i ≤ 1000000) (ht : t ≤ 100000) (hz : confOk (confZ c) = true) :
    rdSnap text = some (i, t, confZ c, b) := by
  unfold rdSnap
  rw [h]
  simp only
  rw [rdSnapB_5 h1 h2 h3 h4]
  simp only
  rw [if_pos ⟨trivial, hl, snOk_iff.2 ⟨by omega, by omega, hz⟩⟩]

theorem rdSnap_no {text l : List UInt8} (h : unsealL text = some l) (hn : ∀ i t c b r1 r2 r3, rdV l = some (i, r1) → rdV r1 = some (t, r2) → rdS r2 = some (c, r3) → rdS r3 = some (b, []) → i ≤ 1000000 → t ≤ 100000 → confOk (confZ c) = true → False) : rdSnap text = none := by
  cases hq : rdSnap text with
  | none => rfl
  | some q =>
    obtain ⟨i, t, c, b, r1, r2, r3, h1, h2, h3, h4, h5, h6, h7⟩ := rdSnap_parts h hq
    exact (hn i t c b r1 r2 r3 h1 h2 h3 h4 h5 h6 h7).elim

end Go.Proofs.YtpenpbopehbncaaDoor.P11
namespace Go.Proofs.YtpenpbopehbncaaDoor
open Go.RowKit P1 P3 P9 P11 K
set_option linter.unusedVariables false
set_option linter.unusedSimpArgs false

/-- On the way: the reader, the snapshot that grows, the result's variable. -/
structure SnS (w W : World) (g : Nat) (s : ByteArray) (l : List UInt8) (i t : Int) (x : Value) (b : List UInt8) : Prop where
  e : SB W (w.heap.size + 1) i t x b
  r : SB W w.heap.size 0 0 (.slice none 0 0) []
  c : SL W g s l
  grown : w.grownBy W (some g)
  sz : w.heap.size + 1 + 1 ≤ W.heap.size

section
variable {w W W' : World} {g : Nat} {s : ByteArray} {l l' : List UInt8} {i t : Int} {x : Value} {b : List UInt8}
theorem SnS.step (h : SnS w W g s l i t x b) (hgl : g < w.heap.size) {s' : ByteArray} (hc : SL W' g s' l') (hg : W.grownBy W' (some g)) : SnS w W' g s' l' i t x b :=
  ⟨h.e.kept hg (fun q => by have := Option.some.inj q; omega), h.r.kept hg (fun q => by have := Option.some.inj q; omega), hc, grown_trans h.grown hg, Nat.le_trans h.sz hg.size⟩
theorem SnS.put (h : SnS w W g s l i t x b) (hgl : g < w.heap.size) {i' t' : Int} {x' : Value} {b' : List UInt8} {k : Nat} {v : Value} (he : SB (W.setCell ⟨w.heap.size + 1, k, none⟩ v) (w.heap.size + 1) i' t' x' b') : SnS w (W.setCell ⟨w.heap.size + 1, k, none⟩ v) g s l i' t' x' b' := by
  have hg := set_grown W (w.heap.size + 1) k v
  refine ⟨he, h.r.kept hg (fun q => by have := Option.some.inj q; omega), h.c.kept (hg.block g ?_ (fun q => by have := Option.some.inj q; omega)), ?_, Nat.le_trans h.sz hg.size⟩
  · have := h.sz; omega
  · exact ⟨hg.os.trans h.grown.os, hg.tape.trans h.grown.tape, hg.output.trans h.grown.output, Nat.le_trans h.grown.size hg.size, fun j hj hne => (hg.block j (by have := h.sz; omega) (fun q => by have := Option.some.inj q; omega)).trans (h.grown.block j hj hne)⟩
end

/-- What the reader's way hands back. -/
def SpPost (w : World) (g : Nat) (l : List UInt8) (e : Ending) (w' : World) : Prop :=
  match rdSnap l with
  | some (i, t, z, b) => ∃ v, e = .returned (snval i t v b) ∧ w'.ownsRow w.heap.size 3 1 v z.length (z.map icell) ∧ w.grownBy w' (some g)
  | none => e = .panicked noS ∧ w.grownBy w' (some g)

theorem SpPost.no {w w' : World} {g : Nat} {l : List UInt8} (h : rdSnap l = none) (hg : w.grownBy w' (some g)) : SpPost w g l (.panicked noS) w' := by
  unfold SpPost; rw [h]; exact ⟨rfl, hg⟩
theorem SpPost.yes {w w' : World} {g : Nat} {l b : List UInt8} {i t : Nat} {z : List Int} {v : Value} (h : rdSnap l = some (i, t, z, b)) (ho : w'.ownsRow w.heap.size 3 1 v z.length (z.map icell)) (hg : w.grownBy w' (some g)) : SpPost w g l (.returned (snval i t v b)) w' := by
  unfold SpPost; rw [h]; exact ⟨v, rfl, ho, hg⟩

theorem panic_end {P : Program} {fn : Func} {R : Ending → World → Prop} {chain : List PanicEntry} {a : Act} {w : World} (hd : a.defers = []) (h : R (.panicked chain) w) : bodyPost P fn R (.panic chain) a w := ⟨hd, h⟩

theorem SL.empty {w : World} {g : Nat} {s : ByteArray} {l : List UInt8} {a : Nat} (h : SR w g s a) (hl : (bl s).drop a = l) : (a = s.size ↔ l = []) := by
  subst hl
  rw [List.drop_eq_nil_iff, bl_length]
  have := h.1
  omega

set_option maxHeartbeats 4000000 in
theorem snap_any (g : Nat) (s : ByteArray) (hs : s.size ≤ 1048576) (w : World) (hc : SR w g s 0) (htab : SumTabIs w) :
    Calls Tryd.prog 81 #[.pointer (some ⟨g, 0, none⟩)] w fun e w' => SpPost w g (bl s) e w' := by
  have hgl := hc.lt
  have hb1 := (Below.refl w.heap.size w).alloc (Nat.le_refl _) (.cells (sncells 0 0 (.slice none 0 0) []) 30)
  have hb2 := hb1.alloc (by simp) (.cells (sncells 0 0 (.slice none 0 0) []) 30)
  have hst : SnS w ((w.alloc (.cells (sncells 0 0 (.slice none 0 0) []) 30)).alloc (.cells (sncells 0 0 (.slice none 0 0) []) 30)) g s (bl s) 0 0 (.slice none 0 0) [] := by
    refine ⟨?_, ?_, ⟨0, hc.on hb2 hgl, rfl⟩, grown_below hb2, by simp⟩
    · have := SB.new (w.alloc (.cells (sncells 0 0 (.slice none 0 0) []) 30)) 0 0 (.slice none 0 0) []
      simpa using this
    · exact (SB.new w 0 0 (.slice none 0 0) []).on ((Below.refl _ _).alloc (Nat.le_refl _) _) (by simp)
  have HST := hide hst
  have HTB := hide (tab_below htab hb2)
  have HC2 := hide (hc.on hb2 hgl)
  clear hst htab hc hb1 hb2
  go_enter Tryd.func81, Tryd.ntmps81
  go_wp2_with fail
  by_cases hun : 20000 < s.size ∨ unsealL (bl s) = none
  · refine (unseal_no g s hs _ HC2.out HTB.out hun).mono ?_
    rintro e w1 ⟨rfl, hg1⟩
    have hno : rdSnap (bl s) = none := by
      rcases hun with h | h
      · exact rdSnap_long (by rw [bl_length]; exact h)
      · exact rdSnap_off h
    have HP := hide (SpPost.no hno (grown_trans HST.out.grown hg1))
    clear hno hun hg1
    go_wp2_with fail
    exact panic_end rfl HP.out
  · have hs2 : s.size ≤ 20000 := by
      rcases Nat.lt_or_ge 20000 s.size with h | h
      · exact (hun (Or.inl h)).elim
      · exact h
    obtain ⟨l, hl⟩ : ∃ l, unsealL (bl s) = some l := by
      cases h : unsealL (bl s) with
      | none => exact (hun (Or.inr h)).elim
      | some l => exact ⟨l, rfl⟩
    clear hun
    have hls : l.length + 4 = s.size := by
      have e := (unseal_some hl).1
      have := congrArg List.length e
      rw [sealL_length, bl_length] at this
      omega
    have hT : (⟨l.toArray⟩ : ByteArray).size ≤ 20000 := by rw [size_mk8]; omega
    refine (unseal_yes g s hs2 l _ HC2.out HTB.out hl).mono ?_
    rintro e w1 ⟨rfl, hc1, hg1⟩
    have H1 := hide (HST.out.step hgl (l' := l) ⟨0, hc1, rfl⟩ hg1)
    have HL := hide hl
    have HNO := hide (fun hn => rdSnap_no hl hn)
    clear hc1 hg1 HST HC2 HTB hl
    go_wp2_with fail
    cases h1 : rdV l with
    | none =>
      refine (number_no g _ (by omega) l _ _ H1.out.c (fun n r q => by rw [h1] at q; cases q)).mono ?_
      rintro e w2 ⟨rfl, hg2⟩
      have HP := hide (SpPost.no (HNO.out (fun i t c b r1 r2 r3 k1 _ _ _ _ _ _ => by rw [h1] at k1; cases k1)) (grown_trans H1.out.grown hg2))
      clear h1 hg2
      go_wp2_with fail
      exact panic_end rfl HP.out
    | some q1 =>
    obtain ⟨i, r1⟩ := q1
    by_cases hi : i ≤ 1000000
    case neg =>
      refine (number_no g _ (by omega) l _ _ H1.out.c (fun n r q => by rw [h1] at q; cases q; omega)).mono ?_
      rintro e w2 ⟨rfl, hg2⟩
      have HP := hide (SpPost.no (HNO.out (fun i' t c b r1 r2 r3 k1 _ _ _ k5 _ _ => by rw [h1] at k1; cases k1; exact hi k5)) (grown_trans H1.out.grown hg2))
      clear h1 hg2
      go_wp2_with fail
      exact panic_end rfl HP.out
    refine (number_yes g _ (by omega) l r1 i _ _ H1.out.c h1 (by omega)).mono ?_
    rintro e w2 ⟨rfl, hc2, hg2⟩
    have H2 := hide (H1.out.step hgl hc2 hg2)
    have H2p := hide (H2.out.put hgl (H2.out.e.put0 (i : Int)))
    clear hc2 hg2 H1
    obtain ⟨e0, e1, e2, e3⟩ := H2.out.e.sv
    have f0 := H2.out.e.free 0
    have H1V := hide h1
    clear h1
    go_wp2_with fail
    clear e0 e1 e2 e3 f0 H2
    generalize w2.setCell ⟨w.heap.size + 1, 0, none⟩ (.int .i64 (i : Int)) = w3 at H2p ⊢
    cases h2 : rdV r1 with
    | none =>
      refine (number_no g _ (by omega) r1 _ _ H2p.out.c (fun n r q => by rw [h2] at q; cases q)).mono ?_
      rintro e w4 ⟨rfl, hg4⟩
      have HP := hide (SpPost.no (HNO.out (fun i' t c b r1' r2 r3 k1 k2 _ _ _ _ _ => by rw [H1V.out] at k1; cases k1; rw [h2] at k2; cases k2)) (grown_trans H2p.out.grown hg4))
      clear h2 hg4
      go_wp2_with fail
      exact panic_end rfl HP.out
    | some q2 =>
    obtain ⟨t, r2⟩ := q2
    by_cases ht : t ≤ 100000
    case neg =>
      refine (number_no g _ (by omega) r1 _ _ H2p.out.c (fun n r q => by rw [h2] at q; cases q; omega)).mono ?_
      rintro e w4 ⟨rfl, hg4⟩
      have HP := hide (SpPost.no (HNO.out (fun i' t' c b r1' r2 r3 k1 k2 _ _ _ k6 _ => by rw [H1V.out] at k1; cases k1; rw [h2] at k2; cases k2; exact ht k6)) (grown_trans H2p.out.grown hg4))
      clear h2 hg4
      go_wp2_with fail
      exact panic_end rfl HP.out
    refine (number_yes g _ (by omega) r1 r2 t _ _ H2p.out.c h2 (by omega)).mono ?_
    rintro e w4 ⟨rfl, hc4, hg4⟩
    have H4 := hide (H2p.out.step hgl hc4 hg4)
    have H4p := hide (H4.out.put hgl (H4.out.e.put1 (t : Int)))
    clear hc4 hg4 H2p
    obtain ⟨e0, e1, e2, e3⟩ := H4.out.e.sv
    have f1 := H4.out.e.free 1
    have H2V := hide h2
    clear h2
    go_wp2_with fail
    clear e0 e1 e2 e3 f1 H4
    generalize w4.setCell ⟨w.heap.size + 1, 1, none⟩ (.int .i64 (t : Int)) = w5 at H4p ⊢
    cases h3 : rdS r2 with
    | none =>
      refine (conf_no1 g _ hT r2 _ H4p.out.c h3).mono ?_
      rintro e w6 ⟨rfl, hg6⟩
      have HP := hide (SpPost.no (HNO.out (fun i' t' c b r1' r2' r3 k1 k2 k3 _ _ _ _ => by rw [H1V.out] at k1; cases k1; rw [H2V.out] at k2; cases k2; rw [h3] at k3; cases k3)) (grown_trans H4p.out.grown hg6))
      clear h3 hg6
      go_wp2_with fail
      exact panic_end rfl HP.out
    | some q3 =>
    obtain ⟨c, r3⟩ := q3
    cases hz : confOk (confZ c) with
    | false =>
      refine (conf_no2 g _ hT r2 c r3 _ H4p.out.c h3 hz).mono ?_
      rintro e w6 ⟨rfl, hg6⟩
      have HP := hide (SpPost.no (HNO.out (fun i' t' c' b r1' r2' r3' k1 k2 k3 _ _ _ k7 => by rw [H1V.out] at k1; cases k1; rw [H2V.out] at k2; cases k2; rw [h3] at k3; cases k3; rw [hz] at k7; cases k7)) (grown_trans H4p.out.grown hg6))
      clear h3 hz hg6
      go_wp2_with fail
      exact panic_end rfl HP.out
    | true =>
    have hsz5 := H4p.out.sz
    refine (conf_yes g _ hT r2 c r3 _ (by omega) H4p.out.c h3 hz).mono ?_
    rintro e w6 ⟨v, rfl, ho6, hc6, hg6⟩
    have H6 := hide (H4p.out.step hgl hc6 hg6)
    have H6p := hide (H6.out.put hgl (H6.out.e.put2 v))
    have HO6 := hide (own_base ho6 (show w.heap.size + 1 + 1 ≤ w5.heap.size from hsz5))
    clear hc6 hg6 H4p ho6 hsz5
    obtain ⟨e0, e1, e2, e3⟩ := H6.out.e.sv
    have f2 := H6.out.e.free 2
    have H3V := hide h3
    have HZ := hide hz
    clear h3 hz
    obtain ⟨ov, cv, hv⟩ : ∃ (oa : Option Addr) (cap : Nat), v = .slice oa (confZ c).length cap := by
      rcases HO6.out.2 with ⟨h1, h2⟩ | ⟨g', cap, cur, h1, -⟩
      · exact ⟨_, _, by rw [h1, h2]⟩
      · exact ⟨_, _, h1⟩
    subst hv
    obtain ⟨N, hN⟩ : ∃ N, (confZ c).length = N := ⟨_, rfl⟩
    rw [hN] at H6p HO6 ⊢
    have HN := hide hN
    clear hN
    go_wp2_with fail
    have HO7 := hide (own_setCell HO6.out (p := ⟨w.heap.size + 1, 2, none⟩) (by show w.heap.size + 1 < w.heap.size + 1 + 1; omega) (.slice ov N cv))
    clear e0 e1 e2 e3 f2 H6 HO6
    generalize w6.setCell ⟨w.heap.size + 1, 2, none⟩ (.slice ov N cv) = w7 at H6p HO7 ⊢
    cases h4 : rdS r3 with
    | none =>
      refine (short_no g _ hT r3 _ H6p.out.c h4).mono ?_
      rintro e w8 ⟨rfl, hg8⟩
      have HP := hide (SpPost.no (HNO.out (fun i' t' c' b r1' r2' r3' k1 k2 k3 k4 _ _ _ => by rw [H1V.out] at k1; cases k1; rw [H2V.out] at k2; cases k2; rw [H3V.out] at k3; cases k3; rw [h4] at k4; cases k4)) (grown_trans H6p.out.grown hg8))
      clear h4 hg8
      go_wp2_with fail
      exact panic_end rfl HP.out
    | some q4 =>
    obtain ⟨b, r4⟩ := q4
    refine (short_yes g _ hT r3 b r4 _ H6p.out.c h4).mono ?_
    rintro e w8 ⟨rfl, hc8, hg8⟩
    have H8 := hide (H6p.out.step hgl hc8 hg8)
    have H8p := hide (H8.out.put hgl (H8.out.e.put3 b))
    have HO8 := hide (HO7.out.kept hg8 (Or.inr (fun q => by have := HO7.out.lt g q; omega)))
    clear hc8 hg8 H6p HO7
    obtain ⟨e0, e1, e2, e3⟩ := H8.out.e.sv
    have f3 := H8.out.e.free 3
    have H4V := hide h4
    clear h4
    go_wp2_with fail
    have HO9 := hide (own_setCell HO8.out (p := ⟨w.heap.size + 1, 3, none⟩) (by show w.heap.size + 1 < w.heap.size + 1 + 1; omega) (.string ⟨b.toArray⟩))
    clear e0 e1 e2 e3 f3 H8 HO8
    generalize w8.setCell ⟨w.heap.size + 1, 3, none⟩ (.string ⟨b.toArray⟩) = w9 at H8p HO9 ⊢
    obtain ⟨a, hR, hla⟩ := H8p.out.c
    have hemp := SL.empty hR hla
    rw [size_mk8] at hemp
    obtain ⟨c0, c1, z0, z1⟩ := hR.cells
    have ha := hR.1
    rw [size_mk8] at ha
    clear hR hla
    have HALL := hide (fun (h4' : rdS r3 = some (b, [])) => rdSnap_all HL.out (by rw [bl_length]; exact hs2) H1V.out H2V.out H3V.out h4' hi ht HZ.out)
    by_cases hend : a = l.length
    · have q1 : decide ((a : Int) = (l.length : Int)) = true := by simp [hend]
      have q2 : ((a : Int) == (l.length : Int)) = true := by simp [hend]
      obtain rfl : r4 = [] := hemp.1 hend
      have HR := hide (HALL.out H4V.out)
      clear hemp hend
      go_region_held3 (fun w' => w'.cell? ⟨g, 0, none⟩ = some (.string ⟨l.toArray⟩) ∧ w'.cell? ⟨g, 1, none⟩ = some (.int .i64 (a : Int))) (first | go_keep | exact ⟨c0, c1⟩)
        (first | (go_at_call 101; refine (must_yes g _).mono ?_; rintro e w1 ⟨rfl, rfl⟩))
      obtain ⟨e0, e1, e2, e3⟩ := H8p.out.e.sv
      obtain ⟨s0, s1, s2, s3⟩ := H8p.out.r.sv
      have y0 := H8p.out.r.free 0
      have y1 := H8p.out.r.free 1
      have y2 := H8p.out.r.free 2
      have y3 := H8p.out.r.free 3
      have hsz9 := H8p.out.sz
      go_wp2_with fail
      obtain ⟨hS10, hg10⟩ := H8p.out.r.all (i : Int) (t : Int) (.slice ov N cv) b
      have hO10 := own_setCell (own_setCell (own_setCell (own_setCell HO9.out (p := ⟨w.heap.size, 0, none⟩) (by show w.heap.size < w.heap.size + 1 + 1; omega) (.int .i64 (i : Int))) (p := ⟨w.heap.size, 1, none⟩) (by show w.heap.size < w.heap.size + 1 + 1; omega) (.int .i64 (t : Int))) (p := ⟨w.heap.size, 2, none⟩) (by show w.heap.size < w.heap.size + 1 + 1; omega) (.slice ov N cv)) (p := ⟨w.heap.size, 3, none⟩) (by show w.heap.size < w.heap.size + 1 + 1; omega) (.string ⟨b.toArray⟩)
      generalize (((w9.setCell ⟨w.heap.size, 0, none⟩ (.int .i64 (i : Int))).setCell ⟨w.heap.size, 1, none⟩ (.int .i64 (t : Int))).setCell ⟨w.heap.size, 2, none⟩ (.slice ov N cv)).setCell ⟨w.heap.size, 3, none⟩ (.string ⟨b.toArray⟩) = w10 at hS10 hg10 hO10 ⊢
      clear e0 e1 e2 e3 s0 s1 s2 s3 y0 y1 y2 y3 c0 c1 z0 z1
      obtain ⟨t0, t1, t2, t3⟩ := hS10.sv
      refine bodyPost_ret (v := snval (i : Int) (t : Int) (.slice ov N cv) b) (by simp [results, Tryd.results81, go_sem, t0, t1, t2, t3]) rfl ?_
      refine SpPost.yes HR.out ?_ ?_
      · rw [HN.out]
        exact own_below (own_base hO10 (by omega)) (Below.refl _ _).drew
      · have hg9 := H8p.out.grown
        exact ⟨hg10.os.trans hg9.os, hg10.tape.trans hg9.tape, hg10.output.trans hg9.output, Nat.le_trans hg9.size hg10.size, fun j hj hne => (hg10.block j (by omega) (fun q => by have := Option.some.inj q; omega)).trans (hg9.block j hj hne)⟩
    · have q1 : decide ((a : Int) = (l.length : Int)) = false := by simp; omega
      have q2 : ((a : Int) == (l.length : Int)) = false := by simp; omega
      have hne : ¬ r4 = [] := fun h => hend (hemp.2 h)
      have HP := hide (HNO.out (fun i' t' c' b' r1' r2' r3' k1 k2 k3 k4 _ _ _ => by rw [H1V.out] at k1; cases k1; rw [H2V.out] at k2; cases k2; rw [H3V.out] at k3; cases k3; rw [H4V.out] at k4; cases k4; exact hne rfl))
      clear hemp hend hne
      refine wp_region_held_drew (S := fun w' => w'.cell? ⟨g, 0, none⟩ = some (.string ⟨l.toArray⟩) ∧ w'.cell? ⟨g, 1, none⟩ = some (.int .i64 (a : Int))) (by kernel_rfl) ⟨c0, c1⟩ (fun hHeld => ?_)
      refine wpAnyH_take (i := 0) (v := ?_) rfl (by kernel_rfl) (by kernel_rfl) (by kernel_rfl) (fun _ _ _ h => h) (Or.inl ⟨by rfl, ?_⟩) (by assumption) ?_; rotate_left
      · (intro wz hSw; obtain ⟨x0, x1⟩ := hSw; go_simp; first | done | with_reducible rfl)
      try simp only [Act.put, List.getElem_toArray, List.getElem_cons_zero, List.getElem_cons_succ, List.setIfInBounds_toArray, List.set_cons_zero, List.set_cons_succ]
      refine wpAnyH_take (i := 1) (v := ?_) rfl (by kernel_rfl) (by kernel_rfl) (by kernel_rfl) (fun _ _ _ h => h) (Or.inl ⟨by rfl, ?_⟩) (by assumption) ?_; rotate_left
      · (intro wz hSw; obtain ⟨x0, x1⟩ := hSw; go_simp; first | done | with_reducible rfl)
      try simp only [Act.put, List.getElem_toArray, List.getElem_cons_zero, List.getElem_cons_succ, List.setIfInBounds_toArray, List.set_cons_zero, List.set_cons_succ]
      refine wpAnyH_take (i := 2) (v := ?_) rfl (by kernel_rfl) (by kernel_rfl) (by kernel_rfl) (fun _ _ _ h => h) (Or.inl ⟨by rfl, ?_⟩) (by assumption) ?_; rotate_left
      · (intro wz hSw; obtain ⟨x0, x1⟩ := hSw; go_simp; first | done | with_reducible rfl)
      try simp only [Act.put, List.getElem_toArray, List.getElem_cons_zero, List.getElem_cons_succ, List.setIfInBounds_toArray, List.set_cons_zero, List.set_cons_succ]
      refine wpAnyH_take (i := 3) (v := ?_) rfl (by kernel_rfl) (by kernel_rfl) (by kernel_rfl) (fun _ _ _ h => h) (Or.inl ⟨by rfl, ?_⟩) (by assumption) ?_; rotate_left
      · (intro wz hSw; obtain ⟨x0, x1⟩ := hSw; go_simp; first | done | with_reducible rfl)
      try simp only [Act.put, List.getElem_toArray, List.getElem_cons_zero, List.getElem_cons_succ, List.setIfInBounds_toArray, List.set_cons_zero, List.set_cons_succ]
      refine wpAnyH_take (i := 4) (v := ?_) rfl (by kernel_rfl) (by kernel_rfl) (by kernel_rfl) (fun _ _ _ h => h) (Or.inl ⟨by rfl, ?_⟩) (by assumption) ?_; rotate_left
      · (intro wz hSw; obtain ⟨x0, x1⟩ := hSw; go_simp; first | done | with_reducible rfl)
      try simp only [Act.put, List.getElem_toArray, List.getElem_cons_zero, List.getElem_cons_succ, List.setIfInBounds_toArray, List.set_cons_zero, List.set_cons_succ]
      refine wpAnyH_take (i := 5) (v := ?_) rfl (by kernel_rfl) (by kernel_rfl) (by kernel_rfl) (fun _ _ _ h => h) (Or.inl ⟨by rfl, ?_⟩) (by assumption) ?_; rotate_left
      · (intro wz hSw; obtain ⟨x0, x1⟩ := hSw; go_simp; first | done | with_reducible rfl)
      try simp only [Act.put, List.getElem_toArray, List.getElem_cons_zero, List.getElem_cons_succ, List.setIfInBounds_toArray, List.set_cons_zero, List.set_cons_succ]
      refine wpAnyH_take (i := 6) (v := ?_) rfl (by kernel_rfl) (by kernel_rfl) (by kernel_rfl) (fun _ _ _ h => h) (Or.inl ⟨by rfl, ?_⟩) (by assumption) ?_; rotate_left
      · (intro wz hSw; obtain ⟨x0, x1⟩ := hSw; go_simp; first | done | with_reducible rfl)
      try simp only [Act.put, List.getElem_toArray, List.getElem_cons_zero, List.getElem_cons_succ, List.setIfInBounds_toArray, List.set_cons_zero, List.set_cons_succ]
      refine wpAnyH_take (i := 7) (v := ?_) rfl (by kernel_rfl) (by kernel_rfl) (by kernel_rfl) (fun _ _ _ h => h) (Or.inl ⟨by rfl, ?_⟩) (by assumption) ?_; rotate_left
      · (intro wz hSw; obtain ⟨x0, x1⟩ := hSw; go_simp; first | done | with_reducible rfl)
      try simp only [Act.put, List.getElem_toArray, List.getElem_cons_zero, List.getElem_cons_succ, List.setIfInBounds_toArray, List.set_cons_zero, List.set_cons_succ]
      refine wpAnyH_take (i := 8) (v := ?_) rfl (by kernel_rfl) (by kernel_rfl) (by kernel_rfl) (fun _ _ _ h => h) (Or.inl ⟨by rfl, ?_⟩) (by assumption) ?_; rotate_left
      · (intro wz hSw; obtain ⟨x0, x1⟩ := hSw; go_simp; first | done | with_reducible rfl)
      try simp only [Act.put, List.getElem_toArray, List.getElem_cons_zero, List.getElem_cons_succ, List.setIfInBounds_toArray, List.set_cons_zero, List.set_cons_succ]
      refine wpAnyH_take (i := 9) (v := ?_) rfl (by kernel_rfl) (by kernel_rfl) (by kernel_rfl) (fun _ _ _ h => h) (Or.inl ⟨by rfl, ?_⟩) (by assumption) ?_; rotate_left
      · (intro wz hSw; obtain ⟨x0, x1⟩ := hSw; go_simp; first | done | with_reducible rfl)
      try simp only [Act.put, List.getElem_toArray, List.getElem_cons_zero, List.getElem_cons_succ, List.setIfInBounds_toArray, List.set_cons_zero, List.set_cons_succ]
      refine wpAnyH_take (i := 10) (v := ?_) rfl (by kernel_rfl) (by kernel_rfl) (by kernel_rfl) (fun _ _ _ h => h) (Or.inl ⟨by rfl, ?_⟩) (by assumption) ?_; rotate_left
      · (intro wz hSw; obtain ⟨x0, x1⟩ := hSw; go_simp; first | done | with_reducible rfl)
      try simp only [Act.put, List.getElem_toArray, List.getElem_cons_zero, List.getElem_cons_succ, List.setIfInBounds_toArray, List.set_cons_zero, List.set_cons_succ]
      refine wpAnyH_ready (rs := [11]) (by kernel_rfl) (by simp) ?_
      refine AllReadyH.cons rfl (fun K hK => ?_) AllReadyH.nil
      rw [if_pos (by rfl)]
      go_simp
      go_at_call 101
      refine (must_no g _).mono ?_
      rintro e w10 ⟨rfl, rfl⟩
      exact panic_end (fn := Tryd.f81) (P := Tryd.prog) (R := fun e w' => SpPost w g (bl s) e w') rfl (SpPost.no HP.out (grown_trans H8p.out.grown (grown_below (Below.refl _ _).drew)))

end Go.Proofs.YtpenpbopehbncaaDoor
