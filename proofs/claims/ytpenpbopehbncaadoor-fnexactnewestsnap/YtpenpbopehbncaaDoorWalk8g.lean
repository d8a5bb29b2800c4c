/-
  Walks of chapter 8: ReadSnap of the specification.
-/
import Derived.Test.YtpenpbopehbncaaDoorWalk8f
import Derived.Test.YtpenpbopehbncaaDoorWalk8b
import Derived.Test.YtpenpbopehbncaaDoorPack30
namespace Go.Proofs.YtpenpbopehbncaaDoor
open Go.RowKit P1 P3 P9 P11 K
set_option linter.unusedVariables false
set_option linter.unusedSimpArgs false

/-- What l05ReadShort gives: the text, the new place, and whether it was not of its form. -/
def shortV (s : ByteArray) (a : Nat) (b : Bool) : List UInt8 × Nat × Bool :=
  (bl (takeV s (varV s a b).2.1 (varV s a b).2.2 (varV s a b).1).1, (takeV s (varV s a b).2.1 (varV s a b).2.2 (varV s a b).1).2)

theorem varV_le (s : ByteArray) (a : Nat) (b : Bool) : (varV s a b).1 ≤ 1000000000 := by
  unfold varV
  split
  · rename_i v c h
    exact (rdGo_some 5 [] _ v c h).1
  · exact Nat.zero_le _

set_option maxHeartbeats 1000000 in
theorem l05ReadShort_any (g : Nat) (s : ByteArray) (hs : s.size ≤ 1048576) (a : Nat) (b : Bool) (w : World) (hc : RdC w g s a b) :
    Calls Tryd.prog 52 #[.pointer (some ⟨g, 0, none⟩)] w fun e w' =>
      e = .returned (.string ⟨(shortV s a b).1.toArray⟩) ∧ RdC w' g s (shortV s a b).2.1 (shortV s a b).2.2 ∧ w.grownBy w' (some g) := by
  have hle := varV_le s a b
  have HV := hide (l05Var_any g s hs a b w hc)
  unfold shortV
  generalize varV s a b = q at HV hle ⊢
  obtain ⟨n, a1, b1⟩ := q
  simp only at HV hle ⊢
  have HT := hide (fun w hc => l05Take_any g s hs a1 b1 n hle w hc)
  clear hc
  generalize takeV s a1 b1 n = q at HT ⊢
  obtain ⟨x, a2, b2⟩ := q
  simp only at HT ⊢
  go_enter Tryd.func52, Tryd.ntmps52
  go_wp2_with fail
  refine HV.out.mono ?_
  rintro e w1 ⟨rfl, hc1, hg1⟩
  have HC1 := hide hc1
  have HG1 := hide hg1
  clear hc1 hg1
  go_wp2_with fail
  refine (HT.out _ HC1.out).mono ?_
  rintro e w2 ⟨rfl, hc2, hg2⟩
  have HC2 := hide hc2
  have HG2 := hide (grown_trans HG1.out hg2)
  clear hc2 hg2
  go_wp2_with fail
  go_ret
  exact ⟨rfl, HC2.out, HG2.out⟩

theorem varV_rd {s : ByteArray} {a : Nat} {b : Bool} {v a' : Nat} {b' : Bool} (h : varV s a b = (v, a', b')) :
    (b' = false → b = false ∧ rdV ((bl s).drop a) = some (v, (bl s).drop a')) ∧ (b' = true → b = false → rdV ((bl s).drop a) = none) := by
  unfold varV at h
  unfold rdV
  cases b with
  | true =>
    simp only [Prod.mk.injEq] at h
    obtain ⟨rfl, rfl, rfl⟩ := h
    exact ⟨fun q => (by cases q), fun _ q => (by cases q)⟩
  | false =>
    cases hr : rdGo 5 [] ((bl s).drop a) with
    | none =>
      rw [hr] at h
      simp only [Prod.mk.injEq] at h
      obtain ⟨rfl, rfl, rfl⟩ := h
      exact ⟨fun q => (by cases q), fun _ _ => rfl⟩
    | some p =>
      obtain ⟨n, c⟩ := p
      rw [hr] at h
      simp only [Prod.mk.injEq] at h
      obtain ⟨rfl, rfl, rfl⟩ := h
      exact ⟨fun _ => ⟨rfl, by simp only; rw [drop_add8]⟩, fun q => by cases q⟩

theorem varV_in {s : ByteArray} {a : Nat} {b : Bool} (ha : a ≤ s.size) : (varV s a b).2.1 ≤ s.size := by
  unfold varV
  split
  · rename_i v c h
    have := (rdGo_some 5 [] _ v c h).2.2
    rw [List.length_drop, bl_length, List.length_nil] at this
    simp only
    omega
  · exact ha

theorem shortV_rd {s : ByteArray} {a : Nat} (ha : a ≤ s.size) {b : Bool} {x : List UInt8} {a' : Nat} {b' : Bool} (h : shortV s a b = (x, a', b')) :
    (b' = false → b = false ∧ rdS ((bl s).drop a) = some (x, (bl s).drop a')) ∧ (b' = true → b = false → rdS ((bl s).drop a) = none) := by
  unfold shortV at h
  have hin := varV_in (b := b) ha
  obtain ⟨n, a1, b1, h1⟩ : ∃ n a1 b1, varV s a b = (n, a1, b1) := ⟨_, _, _, rfl⟩
  rw [h1] at h hin
  simp only at h hin
  obtain ⟨g1, g2⟩ := varV_rd h1
  unfold takeV at h
  cases b1 with
  | true =>
    simp only [Bool.true_eq_false, false_and, if_false, Prod.mk.injEq] at h
    obtain ⟨rfl, rfl, rfl⟩ := h
    refine ⟨fun q => (by cases q), fun _ q => ?_⟩
    unfold rdS
    rw [g2 rfl q]
  | false =>
    obtain ⟨hb, hr⟩ := g1 rfl
    by_cases hf : a1 + n ≤ s.size
    · rw [if_pos ⟨rfl, hf⟩] at h
      simp only [Prod.mk.injEq] at h
      obtain ⟨rfl, rfl, rfl⟩ := h
      refine ⟨fun _ => ⟨hb, ?_⟩, fun q => (by cases q)⟩
      unfold rdS
      rw [hr]
      simp only
      rw [if_pos (by rw [List.length_drop, bl_length]; omega), extract_list s a1 n hf, drop_add8, bl_mk8]
    · rw [if_neg (fun q => hf q.2)] at h
      simp only [Prod.mk.injEq] at h
      obtain ⟨rfl, rfl, rfl⟩ := h
      refine ⟨fun q => (by cases q), fun _ _ => ?_⟩
      unfold rdS
      rw [hr]
      simp only
      rw [if_neg (by rw [List.length_drop, bl_length]; omega)]

theorem shortV_len (s : ByteArray) (a : Nat) (b : Bool) : (shortV s a b).1.length ≤ s.size := by
  unfold shortV
  simp only
  unfold takeV
  split
  · rw [bl_length, ByteArray.size_extract]; omega
  · exact Nat.zero_le _

theorem shortV_in {s : ByteArray} {a : Nat} {b : Bool} (ha : a ≤ s.size) : (shortV s a b).2.1 ≤ s.size := by
  have := varV_in (b := b) ha
  unfold shortV
  simp only
  unfold takeV
  split
  · rename_i h; exact h.2
  · exact this

/-- The reader's four steps. -/
theorem snap_steps {text l : List UInt8} {i a1 t a2 a3 a4 : Nat} {b1 b2 b3 b4 : Bool} {x y : List UInt8} (hu : unsealL text = some l)
    (h1 : varV ⟨l.toArray⟩ 0 false = (i, a1, b1)) (h2 : varV ⟨l.toArray⟩ a1 b1 = (t, a2, b2)) (h3 : shortV ⟨l.toArray⟩ a2 b2 = (x, a3, b3)) (h4 : shortV ⟨l.toArray⟩ a3 b3 = (y, a4, b4)) :
    (b4 = true → rdSnap text = none) ∧ (b4 = false → rdSnap text = if snText i t (confZ x) y = some text then some (i, t, confZ x, y) else none) := by
  have i1 : a1 ≤ l.length := by have := varV_in (s := ⟨l.toArray⟩) (a := 0) (b := false) (Nat.zero_le _); rw [h1] at this; exact this
  have i2 : a2 ≤ l.length := by have := varV_in (s := ⟨l.toArray⟩) (a := a1) (b := b1) i1; rw [h2] at this; exact this
  have i3 : a3 ≤ l.length := by have := shortV_in (s := ⟨l.toArray⟩) (a := a2) (b := b2) i2; rw [h3] at this; exact this
  obtain ⟨g1, k1⟩ := varV_rd h1
  obtain ⟨g2, k2⟩ := varV_rd h2
  obtain ⟨g3, k3⟩ := shortV_rd i2 h3
  obtain ⟨g4, k4⟩ := shortV_rd i3 h4
  rw [bl_mk8, List.drop_zero] at g1 k1
  rw [bl_mk8] at g2 k2 g3 k3 g4 k4
  constructor
  · intro hb
    refine rdSnap_no hu ?_
    intro i' t' c' b' r1 r2 r3 q1 q2 q3 q4 _ _ _
    cases b1 with
    | true => rw [k1 rfl rfl] at q1; cases q1
    | false =>
      rw [(g1 rfl).2] at q1
      cases q1
      cases b2 with
      | true => rw [k2 rfl rfl] at q2; cases q2
      | false =>
        rw [(g2 rfl).2] at q2
        cases q2
        cases b3 with
        | true => rw [k3 rfl rfl] at q3; cases q3
        | false =>
          rw [(g3 rfl).2] at q3
          cases q3
          rw [k4 hb rfl] at q4
          cases q4
  · intro hb
    obtain ⟨e3, r4⟩ := g4 hb
    obtain ⟨e2, r3⟩ := g3 e3
    obtain ⟨e1, r2⟩ := g2 e2
    obtain ⟨-, r1⟩ := g1 e1
    exact rdSnap_read hu (rdSnapB_5 r1 r2 r3 r4)

/-- On the way: the reader, the snapshot that grows, the result's variable. -/
structure SpS (w W : World) (G : Nat) (s : ByteArray) (a : Nat) (bad : Bool) (i t : Int) (x : Value) (b : List UInt8) : Prop where
  e : SB W (G + 1) i t x b
  r : SB W w.heap.size 0 0 (.slice none 0 0) []
  c : RdC W G s a bad
  below : Below w.heap.size w W
  hG : w.heap.size < G
  sz : G + 1 + 1 ≤ W.heap.size

section
variable {w W W' : World} {G : Nat} {s : ByteArray} {a a' : Nat} {bad bad' : Bool} {i t : Int} {x : Value} {b : List UInt8}
theorem SpS.step (h : SpS w W G s a bad i t x b) (hc : RdC W' G s a' bad') (hg : W.grownBy W' (some G)) : SpS w W' G s a' bad' i t x b :=
  ⟨h.e.kept hg (fun q => by have := Option.some.inj q; omega), h.r.kept hg (fun q => by have := Option.some.inj q; have := h.hG; omega), hc, h.below.grown hg (by have := h.hG; have := h.sz; omega) (fun k hk => by cases hk; have := h.hG; omega), h.hG, Nat.le_trans h.sz hg.size⟩
theorem SpS.on (h : SpS w W G s a bad i t x b) (hb : Below W.heap.size W W') : SpS w W' G s a bad i t x b :=
  ⟨h.e.on hb h.e.lt, h.r.on hb h.r.lt, h.c.kept (hb.block _ h.c.lt), h.below.trans (hb.mono (by have := h.hG; have := h.sz; omega)), h.hG, Nat.le_trans h.sz hb.size⟩
theorem SpS.put (h : SpS w W G s a bad i t x b) {i' t' : Int} {x' : Value} {b' : List UInt8} {k : Nat} {v : Value} (he : SB (W.setCell ⟨G + 1, k, none⟩ v) (G + 1) i' t' x' b') : SpS w (W.setCell ⟨G + 1, k, none⟩ v) G s a bad i' t' x' b' := by
  have hg := set_grown W (G + 1) k v
  have h1 := h.hG
  have h2 := h.sz
  exact ⟨he, h.r.kept hg (fun q => by have := Option.some.inj q; omega), h.c.kept (hg.block G (by omega) (fun q => by have := Option.some.inj q; omega)), h.below.grown hg (by omega) (fun k hk => by cases hk; omega), h.hG, Nat.le_trans h.sz hg.size⟩
end

theorem SpS.whole {w W : World} {G : Nat} {s : ByteArray} {a : Nat} {bad : Bool} {i t : Int} {x : Value} {b : List UInt8} (h : SpS w W G s a bad i t x b) (i' t' : Int) (x' : Value) (b' : List UInt8) :
    ∃ W', (((W.setCell ⟨w.heap.size, 0, none⟩ (.int .i64 i')).setCell ⟨w.heap.size, 1, none⟩ (.int .i64 t')).setCell ⟨w.heap.size, 2, none⟩ x').setCell ⟨w.heap.size, 3, none⟩ (.string ⟨b'.toArray⟩) = W' ∧ SV W' w.heap.size i' t' x' b' ∧ Below w.heap.size w W' ∧ W.grownBy W' (some w.heap.size) := by
  obtain ⟨h1, h2⟩ := h.r.all i' t' x' b'
  exact ⟨_, rfl, h1.sv, h.below.grown h2 (by have := h.hG; have := h.sz; omega) (fun k hk => by cases hk; omega), h2⟩

/-- What Unsealed gives the reader: a text, and whether it was none. -/
def usT (l : List UInt8) : List UInt8 × Bool := match unsealL l with | none => ([], false) | some t => (t, true)

theorem usT_val (l : List UInt8) : unsealVal (unsealL l) = .tuple #[.string ⟨(usT l).1.toArray⟩, .bool (usT l).2] := by
  unfold usT
  cases unsealL l with
  | none => rfl
  | some t => rfl

theorem unsealed_len {l t : List UInt8} (h : unsealL l = some t) : t.length + 4 = l.length := by
  have e := (unseal_some h).1
  have := congrArg List.length e
  rw [sealL_length] at this
  omega

theorem RsPost.zero {l : List UInt8} {w w' : World} (h : rdSnap l = none) (hb : Below w.heap.size w w') : RsPost (rsR l) w (.returned (.tuple #[snval 0 0 (.slice none 0 0) [], .bool false])) w' := by
  have : rsR l = (0, 0, [], [], false) := by unfold rsR; rw [h]
  rw [this]
  exact ⟨_, rfl, World.ownsRow_nil _ _ _ _, hb⟩
theorem RsPost.found {l b : List UInt8} {i t : Nat} {z : List Int} {v : Value} {w w' : World} (h : rdSnap l = some (i, t, z, b)) (ho : w'.ownsRow w.heap.size 3 1 v z.length (z.map icell)) (hb : Below w.heap.size w w') : RsPost (rsR l) w (.returned (.tuple #[snval i t v b, .bool true])) w' := by
  have : rsR l = (↑i, ↑t, z, b, true) := by unfold rsR; rw [h]
  rw [this]
  exact ⟨_, rfl, ho, hb⟩

set_option maxHeartbeats 4000000 in
theorem specReadSnap_any (s : ByteArray) (hs : s.size ≤ 1048576) (w : World) :
    Calls Tryd.prog 16 #[.string s] w fun e w' => RsPost (rsR (bl s)) w e w' := by
  have hb1 := (Below.refl w.heap.size w).alloc (Nat.le_refl _) (.cells (sncells 0 0 (.slice none 0 0) []) 30)
  have HUS := hide (specUnsealed_any s (by omega) (w.alloc (.cells (sncells 0 0 (.slice none 0 0) []) 30)))
  rw [usT_val] at HUS
  have hTl : (usT (bl s)).1.length ≤ 1048576 := by
    unfold usT
    cases h : unsealL (bl s) with
    | none => exact Nat.zero_le _
    | some t => have := unsealed_len h; rw [bl_length] at this; simp only; omega
  have HFIN : ∀ i a1 b1 t a2 b2 x a3 b3 y a4 b4, varV ⟨(usT (bl s)).1.toArray⟩ 0 (!(usT (bl s)).2) = (i, a1, b1) → varV ⟨(usT (bl s)).1.toArray⟩ a1 b1 = (t, a2, b2) → shortV ⟨(usT (bl s)).1.toArray⟩ a2 b2 = (x, a3, b3) → shortV ⟨(usT (bl s)).1.toArray⟩ a3 b3 = (y, a4, b4) →
      (b4 = true → rdSnap (bl s) = none) ∧ (b4 = false → rdSnap (bl s) = if snText i t (confZ x) y = some (bl s) then some (i, t, confZ x, y) else none) := by
    intro i a1 b1 t a2 b2 x a3 b3 y a4 b4 h1 h2 h3 h4
    cases hu : unsealL (bl s) with
    | some l =>
      have e : usT (bl s) = (l, true) := by unfold usT; rw [hu]
      rw [e] at h1 h2 h3 h4
      exact snap_steps hu h1 h2 h3 h4
    | none =>
      have e : usT (bl s) = ([], false) := by unfold usT; rw [hu]
      rw [e] at h1 h2 h3 h4
      simp only [Bool.not_false] at h1 h2 h3 h4
      have b1t : b1 = true := by
        cases b1 with
        | true => rfl
        | false => exact ((varV_rd h1).1 rfl).1.symm
      subst b1t
      have b2t : b2 = true := by
        cases b2 with
        | true => rfl
        | false => exact ((varV_rd h2).1 rfl).1.symm
      subst b2t
      have i1 := varV_in (s := ⟨([] : List UInt8).toArray⟩) (a := 0) (b := true) (Nat.zero_le _)
      rw [h1] at i1
      have i2 := varV_in (s := ⟨([] : List UInt8).toArray⟩) (a := a1) (b := true) i1
      rw [h2] at i2
      have i3 := shortV_in (s := ⟨([] : List UInt8).toArray⟩) (a := a2) (b := true) i2
      rw [h3] at i3
      have b3t : b3 = true := by
        cases b3 with
        | true => rfl
        | false => exact ((shortV_rd i2 h3).1 rfl).1.symm
      subst b3t
      have b4t : b4 = true := by
        cases b4 with
        | true => rfl
        | false => exact ((shortV_rd i3 h4).1 rfl).1.symm
      subst b4t
      exact ⟨fun _ => rdSnap_off hu, fun q => by cases q⟩
  generalize usT (bl s) = U at HUS hTl HFIN
  obtain ⟨T, ok⟩ := U
  simp only at HUS hTl HFIN
  have HT : (⟨T.toArray⟩ : ByteArray).size ≤ 1048576 := by rw [size_mk8]; exact hTl
  obtain ⟨i, a1, b1, h1⟩ : ∃ i a1 b1, varV ⟨T.toArray⟩ 0 (!ok) = (i, a1, b1) := ⟨_, _, _, rfl⟩
  obtain ⟨t, a2, b2, h2⟩ : ∃ t a2 b2, varV ⟨T.toArray⟩ a1 b1 = (t, a2, b2) := ⟨_, _, _, rfl⟩
  obtain ⟨x, a3, b3, h3⟩ : ∃ x a3 b3, shortV ⟨T.toArray⟩ a2 b2 = (x, a3, b3) := ⟨_, _, _, rfl⟩
  obtain ⟨y, a4, b4, h4⟩ : ∃ y a4 b4, shortV ⟨T.toArray⟩ a3 b3 = (y, a4, b4) := ⟨_, _, _, rfl⟩
  have HF := hide (HFIN i a1 b1 t a2 b2 x a3 b3 y a4 b4 h1 h2 h3 h4)
  have hx : x.length ≤ T.length := by have := shortV_len ⟨T.toArray⟩ a2 b2; rw [h3] at this; exact this
  have hy : y.length ≤ T.length := by have := shortV_len ⟨T.toArray⟩ a3 b3; rw [h4] at this; exact this
  have HV1 := hide (fun g w hc => l05Var_any g ⟨T.toArray⟩ HT 0 (!ok) w hc)
  have HV2 := hide (fun g w hc => l05Var_any g ⟨T.toArray⟩ HT a1 b1 w hc)
  have HV3 := hide (fun g w hc => l05ReadShort_any g ⟨T.toArray⟩ HT a2 b2 w hc)
  have HV4 := hide (fun g w hc => l05ReadShort_any g ⟨T.toArray⟩ HT a3 b3 w hc)
  rw [h1] at HV1
  rw [h2] at HV2
  rw [h3] at HV3
  rw [h4] at HV4
  simp only at HV1 HV2 HV3 HV4
  have HRC := hide (specReadConf_any ⟨x.toArray⟩ (by rw [size_mk8]; omega))
  rw [bl_mk8] at HRC
  have HB1 := hide hb1
  have HS1 := hide (SB.new w 0 0 (.slice none 0 0) [])
  clear hb1 h1 h2 h3 h4 HFIN
  go_enter Tryd.func16, Tryd.ntmps16
  go_wp2_with fail
  refine HUS.out.mono ?_
  rintro e w1 ⟨rfl, hb2⟩
  have HR1 := hide (HS1.out.on hb2 (by simp))
  have hs1 : w.heap.size + 1 ≤ w1.heap.size := by have := hb2.size; simpa using this
  have HB2 := hide (HB1.out.trans (hb2.mono (by simp)))
  clear hb2 HS1 HB1
  go_wp2_with fail
  have hst : SpS w ((w1.alloc (.cells #[.string ⟨T.toArray⟩, .int .i64 0, .bool (!ok)] 68)).alloc (.cells (sncells 0 0 (.slice none 0 0) []) 30)) w1.heap.size ⟨T.toArray⟩ 0 (!ok) 0 0 (.slice none 0 0) [] := by
    have k1 := (Below.refl w1.heap.size w1).alloc (Nat.le_refl _) (.cells #[.string ⟨T.toArray⟩, .int .i64 0, .bool (!ok)] 68)
    have k2 := (Below.refl (w1.alloc (.cells #[.string ⟨T.toArray⟩, .int .i64 0, .bool (!ok)] 68)).heap.size (w1.alloc (.cells #[.string ⟨T.toArray⟩, .int .i64 0, .bool (!ok)] 68))).alloc (Nat.le_refl _) (.cells (sncells 0 0 (.slice none 0 0) []) 30)
    refine ⟨?_, ?_, ⟨Nat.zero_le _, ?_⟩, ?_, by omega, by simp⟩
    · have := SB.new (w1.alloc (.cells #[.string ⟨T.toArray⟩, .int .i64 0, .bool (!ok)] 68)) 0 0 (.slice none 0 0) []
      simpa using this
    · exact (HR1.out.on k1 (by omega)).on k2 (by simp; omega)
    · exact (k2.block _ (by simp)).trans (heap_alloc_new _ _)
    · exact (HB2.out.alloc (by omega) _).alloc (by simp; omega) _
  have HST := hide hst
  clear hst HR1 HB2
  generalize hG : w1.heap.size = G at HST ⊢
  have HG := hide hG
  clear hG
  generalize (w1.alloc (.cells #[.string ⟨T.toArray⟩, .int .i64 0, .bool (!ok)] 68)).alloc (.cells #[.int .i64 0, .int .i64 0, .slice none 0 0, .string ⟨#[]⟩] 30) = w2 at HST ⊢
  refine (HV1.out _ _ HST.out.c).mono ?_
  rintro e w3 ⟨rfl, hc3, hg3⟩
  have H3 := hide (HST.out.step hc3 hg3)
  have H3p := hide (H3.out.put (H3.out.e.put0 (i : Int)))
  clear hc3 hg3 HST
  obtain ⟨e0, e1, e2, e3⟩ := H3.out.e.sv
  have f0 := H3.out.e.free 0
  go_wp2_with fail
  clear e0 e1 e2 e3 f0 H3
  generalize w3.setCell ⟨G + 1, 0, none⟩ (.int .i64 (i : Int)) = w4 at H3p ⊢
  refine (HV2.out _ _ H3p.out.c).mono ?_
  rintro e w5 ⟨rfl, hc5, hg5⟩
  have H5 := hide (H3p.out.step hc5 hg5)
  have H5p := hide (H5.out.put (H5.out.e.put1 (t : Int)))
  clear hc5 hg5 H3p
  obtain ⟨e0, e1, e2, e3⟩ := H5.out.e.sv
  have f1 := H5.out.e.free 1
  go_wp2_with fail
  clear e0 e1 e2 e3 f1 H5
  generalize w5.setCell ⟨G + 1, 1, none⟩ (.int .i64 (t : Int)) = w6 at H5p ⊢
  refine (HV3.out _ _ H5p.out.c).mono ?_
  rintro e w7 ⟨rfl, hc7, hg7⟩
  have H7 := hide (H5p.out.step hc7 hg7)
  clear hc7 hg7 H5p
  go_wp2_with fail
  refine (HRC.out _).mono ?_
  have hzf : ∀ z ∈ (rdConf x).1, (Lit.int .i64 z).wf = true := by
    unfold rdConf
    split
    · exact confZ_wf x
    · simp
  have hcf : (confOk (confZ x) = true ∧ (rdConf x).1 = confZ x) ∨ (confOk (confZ x) = false ∧ (rdConf x).1 = []) := by
    cases hz : confOk (confZ x) with
    | true => exact Or.inl ⟨rfl, by rw [rdConf_yes hz]⟩
    | false => exact Or.inr ⟨rfl, by rw [rdConf_no hz]⟩
  have HZF := hide hzf
  have HCF := hide hcf
  clear hzf hcf
  obtain ⟨zs, hzs⟩ : ∃ zs, (rdConf x).1 = zs := ⟨_, rfl⟩
  obtain ⟨cb, hcb⟩ : ∃ cb, (rdConf x).2 = cb := ⟨_, rfl⟩
  obtain ⟨N, hN⟩ : ∃ N, zs.length = N := ⟨_, rfl⟩
  unfold RcPost
  rw [hzs, hcb, hN]
  rw [hzs] at HZF HCF
  have HN := hide hN
  clear hzs hcb hN
  rintro e w8 ⟨gc, capc, rfl, ho8, hb8⟩
  have H8 := hide (H7.out.on hb8)
  have hz8 := H7.out.sz
  have HO8 := hide (own_base ho8 (show G + 1 + 1 ≤ w7.heap.size from hz8))
  have H8p := hide (H8.out.put (H8.out.e.put2 (.slice (some ⟨gc, 0, none⟩) N capc)))
  clear ho8 hb8 H7 hz8
  obtain ⟨e0, e1, e2, e3⟩ := H8.out.e.sv
  have f2 := H8.out.e.free 2
  go_wp2_with fail
  have HO9 := hide (own_setCell HO8.out (p := ⟨G + 1, 2, none⟩) (by show G + 1 < G + 1 + 1; omega) (.slice (some ⟨gc, 0, none⟩) N capc))
  clear e0 e1 e2 e3 f2 H8 HO8
  generalize w8.setCell ⟨G + 1, 2, none⟩ (.slice (some ⟨gc, 0, none⟩) N capc) = w9 at H8p HO9 ⊢
  refine (HV4.out _ _ H8p.out.c).mono ?_
  rintro e w10 ⟨rfl, hc10, hg10⟩
  have H10 := hide (H8p.out.step hc10 hg10)
  have H10p := hide (H10.out.put (H10.out.e.put3 y))
  have HO10 := hide (HO9.out.kept hg10 (Or.inr (fun q => by have := HO9.out.lt G q; omega)))
  clear hc10 hg10 H8p HO9
  obtain ⟨e0, e1, e2, e3⟩ := H10.out.e.sv
  have f3 := H10.out.e.free 3
  have H10S := hide (H10.out.e.put3 y).sv
  obtain ⟨s0, s1, s2, s3⟩ := H10S.out
  go_wp2_with fail
  have HO11 := hide (own_setCell HO10.out (p := ⟨G + 1, 3, none⟩) (by show G + 1 < G + 1 + 1; omega) (.string ⟨y.toArray⟩))
  clear e0 e1 e2 e3 f3 H10 HO10 s0 s1 s2 s3 H10S
  generalize w10.setCell ⟨G + 1, 3, none⟩ (.string ⟨y.toArray⟩) = w11 at H10p HO11 ⊢
  obtain ⟨_, _, he, hat⟩ := intsAt_of_own HO11.out HZF.out
  cases he
  refine (specSnapText_any (i : Int) (t : Int) (some ⟨gc, 0, none⟩) N capc zs y (by omega) w11 hat).mono ?_
  clear hat
  obtain ⟨st, hst⟩ : ∃ st, snText (i : Int) (t : Int) zs y = st := ⟨_, rfl⟩
  rw [hst]
  have HSTX := hide hst
  clear hst
  -- what is asked at the end
  have HEND : (b4 = true → rdSnap (bl s) = none) ∧ (b4 = false → rdSnap (bl s) = if st = some (bl s) then some (i, t, zs, y) else none) := by
    refine ⟨HF.out.1, fun hb => ?_⟩
    rw [HF.out.2 hb]
    rcases HCF.out with ⟨h1, h2⟩ | ⟨h1, h2⟩
    · rw [← h2, HSTX.out]
    · have e1 : st = none := by rw [← HSTX.out, h2]; exact snText_no (Or.inl (snOk_no (by simp [confOk])))
      have e2 : snText (i : Int) (t : Int) (confZ x) y = none := snText_no (Or.inl (snOk_no (by simp [h1])))
      rw [e1, e2]
      rfl
  have HE := hide HEND
  clear HEND
  cases st with
  | none =>
    have HNO := hide (show rdSnap (bl s) = none by
      cases b4 with
      | true => exact HE.out.1 rfl
      | false => rw [HE.out.2 rfl]; rfl)
    rw [show stVal none = .tuple #[.string ⟨#[]⟩, .bool false] from rfl]
    rintro e w12 ⟨rfl, hb12⟩
    have H12 := hide (H10p.out.on hb12)
    clear hb12 H10p
    obtain ⟨k0, k1, k2, z0, z1, z2⟩ := rdc_cells H12.out.c.2
    obtain ⟨s0, s1, s2, s3⟩ := H12.out.r.sv
    have y0 := H12.out.r.free 0
    have y1 := H12.out.r.free 1
    have y2 := H12.out.r.free 2
    have y3 := H12.out.r.free 3
    cases b4 with
    | true =>
      go_wp2_with fail
      obtain ⟨w13, hw13, hS13, hb13, -⟩ := H12.out.whole 0 0 (.slice none 0 0) []
      rw [hw13]
      obtain ⟨c0, c1, c2, c3⟩ := hS13
      refine bodyPost_ret (v := .tuple #[snval 0 0 (.slice none 0 0) [], .bool false]) (by simp [results, Tryd.results16, go_sem, c0, c1, c2, c3]) rfl ?_
      exact RsPost.zero HNO.out hb13
    | false =>
      go_wp2_with fail
      obtain ⟨w13, hw13, hS13, hb13, -⟩ := H12.out.whole 0 0 (.slice none 0 0) []
      rw [hw13]
      obtain ⟨c0, c1, c2, c3⟩ := hS13
      refine bodyPost_ret (v := .tuple #[snval 0 0 (.slice none 0 0) [], .bool false]) (by simp [results, Tryd.results16, go_sem, c0, c1, c2, c3]) rfl ?_
      exact RsPost.zero HNO.out hb13
  | some T2 =>
    rw [show stVal (some T2) = .tuple #[.string ⟨T2.toArray⟩, .bool true] from rfl]
    obtain ⟨Z, hZ⟩ : ∃ Z, (⟨T2.toArray⟩ : ByteArray) = Z := ⟨_, rfl⟩
    rw [hZ]
    have hTZ : (T2 = bl s) ↔ Z = s := by
      rw [← hZ]
      constructor
      · intro h; rw [h]
      · intro h; rw [← h]
    have hZs : (Z.toList == s.toList) = decide (T2 = bl s) := by
      rw [Lib.toList_data, Lib.toList_data]
      by_cases h : T2 = bl s
      · rw [decide_eq_true h, hTZ.1 h]; simp
      · rw [decide_eq_false h, beq_eq_false_iff_ne]
        intro q
        apply h
        rw [← hZ] at q
        exact q
    clear hZ
    cases b4 with
    | true =>
      have HNO := hide (HE.out.1 rfl)
      clear hTZ hZs
      rintro e w12 ⟨rfl, hb12⟩
      have H12 := hide (H10p.out.on hb12)
      clear hb12 H10p
      obtain ⟨k0, k1, k2, z0, z1, z2⟩ := rdc_cells H12.out.c.2
      obtain ⟨s0, s1, s2, s3⟩ := H12.out.r.sv
      have y0 := H12.out.r.free 0
      have y1 := H12.out.r.free 1
      have y2 := H12.out.r.free 2
      have y3 := H12.out.r.free 3
      go_wp2_with fail
      obtain ⟨w13, hw13, hS13, hb13, -⟩ := H12.out.whole 0 0 (.slice none 0 0) []
      rw [hw13]
      obtain ⟨c0, c1, c2, c3⟩ := hS13
      refine bodyPost_ret (v := .tuple #[snval 0 0 (.slice none 0 0) [], .bool false]) (by simp [results, Tryd.results16, go_sem, c0, c1, c2, c3]) rfl ?_
      exact RsPost.zero HNO.out hb13
    | false =>
      by_cases hT2 : T2 = bl s
      · obtain rfl := hTZ.1 hT2
        have HYES := hide (show rdSnap (bl Z) = some (i, t, zs, y) by rw [HE.out.2 rfl, hT2, if_pos rfl])
        rw [decide_eq_true hT2] at hZs
        clear hTZ hT2
        rintro e w12 ⟨rfl, hb12⟩
        have H12 := hide (H10p.out.on hb12)
        have HO12 := hide (own_below HO11.out hb12)
        clear hb12 H10p HO11
        obtain ⟨k0, k1, k2, z0, z1, z2⟩ := rdc_cells H12.out.c.2
        obtain ⟨s0, s1, s2, s3⟩ := H12.out.r.sv
        obtain ⟨e0, e1, e2, e3⟩ := H12.out.e.sv
        have y0 := H12.out.r.free 0
        have y1 := H12.out.r.free 1
        have y2 := H12.out.r.free 2
        have y3 := H12.out.r.free 3
        go_wp2_with fail
        obtain ⟨w13, hw13, hS13, hb13, hg13⟩ := H12.out.whole (i : Int) (t : Int) (.slice (some ⟨gc, 0, none⟩) N capc) y
        rw [hw13]
        have hO13 := HO12.out.kept hg13 (Or.inr (fun q => by have := HO12.out.lt w.heap.size q; have := H12.out.hG; omega))
        clear s0 s1 s2 s3 e0 e1 e2 e3 y0 y1 y2 y3
        obtain ⟨c0, c1, c2, c3⟩ := hS13
        refine bodyPost_ret (v := .tuple #[snval (i : Int) (t : Int) (.slice (some ⟨gc, 0, none⟩) N capc) y, .bool true]) (by simp [results, Tryd.results16, go_sem, c0, c1, c2, c3]) rfl ?_
        exact RsPost.found HYES.out (by rw [HN.out]; exact own_base hO13 (by have := H12.out.hG; omega)) hb13
      · have HNO := hide (show rdSnap (bl s) = none by rw [HE.out.2 rfl, if_neg (fun q => hT2 (Option.some.inj q))])
        rw [decide_eq_false hT2] at hZs
        clear hTZ hT2
        rintro e w12 ⟨rfl, hb12⟩
        have H12 := hide (H10p.out.on hb12)
        clear hb12 H10p
        obtain ⟨k0, k1, k2, z0, z1, z2⟩ := rdc_cells H12.out.c.2
        obtain ⟨s0, s1, s2, s3⟩ := H12.out.r.sv
        have y0 := H12.out.r.free 0
        have y1 := H12.out.r.free 1
        have y2 := H12.out.r.free 2
        have y3 := H12.out.r.free 3
        go_wp2_with fail
        obtain ⟨w13, hw13, hS13, hb13, -⟩ := H12.out.whole 0 0 (.slice none 0 0) []
        rw [hw13]
        obtain ⟨c0, c1, c2, c3⟩ := hS13
        refine bodyPost_ret (v := .tuple #[snval 0 0 (.slice none 0 0) [], .bool false]) (by simp [results, Tryd.results16, go_sem, c0, c1, c2, c3]) rfl ?_
        exact RsPost.zero HNO.out hb13

end Go.Proofs.YtpenpbopehbncaaDoor
