/-
  Walks of chapter 8: SnapActs of the program.
-/
import Derived.Test.YtpenpbopehbncaaDoorWalk8l
namespace Go.Proofs.YtpenpbopehbncaaDoor
open Go.RowKit P1 P3 P5 P9 P11 K
attribute [local go_sem ↓] Go.wp_at_zero Go.wp_at_succ
set_option linter.unusedVariables false
set_option linter.unusedSimpArgs false

/-- What SnapActs hands back. -/
def saR (fs : List FileV) (i t : Int) (zs : List Int) (b : List UInt8) : List ActV × Bool :=
  match snText i t zs b with
  | none => ([], false)
  | some text => if diskOk fs = true then (snActs fs i text, true) else ([], false)
def SaPost (R : List ActV × Bool) (w : World) (e : Ending) (w' : World) : Prop :=
  ∃ v, e = .returned (.tuple #[v, .bool R.2]) ∧ w'.ownsRow w.heap.size 79 4 v R.1.length (R.1.flatMap akc) ∧ Below w.heap.size w w'
theorem SaPost.no {R : List ActV × Bool} {w w1 : World} (h : R = ([], false)) (hb : Below w.heap.size w w1) : SaPost R w (.returned (.tuple #[.slice (some ⟨w1.heap.size, 0, none⟩) 0 0, .bool false])) (w1.alloc (.cells #[] 79)) := by
  rw [h]
  exact ⟨_, rfl, own_base (World.ownsRow_made (w := w1) (e := 79) (base := w1.heap.size) (size := 4) #[] 0 (Nat.le_refl _) (by decide) rfl) hb.size, hb.alloc hb.size _⟩
theorem SaPost.yes {R : List ActV × Bool} {w w1 : World} {A : List ActV} {v : Value} {N : Nat} (h : R = (A, true)) (hN : A.length = N) (ho : w1.ownsRow w.heap.size 79 4 v N (A.flatMap akc)) (hb : Below w.heap.size w w1) : SaPost R w (.returned (.tuple #[v, .bool true])) w1 := by
  rw [h]
  subst hN
  exact ⟨_, rfl, ho, hb⟩

theorem sa_none {fs : List FileV} {i t : Int} {zs : List Int} {b : List UInt8} (h : snText i t zs b = none ∨ diskOk fs = false) : saR fs i t zs b = ([], false) := by
  unfold saR
  rcases h with h | h
  · rw [h]
  · rw [h]; split <;> rfl
theorem sa_some {fs : List FileV} {i t : Int} {zs : List Int} {b text : List UInt8} (h : snText i t zs b = some text) (hd : diskOk fs = true) : saR fs i t zs b = (snActs fs i text, true) := by
  unfold saR
  rw [h]
  simp only
  rw [if_pos hd]

/-- The two acts behind the pieces. -/
def keepMove (i : Int) : List ActV := [⟨2, nmSnap, [], []⟩, ⟨3, nmSnap, [], snName i⟩]
theorem snActs_parts (fs : List FileV) (i : Int) (text : List UInt8) : snActs fs i text = ((newDropS fs ++ addsA text) ++ keepMove i) ++ othersS i fs := by
  unfold snActs keepMove
  simp only [List.append_assoc]

theorem cat_own {w : World} {base : Nat} {v : Value} {X Y : List ActV} {N M : Nat} (hN : X.length = N) (hM : Y.length = M) (ho : w.ownsRow base 79 4 v (N + M) (X.flatMap akc ++ Y.flatMap akc)) : w.ownsRow base 79 4 v (X ++ Y).length ((X ++ Y).flatMap akc) := by
  rw [List.length_append, List.flatMap_append, hN, hM]
  exact ho

theorem newDrop_room (fs : List FileV) : (newDropS fs).length ≤ 1 := by
  unfold newDropS
  split <;> simp

set_option maxHeartbeats 8000000 in
theorem implSnapActs_any (oa : Option Addr) (n cap : Nat) (fs : List FileV) (i t : Int) (ob : Option Addr) (m cb : Nat) (zs : List Int) (b : List UInt8) (hbl : b.length ≤ 1048576) (w : World) (hat : FilesAt w oa n cap fs) (hw : ∀ f ∈ fs, Fine f) (hbt : IntsAt w ob m cb zs) (htb : SumTabIs w) (hpw : Pow8 w) :
    Calls Tryd.prog 23 #[.agg #[.slice oa n cap], snval i t (.slice ob m cb) b] w fun e w' => SaPost (saR fs i t zs b) w e w' := by
  have hb1 := (Below.refl w.heap.size w).alloc (Nat.le_refl _) (.cells #[.slice oa n cap] 47)
  have hb2 := hb1.alloc (by simp) (.cells (sncells i t (.slice ob m cb) b) 30)
  have HST := hide (implSnapText_any i t ob m cb zs b hbl _ (hbt.below hb2) (tab_below htb hb2))
  have HDO := hide (fun w hat => implDiskOk_any oa n cap fs w hat hw)
  have HD2 := hide (show DV8 ((w.alloc (.cells #[.slice oa n cap] 47)).alloc (.cells (sncells i t (.slice ob m cb) b) 30)) w.heap.size (.slice oa n cap) from DV8.on (show DV8 (w.alloc (.cells #[.slice oa n cap] 47)) w.heap.size (.slice oa n cap) from heap_alloc_new _ _) ((Below.refl _ _).alloc (Nat.le_refl _) _) (by simp))
  have HS2 := hide (show SB ((w.alloc (.cells #[.slice oa n cap] 47)).alloc (.cells (sncells i t (.slice ob m cb) b) 30)) (w.heap.size + 1) i t (.slice ob m cb) b by
    have := SB.new (w.alloc (.cells #[.slice oa n cap] 47)) i t (.slice ob m cb) b
    simpa using this)
  have HZ2 := hide (show ((w.alloc (.cells #[.slice oa n cap] 47)).alloc (.cells (sncells i t (.slice ob m cb) b) 30)).heap.size = w.heap.size + 1 + 1 by simp)
  have HB2 := hide hb2
  have HAT := hide hat
  have HPW := hide hpw
  have HFI := hide hw
  have hln := hat.len
  clear hat hbt htb hpw hb1 hb2
  cases hst : snText i t zs b with
  | none =>
    have HR := hide (sa_none (fs := fs) (Or.inl hst))
    rw [hst, show stVal none = .tuple #[.string ⟨#[]⟩, .bool false] from rfl] at HST
    clear hst
    go_enter Tryd.func23, Tryd.ntmps23
    go_wp2_with fail
    refine HST.out.mono ?_
    rintro e w3 ⟨rfl, hb3⟩
    have HB3 := hide (HB2.out.trans (hb3.mono HB2.out.size))
    clear hb3
    go_wp2_with fail
    refine bodyPost_ret (v := .tuple #[.slice (some ⟨w3.heap.size, 0, none⟩) 0 0, .bool false]) (by simp [results, Tryd.results23, go_sem]) rfl ?_
    exact SaPost.no HR.out HB3.out
  | some text =>
    obtain ⟨ht1, -⟩ := snText_length hst
    have hok := snOk_iff.1 (snText_some hst).1
    rw [hst, show stVal (some text) = .tuple #[.string ⟨text.toArray⟩, .bool true] from rfl] at HST
    cases hd : diskOk fs with
    | false =>
      have HR := hide (sa_none (i := i) (t := t) (zs := zs) (b := b) (Or.inr hd))
      rw [hd] at HDO
      clear hst hd
      generalize (⟨text.toArray⟩ : ByteArray) = TX at HST
      go_enter Tryd.func23, Tryd.ntmps23
      go_wp2_with fail
      refine HST.out.mono ?_
      generalize (w.alloc (.cells #[.slice oa n cap] 47)).alloc (.cells (sncells i t (.slice ob m cb) b) 30) = w2 at HD2 HS2 HZ2 HB2
      rintro e w3 ⟨rfl, hb3⟩
      have HB3 := hide (HB2.out.trans (hb3.mono HB2.out.size))
      have HD3 := hide (HD2.out.on hb3 HD2.out.lt)
      clear hb3
      have d0 := HD3.out.cell
      go_wp2_with fail
      refine (HDO.out _ (HAT.out.below HB3.out)).mono ?_
      rintro e w4 ⟨rfl, hb4⟩
      have HB4 := hide (HB3.out.trans (hb4.mono HB3.out.size))
      clear hb4 d0
      go_wp2_with fail
      refine bodyPost_ret (v := .tuple #[.slice (some ⟨w4.heap.size, 0, none⟩) 0 0, .bool false]) (by simp [results, Tryd.results23, go_sem]) rfl ?_
      exact SaPost.no HR.out HB4.out
    | true =>
      have HR := hide (sa_some hst hd)
      obtain ⟨hn30, hnm, htx, hasc⟩ := disk_names8 hd
      have HNM := hide (fun f hf => Nat.le_trans (hnm f hf) (show 8 ≤ 1048576 by omega))
      have hxr := newDrop_room fs
      have hyr := addsA_room text
      have hor := othersS_room i fs
      rw [hd] at HDO
      clear hst hd hnm htx hasc
      have HCH := hide (fun w => chunkActs_any text ht1 w)
      generalize (⟨text.toArray⟩ : ByteArray) = TX at HST HCH
      have HSN := hide (fun w ht => implSnapName_any i (by omega) (by omega) w ht)
      have HDS := hide (fun w hat ht => dropSnaps_any oa n cap fs i hok.1 w hat (by omega) HNM.out ht)
      have HDN := hide (fun w hat => dropSnapNew_any oa n cap fs w hat HFI.out)
      obtain ⟨X, hX⟩ : ∃ X, newDropS fs = X := ⟨_, rfl⟩
      obtain ⟨Y, hY⟩ : ∃ Y, addsA text = Y := ⟨_, rfl⟩
      obtain ⟨Z, hZ⟩ : ∃ Z, othersS i fs = Z := ⟨_, rfl⟩
      obtain ⟨SN, hSN⟩ : ∃ SN, snName i = SN := ⟨_, rfl⟩
      have HP := hide (snActs_parts fs i text)
      unfold keepMove at HP
      rw [hX] at HDN HP hxr
      rw [hY] at HCH HP hyr
      rw [hZ] at HDS HP hor
      rw [hSN] at HSN HDS HP
      clear hX hY hZ hSN
      go_enter Tryd.func23, Tryd.ntmps23
      go_wp2_with fail
      refine HST.out.mono ?_
      generalize (w.alloc (.cells #[.slice oa n cap] 47)).alloc (.cells (sncells i t (.slice ob m cb) b) 30) = w2 at HD2 HS2 HZ2 HB2
      have hz2 := HZ2.out
      rintro e w3 ⟨rfl, hb3⟩
      have HB3 := hide (HB2.out.trans (hb3.mono HB2.out.size))
      have HD3 := hide (HD2.out.on hb3 HD2.out.lt)
      have HS3 := hide (HS2.out.on hb3 HS2.out.lt)
      clear hb3
      have d0 := HD3.out.cell
      go_wp2_with fail
      refine (HDO.out _ (HAT.out.below HB3.out)).mono ?_
      rintro e w4 ⟨rfl, hb4⟩
      have HB4 := hide (HB3.out.trans (hb4.mono HB3.out.size))
      have HD4 := hide (HD3.out.on hb4 HD3.out.lt)
      have HS4 := hide (HS3.out.on hb4 HS3.out.lt)
      clear hb4 d0 HB3 HD3 HS3
      obtain ⟨c0, c1, c2, c3⟩ := HS4.out.sv
      go_wp2_with fail
      refine (HSN.out _ (tab_below HPW.out HB4.out)).mono ?_
      rintro e w5 ⟨rfl, hb5⟩
      have HB5 := hide (HB4.out.trans (hb5.mono HB4.out.size))
      have HD5 := hide (HD4.out.on hb5 HD4.out.lt)
      clear hb5 c0 c1 c2 c3 HB4 HD4 HS4
      have d0 := HD5.out.cell
      have hl5 := HD5.out.lt
      go_wp2_with fail
      refine (HDN.out _ (HAT.out.below HB5.out)).mono ?_
      rintro e w6 ⟨v6, rfl, ho6, hb6⟩
      obtain ⟨ov6, cv6, rfl⟩ := own_slice ho6
      have HO6 := hide ho6
      have K6 := hide hb6
      have hs6 := hb6.size
      clear ho6 hb6 d0
      go_wp2_with fail
      refine (HCH.out _).mono ?_
      rintro e w7 ⟨v7, rfl, ho7, hb7⟩
      obtain ⟨ov7, cv7, rfl⟩ := own_slice ho7
      have HO7 := hide ho7
      have HO67 := hide (own_below HO6.out hb7)
      have K7 := hide (K6.out.trans (hb7.mono hs6))
      have hs7 : w5.heap.size ≤ w7.heap.size := K7.out.size
      clear ho7 hb7 HO6 K6
      go_wp2_with (at_builtin; refine wpList_append_row8 rfl _ _ 42 rfl (by decide) Tryd.underlying42 infoKAz rfl rfl HO67.out rfl HO7.out (acts_one Y) hs7 (by unfold maxLen; omega) (by omega) ?_)
      intro v8 w8 ho8 hg8
      have HO8 := hide (cat_own rfl rfl ho8)
      have K8 := hide (K7.out.grown hg8 hs7 (fun q hq => (HO67.out.lt q hq).1))
      have hs8 : w5.heap.size ≤ w8.heap.size := K8.out.size
      have hxy : (X ++ Y).length ≤ 20001 := by rw [List.length_append]; omega
      clear ho8 hg8 HO7 HO67 K7
      generalize X ++ Y = XY at HO8 hxy HP
      obtain ⟨ov8, cv8, rfl⟩ := own_slice HO8.out
      go_wp2_with (at_builtin; refine wpList_pushM8 (m := 2) (cs := #[.int .i64 2, .string ⟨#[115, 43]⟩, .string ⟨#[]⟩, .string ⟨#[]⟩, .int .i64 3, .string ⟨#[115, 43]⟩, .string ⟨#[]⟩, .string ⟨SN.toArray⟩]) rfl _ _ 42 rfl (by decide) Tryd.underlying42 infoKAz rfl rfl HO8.out rfl rfl (acts_one [⟨2, nmSnap, [], []⟩, ⟨3, nmSnap, [], SN⟩]) hs8 (by unfold maxLen; omega) (by omega) ?_)
      intro v9 w9 ho9 hg9
      have HO9 := hide (cat_own (X := XY) (Y := [⟨2, nmSnap, [], []⟩, ⟨3, nmSnap, [], SN⟩]) rfl rfl ho9)
      have K9 := hide (K8.out.grown hg9 hs8 (fun q hq => (HO8.out.lt q hq).1))
      have hs9 : w5.heap.size ≤ w9.heap.size := K9.out.size
      have hxyz : (XY ++ [(⟨2, nmSnap, [], []⟩ : ActV), (⟨3, nmSnap, [], SN⟩ : ActV)]).length ≤ 20003 := by rw [List.length_append]; simp only [List.length_cons, List.length_nil]; omega
      clear ho9 hg9 HO8 K8
      generalize XY ++ [(⟨2, nmSnap, [], []⟩ : ActV), (⟨3, nmSnap, [], SN⟩ : ActV)] = W9 at HO9 hxyz HP
      obtain ⟨ov9, cv9, rfl⟩ := own_slice HO9.out
      have HD9 := hide (HD5.out.on K9.out hl5)
      have HB9 := hide (HB5.out.trans (K9.out.mono HB5.out.size))
      have d0 := HD9.out.cell
      go_wp2_with fail
      refine (HDS.out _ (HAT.out.below HB9.out) (tab_below HPW.out HB9.out)).mono ?_
      rintro e w10 ⟨v10, rfl, ho10, hb10⟩
      obtain ⟨ov10, cv10, rfl⟩ := own_slice ho10
      have HO10 := hide ho10
      have HO910 := hide (own_below HO9.out hb10)
      have K10 := hide (K9.out.trans (hb10.mono hs9))
      have hs10 : w5.heap.size ≤ w10.heap.size := K10.out.size
      clear ho10 hb10 HO9 K9 d0
      go_wp2_with (at_builtin; refine wpList_append_row8 rfl _ _ 42 rfl (by decide) Tryd.underlying42 infoKAz rfl rfl HO910.out rfl HO10.out (acts_one Z) hs10 (by unfold maxLen; omega) (by omega) ?_)
      intro v11 w11 ho11 hg11
      have HO11 := hide (cat_own rfl rfl ho11)
      have K11 := hide (K10.out.grown hg11 hs10 (fun q hq => (HO910.out.lt q hq).1))
      clear ho11 hg11
      obtain ⟨ov11, cv11, rfl⟩ := own_slice HO11.out
      go_wp2_with fail
      refine bodyPost_ret (v := .tuple #[.slice ov11 (W9 ++ Z).length cv11, .bool true]) (by simp [results, Tryd.results23, go_sem]) rfl ?_
      refine SaPost.yes HR.out (by rw [HP.out]) (by rw [HP.out]; exact own_base HO11.out HB5.out.size) (HB5.out.trans (K11.out.mono HB5.out.size))

end Go.Proofs.YtpenpbopehbncaaDoor
