/-
  Walks of chapter 8: SnapActs of the specification.
-/
import Derived.Test.YtpenpbopehbncaaDoorWalk8m
namespace Go.Proofs.YtpenpbopehbncaaDoor
open Go.RowKit P1 P3 P5 P9 P11 K
attribute [local go_sem ↓] Go.wp_at_zero Go.wp_at_succ
set_option linter.unusedVariables false
set_option linter.unusedSimpArgs false

/-- How long a text in a slot is. -/
def lenV : Value → Nat
  | .string s => s.size
  | _ => 0

theorem slice_head8 (r : List UInt8) (n : Nat) (h : n ≤ r.length) (wx : World) : (Instr.slice 9 (.string ⟨r.toArray⟩) none (some (.int .i64 (n : Int))) none).run Tryd.prog wx = .ok (.string ⟨(r.take n).toArray⟩) wx := by
  have e := bl_extract_head ⟨r.toArray⟩ n
  rw [bl_mk8] at e
  rw [← e]
  have hu := Tryd.underlying9
  have g0 : (0 : Int) ≤ (n : Int) := by omega
  have g1 : (n : Int) ≤ (r.length : Int) := by omega
  simp [go_sem, hu, g0, g1]
theorem slice_tail8 (r : List UInt8) (n : Nat) (h : n ≤ r.length) (wx : World) : (Instr.slice 9 (.string ⟨r.toArray⟩) (some (.int .i64 (n : Int))) none none).run Tryd.prog wx = .ok (.string ⟨(r.drop n).toArray⟩) wx := by
  have e := bl_extract_tail ⟨r.toArray⟩ n
  rw [bl_mk8] at e
  rw [← e]
  have hu := Tryd.underlying9
  have g0 : (0 : Int) ≤ (n : Int) := by omega
  have g1 : (n : Int) ≤ (r.length : Int) := by omega
  simp [go_sem, hu, g0, g1]

set_option maxHeartbeats 8000000 in
theorem specSnapActs_any (oa : Option Addr) (n cap : Nat) (fs : List FileV) (i t : Int) (ob : Option Addr) (m cb : Nat) (zs : List Int) (b : List UInt8) (hbl : b.length ≤ 1048576) (w : World) (hat : FilesAt w oa n cap fs) (hw : ∀ f ∈ fs, Fine f) (hbt : IntsAt w ob m cb zs) :
    Calls Tryd.prog 21 #[.agg #[.slice oa n cap], snval i t (.slice ob m cb) b] w fun e w' => SaPost (saR fs i t zs b) w e w' := by
  have hb1 := (Below.refl w.heap.size w).alloc (Nat.le_refl _) (.cells #[.slice oa n cap] 47)
  have hb2 := hb1.alloc (by simp) (.cells (sncells i t (.slice ob m cb) b) 30)
  have HST := hide (specSnapText_any i t ob m cb zs b hbl _ (hbt.below hb2))
  have HDO := hide (fun w hat => specDiskOk_any oa n cap fs w hat hw)
  have HD2 := hide (show DV8 ((w.alloc (.cells #[.slice oa n cap] 47)).alloc (.cells (sncells i t (.slice ob m cb) b) 30)) w.heap.size (.slice oa n cap) from DV8.on (show DV8 (w.alloc (.cells #[.slice oa n cap] 47)) w.heap.size (.slice oa n cap) from heap_alloc_new _ _) ((Below.refl _ _).alloc (Nat.le_refl _) _) (by simp))
  have HS2 := hide (show SB ((w.alloc (.cells #[.slice oa n cap] 47)).alloc (.cells (sncells i t (.slice ob m cb) b) 30)) (w.heap.size + 1) i t (.slice ob m cb) b by
    have := SB.new (w.alloc (.cells #[.slice oa n cap] 47)) i t (.slice ob m cb) b
    simpa using this)
  have HZ2 := hide (show ((w.alloc (.cells #[.slice oa n cap] 47)).alloc (.cells (sncells i t (.slice ob m cb) b) 30)).heap.size = w.heap.size + 1 + 1 by simp)
  have HB2 := hide hb2
  have HAT := hide hat
  have hln := hat.len
  clear hat hbt hb1 hb2 hw
  cases hst : snText i t zs b with
  | none =>
    have HR := hide (sa_none (fs := fs) (Or.inl hst))
    rw [hst, show stVal none = .tuple #[.string ⟨#[]⟩, .bool false] from rfl] at HST
    clear hst
    go_enter Tryd.func21, Tryd.ntmps21
    go_wp2_with fail
    refine HST.out.mono ?_
    rintro e w3 ⟨rfl, hb3⟩
    have HB3 := hide (HB2.out.trans (hb3.mono HB2.out.size))
    clear hb3
    go_wp2_with fail
    refine bodyPost_ret (v := .tuple #[.slice (some ⟨w3.heap.size, 0, none⟩) 0 0, .bool false]) (by simp [results, Tryd.results21, go_sem]) rfl ?_
    exact SaPost.no HR.out HB3.out
  | some text =>
    obtain ⟨ht1, -⟩ := snText_length hst
    have hok := snOk_iff.1 (snText_some hst).1
    rw [hst, show stVal (some text) = .tuple #[.string ⟨text.toArray⟩, .bool true] from rfl] at HST
    cases hd : diskOk fs with
    | false =>
      have HR := hide (sa_none (i := i) (t := t) (zs := zs) (b := b) (Or.inr hd))
      rw [hd] at HDO
      clear hst hd
      generalize (⟨text.toArray⟩ : ByteArray) = TX at HST
      go_enter Tryd.func21, Tryd.ntmps21
      go_wp2_with fail
      refine HST.out.mono ?_
      generalize (w.alloc (.cells #[.slice oa n cap] 47)).alloc (.cells (sncells i t (.slice ob m cb) b) 30) = w2 at HD2 HS2 HZ2 HB2
      rintro e w3 ⟨rfl, hb3⟩
      have HB3 := hide (HB2.out.trans (hb3.mono HB2.out.size))
      have HD3 := hide (HD2.out.on hb3 HD2.out.lt)
      clear hb3
      have d0 := HD3.out.cell
      go_wp2_with fail
      refine (HDO.out _ (HAT.out.below HB3.out)).mono ?_
      rintro e w4 ⟨rfl, hb4⟩
      have HB4 := hide (HB3.out.trans (hb4.mono HB3.out.size))
      clear hb4 d0
      go_wp2_with fail
      refine bodyPost_ret (v := .tuple #[.slice (some ⟨w4.heap.size, 0, none⟩) 0 0, .bool false]) (by simp [results, Tryd.results21, go_sem]) rfl ?_
      exact SaPost.no HR.out HB4.out
    | true =>
      have HR := hide (sa_some hst hd)
      obtain ⟨hn30, hnm, htx, hasc⟩ := disk_names8 hd
      have HNM := hide (fun f hf => Nat.le_trans (hnm f hf) (show 8 ≤ 1048576 by omega))
      have hxr := newDrop_room fs
      have hyr := addsA_room text
      have hor := othersS_room i fs
      rw [hd] at HDO
      clear hst hd hnm htx hasc
      have HSN := hide (fun w => specSnapName_any i (by omega) (by omega) w)
      have HDS := hide (fun w hat => l08Drops_any oa n cap fs i hok.1 w hat (by omega) HNM.out)
      have HDN := hide (fun w hat => l08New_any oa n cap fs w hat)
      obtain ⟨X, hX⟩ : ∃ X, newDropS fs = X := ⟨_, rfl⟩
      obtain ⟨Z, hZ⟩ : ∃ Z, othersS i fs = Z := ⟨_, rfl⟩
      obtain ⟨SN, hSN⟩ : ∃ SN, snName i = SN := ⟨_, rfl⟩
      have HP := hide (snActs_parts fs i text)
      unfold keepMove at HP
      rw [hX] at HDN HP hxr
      rw [hZ] at HDS HP hor
      rw [hSN] at HSN HP
      clear hX hZ hSN
      have hxy : (X ++ addsA text).length ≤ 20001 := by rw [List.length_append]; omega
      go_enter Tryd.func21, Tryd.ntmps21
      go_wp2_with fail
      refine HST.out.mono ?_
      generalize (w.alloc (.cells #[.slice oa n cap] 47)).alloc (.cells (sncells i t (.slice ob m cb) b) 30) = w2 at HD2 HS2 HZ2 HB2
      have hz2 := HZ2.out
      rintro e w3 ⟨rfl, hb3⟩
      have HB3 := hide (HB2.out.trans (hb3.mono HB2.out.size))
      have HD3 := hide (HD2.out.on hb3 HD2.out.lt)
      have HS3 := hide (HS2.out.on hb3 HS2.out.lt)
      clear hb3
      have d0 := HD3.out.cell
      go_wp2_with fail
      refine (HDO.out _ (HAT.out.below HB3.out)).mono ?_
      rintro e w5 ⟨rfl, hb5⟩
      have HB5 := hide (HB3.out.trans (hb5.mono HB3.out.size))
      have HD5 := hide (HD3.out.on hb5 HD3.out.lt)
      have HS5 := hide (HS3.out.on hb5 HS3.out.lt)
      have hl5 := HD5.out.lt
      have hm5 := HS5.out.lt
      clear hb5 d0 HB3 HD3 HS3
      have d0 := HD5.out.cell
      go_wp2_with fail
      refine (HDN.out _ (HAT.out.below HB5.out)).mono ?_
      rintro e w6 ⟨v6, rfl, ho6, hb6⟩
      have HO6 := hide ho6
      have K6 := hide hb6
      clear ho6 hb6 d0
      obtain ⟨ov6, cv6, rfl⟩ := own_slice HO6.out
      go_wp2_with fail
      generalize hXY : X ++ addsA text = XY at HP hxy
      have HXY := hide hXY
      clear hXY
      go_loopw [6, 8] (fun s v wr => ∃ (r : List UInt8) (A : List ActV), s = .string ⟨r.toArray⟩ ∧ r.length ≤ 20000 ∧ A ++ addsA r = XY ∧ wr.ownsRow w5.heap.size 79 4 v A.length (A.flatMap akc) ∧ Below w5.heap.size w5 wr) (fun s _ _ => lenV s)
      case atStart => exact ⟨text, X, rfl, ht1, HXY.out, HO6.out, K6.out⟩
      case round =>
        obtain ⟨r, A, rfl, hr, hA, hown, hbel⟩ := hrel
        have hal : A.length ≤ 20001 := by have := congrArg List.length hA; rw [List.length_append] at this; omega
        have HA := hide hA
        have HOW := hide hown
        have KW := hide hbel
        have hsw := hbel.size
        clear hA hown hbel
        obtain ⟨ov, cv, hv⟩ := own_slice HOW.out
        subst hv
        by_cases hlt : 0 < r.length
        · have k0 : (0 : Int) < (r.length : Int) := by omega
          have HSTP := hide (addsA_step (l := r) (by intro e; rw [e] at hlt; simp at hlt))
          obtain ⟨C, hC⟩ : ∃ C, r.take 60 = C := ⟨_, rfl⟩
          obtain ⟨D, hD⟩ : ∃ D, r.drop 60 = D := ⟨_, rfl⟩
          rw [hC, hD] at HSTP
          have HNX := hide (show (A ++ [addA C]) ++ addsA D = XY by rw [← HA.out, HSTP.out, List.append_assoc]; rfl)
          have hDl : D.length < r.length := by rw [← hD, List.length_drop]; omega
          clear HSTP HA
          by_cases hhi : 60 ≤ r.length
          · have g1 : ¬ (r.length : Int) < 60 := by omega
            have hs1 := slice_head8 r 60 hhi
            have hs2 := slice_tail8 r 60 hhi
            rw [hC] at hs1
            rw [hD] at hs2
            simp only [Int.cast_ofNat_Int] at hs1 hs2
            clear hC hD
            go_wp2_with (at_builtin; refine wpList_pushK (cs := #[.int .i64 1, .string ⟨#[115, 43]⟩, .string ⟨C.toArray⟩, .string ⟨#[]⟩]) rfl _ _ 42 rfl (by decide) Tryd.underlying42 infoKAz rfl rfl HOW.out rfl rfl (akc_one (addA C)) KW.out hsw (by unfold maxLen; omega) (by omega) ?_)
            intro v' w8 ho8 hb8 _
            have HO8 := hide ho8
            have K8 := hide hb8
            clear ho8 hb8
            go_wp2_with fail
            go_roundw
            case rel => exact ⟨D, _, rfl, by omega, HNX.out, add_own HO8.out, K8.out⟩
            case measure => simp only [lenV, size_mk8]; omega
          · have g1 : (r.length : Int) < 60 := by omega
            have hs1 := slice_head8 r r.length (Nat.le_refl _)
            have hs2 := slice_tail8 r r.length (Nat.le_refl _)
            rw [List.take_length] at hs1
            rw [List.drop_length] at hs2
            have hC0 : C = r := by rw [← hC]; exact List.take_of_length_le (by omega)
            have hD0 : D = [] := by rw [← hD]; exact List.drop_eq_nil_of_le (by omega)
            rw [hC0, hD0] at HNX
            clear hC hD hC0 hD0 hDl
            go_wp2_with (at_builtin; refine wpList_pushK (cs := #[.int .i64 1, .string ⟨#[115, 43]⟩, .string ⟨r.toArray⟩, .string ⟨#[]⟩]) rfl _ _ 42 rfl (by decide) Tryd.underlying42 infoKAz rfl rfl HOW.out rfl rfl (akc_one (addA r)) KW.out hsw (by unfold maxLen; omega) (by omega) ?_)
            intro v' w8 ho8 hb8 _
            have HO8 := hide ho8
            have K8 := hide hb8
            clear ho8 hb8
            go_wp2_with fail
            go_roundw
            case rel => exact ⟨[], _, rfl, by simp, HNX.out, add_own HO8.out, K8.out⟩
            case measure => simp only [lenV, size_mk8, List.length_nil]; omega
        · have hr0 : r = [] := List.eq_nil_of_length_eq_zero (by omega)
          subst hr0
          have HA2 := hide (show A = XY by rw [← HA.out, addsA_nil, List.append_nil])
          clear HA hlt hr
          have HB7 := hide (HB5.out.trans (KW.out.mono HB5.out.size))
          have HS7 := hide (HS5.out.on KW.out hm5)
          obtain ⟨c0, c1, c2, c3⟩ := HS7.out.sv
          go_wp2_with fail
          refine (HSN.out _).mono ?_
          rintro e w8 ⟨rfl, hb8⟩
          have HO8 := hide (own_below HOW.out hb8)
          have K8 := hide (KW.out.trans (hb8.mono hsw))
          have hs8 : w5.heap.size ≤ w8.heap.size := K8.out.size
          clear hb8 c0 c1 c2 c3 HOW KW
          go_wp2_with (at_builtin; refine wpList_pushM8 (m := 2) (cs := #[.int .i64 2, .string ⟨#[115, 43]⟩, .string ⟨#[]⟩, .string ⟨#[]⟩, .int .i64 3, .string ⟨#[115, 43]⟩, .string ⟨#[]⟩, .string ⟨SN.toArray⟩]) rfl _ _ 42 rfl (by decide) Tryd.underlying42 infoKAz rfl rfl HO8.out rfl rfl (acts_one [⟨2, nmSnap, [], []⟩, ⟨3, nmSnap, [], SN⟩]) hs8 (by unfold maxLen; omega) (by omega) ?_)
          intro v9 w9 ho9 hg9
          have HO9 := hide (cat_own (X := A) (Y := [⟨2, nmSnap, [], []⟩, ⟨3, nmSnap, [], SN⟩]) rfl rfl ho9)
          have K9 := hide (K8.out.grown hg9 hs8 (fun q hq => (HO8.out.lt q hq).1))
          have hs9 : w5.heap.size ≤ w9.heap.size := K9.out.size
          have hxyz : (A ++ [(⟨2, nmSnap, [], []⟩ : ActV), (⟨3, nmSnap, [], SN⟩ : ActV)]).length ≤ 20003 := by rw [List.length_append]; simp only [List.length_cons, List.length_nil]; omega
          rw [← HA2.out] at HP
          clear ho9 hg9 HO8 K8
          generalize A ++ [(⟨2, nmSnap, [], []⟩ : ActV), (⟨3, nmSnap, [], SN⟩ : ActV)] = W9 at HO9 hxyz HP
          obtain ⟨ov9, cv9, rfl⟩ := own_slice HO9.out
          have HD9 := hide (HD5.out.on K9.out hl5)
          have HS9 := hide (HS5.out.on K9.out hm5)
          have HB9 := hide (HB5.out.trans (K9.out.mono HB5.out.size))
          have d0 := HD9.out.cell
          obtain ⟨c0, c1, c2, c3⟩ := HS9.out.sv
          go_wp2_with fail
          refine (HDS.out _ (HAT.out.below HB9.out)).mono ?_
          rintro e w10 ⟨v10, rfl, ho10, hb10⟩
          obtain ⟨ov10, cv10, rfl⟩ := own_slice ho10
          have HO10 := hide ho10
          have HO910 := hide (own_below HO9.out hb10)
          have K10 := hide (K9.out.trans (hb10.mono hs9))
          have hs10 : w5.heap.size ≤ w10.heap.size := K10.out.size
          clear ho10 hb10 HO9 K9 d0 c0 c1 c2 c3
          go_wp2_with (at_builtin; refine wpList_append_row8 rfl _ _ 42 rfl (by decide) Tryd.underlying42 infoKAz rfl rfl HO910.out rfl HO10.out (acts_one Z) hs10 (by unfold maxLen; omega) (by omega) ?_)
          intro v11 w11 ho11 hg11
          have HO11 := hide (cat_own rfl rfl ho11)
          have K11 := hide (K10.out.grown hg11 hs10 (fun q hq => (HO910.out.lt q hq).1))
          clear ho11 hg11
          obtain ⟨ov11, cv11, rfl⟩ := own_slice HO11.out
          go_wp2_with fail
          refine bodyPost_ret (v := .tuple #[.slice ov11 (W9 ++ Z).length cv11, .bool true]) (by simp [results, Tryd.results21, go_sem]) rfl ?_
          refine SaPost.yes HR.out (by rw [HP.out]) (by rw [HP.out]; exact own_base HO11.out HB5.out.size) (HB5.out.trans (K11.out.mono HB5.out.size))

end Go.Proofs.YtpenpbopehbncaaDoor
