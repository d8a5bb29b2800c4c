/-
  Walks and mathematics of Msg7, Msg7b, Msg8.
-/
import Derived.Test.YtmllcomppjkhhaaGreatDoorRBuildW
import Derived.Test.YtmllcomppjkhhaaGreatDoorRMsg5
import Derived.Test.YtmllcomppjkhhaaGreatDoorRWalk5f
import Derived.Test.YtmllcomppjkhhaaGreatDoorRMtv
namespace Go.Proofs.YtmllcomppjkhhaaGreatDoor.P18
end Go.Proofs.YtmllcomppjkhhaaGreatDoor.P18
namespace Go.Proofs.YtmllcomppjkhhaaGreatDoor.P3
end Go.Proofs.YtmllcomppjkhhaaGreatDoor.P3
namespace Go.Proofs.YtmllcomppjkhhaaGreatDoor
open Go.RowKit P1 P3 P9 P11 P12 P18 K
set_option linter.unusedVariables false
set_option linter.unusedSimpArgs false

set_option maxRecDepth 100000 in
set_option maxHeartbeats 2000000 in
theorem flag_any15 (base g : Nat) (l : List UInt8) (b : Bool) (hl : l.length ≤ 500000) (w : World) (hT : Tw base g l w) :
    Calls Tryz.prog 44 #[.pointer (some ⟨g, 0, none⟩), .bool b] w fun e w' => e = .returned (.tuple #[]) ∧ Tw base g (l ++ [flB b]) w' ∧ TwFr base g w w' := by
  have HT := hide hT
  clear hT
  cases b with
  | false =>
    have HAT := hide (ints_lit (W := w) (zs := [0]) (cs := #[.int .i64 0]) (ty := 3) rfl rfl (wf_one (z := 0) (by omega) (by omega)))
    go_enter Tryz.func44, Tryz.ntmps44
    go_wp2_with fail
    refine (oneBytes_any14 base g l (some ⟨w.heap.size, 0, none⟩) 1 1 [0] (by omega) (by intro z hz; simp at hz; omega) (by omega) _ (HT.out.alloc _) HAT.out).mono ?_
    rintro e w1 ⟨rfl, hT1, hF1⟩
    have hF := (TwFr.low HT.out.bsz ((Below.refl _ _).alloc (Nat.le_refl _) _)).trans hF1
    have HT1 := hide hT1
    have HF := hide hF
    clear hT1 hF1 hF
    go_wp2_with fail
    refine bodyPost_end (results_none rfl _ _ _) rfl ?_
    exact ⟨rfl, HT1.out, HF.out⟩
  | true =>
    have HAT := hide (ints_lit (W := w) (zs := [1]) (cs := #[.int .i64 1]) (ty := 3) rfl rfl (wf_one (z := 1) (by omega) (by omega)))
    go_enter Tryz.func44, Tryz.ntmps44
    go_wp2_with fail
    refine (oneBytes_any14 base g l (some ⟨w.heap.size, 0, none⟩) 1 1 [1] (by omega) (by intro z hz; simp at hz; omega) (by omega) _ (HT.out.alloc _) HAT.out).mono ?_
    rintro e w1 ⟨rfl, hT1, hF1⟩
    have hF := (TwFr.low HT.out.bsz ((Below.refl _ _).alloc (Nat.le_refl _) _)).trans hF1
    have HT1 := hide hT1
    have HF := hide hF
    clear hT1 hF1 hF
    go_wp2_with fail
    refine bodyPost_end (results_none rfl _ _ _) rfl ?_
    exact ⟨rfl, HT1.out, HF.out⟩

theorem entsT_take {es : List EntV} {j : Nat} {f : EntV} (h : es[j]? = some f) : entsT (es.take (j + 1)) = entsT (es.take j) ++ shortB (entT f) := by
  obtain ⟨hlt, he⟩ := List.getElem?_eq_some_iff.1 h
  rw [List.take_succ_eq_append_getElem hlt, he]
  simp [entsT]

set_option maxRecDepth 100000 in
set_option maxHeartbeats 4000000 in
theorem entries_any15 (W0 : World) (g : Nat) (l : List UInt8) (oa : Option Addr) (n cl : Nat) (es : List EntV) (hok : ∀ f ∈ es, f.ok = true) (hw : ∀ f ∈ es, f.data.size ≤ 1048576) (hn4 : n ≤ 4) (hl : l.length ≤ 100000) (w : World) (hT : Tw W0.heap.size g l w) (hb : Below W0.heap.size W0 w) (hat : EntsAt W0 oa n cl es) :
    Calls Tryz.prog 45 #[.pointer (some ⟨g, 0, none⟩), .slice oa n cl] w fun e w' => e = .returned (.tuple #[]) ∧ Tw W0.heap.size g (l ++ (varB n ++ entsT es)) w' ∧ TwFr W0.heap.size g w w' := by
  have hn := hat.len
  have HN := hide hn
  have HAT := hide hat
  have HB := hide hb
  have HT := hide hT
  have HOK := hide hok
  have HW := hide hw
  have hvl := var_len15 n
  have HI := hide (ints_lit (W := w) (zs := [(n : Int)]) (cs := #[.int .i64 (n : Int)]) (ty := 3) rfl rfl (wf_one (z := (n : Int)) (by omega) (by omega)))
  clear hn hat hb hT hok hw
  go_enter Tryz.func45, Tryz.ntmps45
  go_wp2_with fail
  refine (numbers_any14 W0.heap.size g l (some ⟨w.heap.size, 0, none⟩) 1 1 [(n : Int)] (by omega) (by intro z hz; simp at hz; omega) (by omega) _ (HT.out.alloc _) HI.out).mono ?_
  rintro e w1 ⟨rfl, hT1, hF1⟩
  have hv : l ++ [(n : Int)].flatMap varZ = l ++ varB n := by simp [varZ]
  rw [hv] at hT1
  have HT1 := hide hT1
  have HF1 := hide ((TwFr.low HT.out.bsz ((Below.refl _ _).alloc (Nat.le_refl _) (.cells #[.int .i64 (n : Int)] 3))).trans hF1)
  clear hT1 hF1 hv
  go_wp2_with fail
  go_loopw [17] (fun i wr => ∃ (j : Nat), i = .int .i64 (j : Int) ∧ j ≤ n ∧ Tw W0.heap.size g ((l ++ varB n) ++ entsT (es.take j)) wr ∧ TwFr W0.heap.size g w wr) (fun i _ => n - (intOf i).toNat)
  case atStart => exact ⟨0, rfl, Nat.zero_le _, by simpa [entsT] using HT1.out, HF1.out⟩
  case round =>
    obtain ⟨j, rfl, hj, hTj, hFj⟩ := hrel
    by_cases hlt : j < n
    · have j0 : (j : Int) < (n : Int) := by omega
      obtain ⟨f, b, q, hf, hidx, hbq, d0, d1, d2⟩ := (HAT.out.below (HB.out.trans hFj.bel)).get3 Tryz.underlying24 infoIE j hlt
      have hfm := List.mem_of_getElem? hf
      have hET := implEntryText_any 1 f (HW.out f hfm)
      have hyes : (f.ok && indexOk 1) = true := by rw [HOK.out f hfm]; rfl
      unfold eval at hET
      rw [etVal_yes hyes] at hET
      have hln := entT_len (HOK.out f hfm)
      have hbig := entsT_len (es.take j) (fun x hx => HOK.out x (List.mem_of_mem_take hx))
      rw [List.length_take, HN.out] at hbig
      have HLEN := hide (show ((l ++ varB n) ++ entsT (es.take j)).length ≤ 200000 by simp only [List.length_append]; omega)
      have HTK := hide (entsT_take hf)
      have HET := hide (show ∀ w, Calls Tryz.prog 71 #[.int .i64 1, .agg #[.int .i64 f.term, .int .i64 f.kind, .string f.data]] w fun e w' => e = .returned (.tuple #[.string ⟨(entT f).toArray⟩, .bool true]) ∧ Below w.heap.size w w' from hET)
      generalize hk : entT f = kf at HET hln HTK
      generalize hM : (l ++ varB n) ++ entsT (es.take j) = M at hTj HLEN
      have HTA := hide (hTj.alloc (.cells #[.int .i64 f.term, .int .i64 f.kind, .string f.data] 56))
      have HFA := hide (hFj.trans (TwFr.low hTj.bsz ((Below.refl _ _).alloc (Nat.le_refl _) (.cells #[.int .i64 f.term, .int .i64 f.kind, .string f.data] 56))))
      have HM := hide hM
      clear hf hfm hET hyes hbig hk hTj hFj hM
      go_wp2_with fail
      refine (HET.out _).mono ?_
      rintro e w2 ⟨rfl, hb2⟩
      have HT2 := hide (HTA.out.on hb2)
      have HF2 := hide (HFA.out.trans (TwFr.low HTA.out.bsz hb2))
      clear hb2 HTA HFA
      go_wp2_with fail
      refine (short_any14 W0.heap.size g M kf (by omega) (by have := HLEN.out; omega) _ HT2.out).mono ?_
      rintro e w3 ⟨rfl, hT3, hF3⟩
      have HT3 := hide hT3
      have HF3 := hide (HF2.out.trans hF3)
      clear hT3 hF3 HT2 HF2
      go_wp2_with fail
      go_roundw
      case rel =>
        refine ⟨j + 1, by go_num, by omega, ?_, HF3.out⟩
        rw [HTK.out, ← List.append_assoc, HM.out]
        exact HT3.out
      case measure => simp [intOf]; omega
    · have hjn : j = n := by omega
      subst hjn
      have HTj := hide hTj
      have HFj := hide hFj
      clear hTj hFj
      go_wp2_with fail
      refine bodyPost_end (results_none rfl _ _ _) rfl ?_
      refine ⟨rfl, ?_, HFj.out⟩
      have h := HTj.out
      rw [show es.take j = es from by rw [← HN.out]; exact List.take_length, List.append_assoc] at h
      exact h

theorem ints_arr {W : World} {t : Nat} {a b c d e f g : Int} {T : TypeId} (k : XS t #[.int .i64 a, .int .i64 b, .int .i64 c, .int .i64 d, .int .i64 e, .int .i64 f, .int .i64 g] T W) (hw : ∀ z ∈ [a, b, c, d, e, f, g], (Lit.int .i64 z).wf = true) :
    IntsAt W (some ⟨t, 0, none⟩) 3 7 [a, b, c] ∧ IntsAt W (some ⟨t, 3, none⟩) 4 4 [d, e, f, g] := by
  obtain ⟨k0, k1, k2, k3, k4, k5, k6⟩ := xs7 k
  refine ⟨⟨rfl, by omega, by unfold maxLen; omega, fun z hz => hw z (by simp at hz ⊢; rcases hz with h | h | h <;> simp [h]), fun i z hz => ⟨t, 0, rfl, ?_⟩⟩, ⟨rfl, by omega, by unfold maxLen; omega, fun z hz => hw z (by simp at hz ⊢; rcases hz with h | h | h | h <;> simp [h]), fun i z hz => ⟨t, 3, rfl, ?_⟩⟩⟩
  · have hi : i < 3 := (List.getElem?_eq_some_iff.1 hz).1
    rcases (show i = 0 ∨ i = 1 ∨ i = 2 by omega) with rfl | rfl | rfl <;> (cases hz; assumption)
  · have hi : i < 4 := (List.getElem?_eq_some_iff.1 hz).1
    rcases (show i = 0 ∨ i = 1 ∨ i = 2 ∨ i = 3 by omega) with rfl | rfl | rfl | rfl <;> (cases hz; assumption)

theorem msg_cat (kd fr to tm ix lt cm : Int) (ok : Bool) (oa : Option Addr) (n cl : Nat) (ob : Option Addr) (m cp : Nat) (da : List UInt8) (la : Bool) (es : List EntV) (zs : List Int) : (((((([] ++ [kd, fr, to].map byB) ++ [tm, ix, lt, cm].flatMap varZ) ++ [flB ok]) ++ [flB la]) ++ (varB es.length ++ entsT es)) ++ shortB (zs.map byB)) ++ shortB da = msgB (⟨kd, fr, to, tm, ix, lt, cm, ok, es, zs, da, la⟩ : MsgV) := by
  simp [msgB, tlB, confB]
  rfl

end Go.Proofs.YtmllcomppjkhhaaGreatDoor

namespace Go.Proofs.YtmllcomppjkhhaaGreatDoor
open Go.RowKit P1 P3 P9 P11 P12 P18 K
set_option linter.unusedVariables false
set_option linter.unusedSimpArgs false

set_option maxRecDepth 100000 in
set_option maxHeartbeats 8000000 in
theorem message_any15 (W0 : World) (g : Nat) (kd fr to tm ix lt cm : Int) (ok : Bool) (oa : Option Addr) (n cl : Nat) (ob : Option Addr) (m cp : Nat) (da : List UInt8) (la : Bool) (es : List EntV) (zs : List Int) (hm : msgOk (⟨kd, fr, to, tm, ix, lt, cm, ok, es, zs, da, la⟩ : MsgV) = true) (hw : ∀ f ∈ es, f.data.size ≤ 1048576) (w : World) (hT : Tw W0.heap.size g [] w) (hb : Below W0.heap.size W0 w) (hat : EntsAt W0 oa n cl es) (hbt : IntsAt W0 ob m cp zs) :
    Calls Tryz.prog 15 #[.pointer (some ⟨g, 0, none⟩), (mgval kd fr to tm ix lt cm ok (.slice oa n cl) (.slice ob m cp) da la)] w fun e w' => e = .returned (.tuple #[]) ∧ Tw W0.heap.size g (msgB (⟨kd, fr, to, tm, ix, lt, cm, ok, es, zs, da, la⟩ : MsgV)) w' ∧ Below W0.heap.size W0 w' := by
  have hin := msg_in hm
  have hcf := hin.conf
  obtain ⟨i1, i2, i3, i4, i5, i6, i7, i8, -, i10⟩ := hin
  simp only at i1 i2 i3 i4 i5 i6 i7 i8 i10 hcf
  have hn := hat.len
  have hm2 := hbt.len
  have HES := hide i8.2
  have hn4 := i8.1
  rw [hn] at hn4
  have HZ3 := hide (show ∀ z ∈ [kd, fr, to], 0 ≤ z ∧ z ≤ 255 by intro z hz; simp at hz; rcases hz with rfl | rfl | rfl <;> omega)
  have HZ4 := hide (show ∀ z ∈ [tm, ix, lt, cm], 0 ≤ z ∧ z ≤ 1000000000 by intro z hz; simp at hz; rcases hz with rfl | rfl | rfl | rfl <;> omega)
  have HZC := hide (show ∀ z ∈ zs, 0 ≤ z ∧ z ≤ 255 from fun z hz => by have := hcf.2 z hz; omega)
  have hzl := hcf.1
  rw [hm2] at hzl
  have HWF := hide (show ∀ z ∈ [kd, fr, to, tm, ix, lt, cm], (Lit.int .i64 z).wf = true by intro z hz; simp at hz; rcases hz with rfl | rfl | rfl | rfl | rfl | rfl | rfl <;> exact wf_small (by omega) (by omega))
  have v1 := var_len15 tm.toNat
  have v2 := var_len15 ix.toNat
  have v3 := var_len15 lt.toNat
  have v4 := var_len15 cm.toNat
  have v5 := var_len15 n
  have HCAT := hide (msg_cat kd fr to tm ix lt cm ok oa n cl ob m cp da la es zs)
  rw [hn] at HCAT
  rw [← HCAT.out]
  have hel := entsT_len es i8.2
  rw [hn] at hel
  have hsl := (shortB_length (zs.map byB)).1
  rw [List.length_map, hm2] at hsl
  have HL2 := hide (show (([] ++ [kd, fr, to].map byB : List UInt8) ++ [tm, ix, lt, cm].flatMap varZ).length ≤ 100 by simp [varZ]; omega)
  obtain ⟨M1, hM1⟩ : ∃ M, ([] ++ [kd, fr, to].map byB : List UInt8) = M := ⟨_, rfl⟩
  obtain ⟨M2, hM2⟩ : ∃ M, M1 ++ [tm, ix, lt, cm].flatMap varZ = M := ⟨_, rfl⟩
  obtain ⟨M3, hM3⟩ : ∃ M, M2 ++ [flB ok] = M := ⟨_, rfl⟩
  obtain ⟨M4, hM4⟩ : ∃ M, M3 ++ [flB la] = M := ⟨_, rfl⟩
  obtain ⟨M5, hM5⟩ : ∃ M, M4 ++ (varB n ++ entsT es) = M := ⟨_, rfl⟩
  obtain ⟨M6, hM6⟩ : ∃ M, M5 ++ shortB (zs.map byB) = M := ⟨_, rfl⟩
  have l1 : M1.length ≤ 10 := by rw [← hM1]; simp
  have l2 : M2.length ≤ 100 := by rw [← hM2, ← hM1]; exact HL2.out
  have l3 : M3.length ≤ 110 := by rw [← hM3]; simp; omega
  have l4 : M4.length ≤ 120 := by rw [← hM4]; simp; omega
  have l5 : M5.length ≤ 2000 := by rw [← hM5]; simp only [List.length_append]; omega
  have l6 : M6.length ≤ 3000 := by rw [← hM6]; simp only [List.length_append]; omega
  rw [hM1, hM2, hM3, hM4, hM5, hM6]
  have HM1 := hide hM1
  have HM2 := hide hM2
  have HM3 := hide hM3
  have HM4 := hide hM4
  have HM5 := hide hM5
  have HM6 := hide hM6
  clear hM1 hM2 hM3 hM4 hM5 hM6 v1 v2 v3 v4 v5 hel hsl HL2 HCAT
  have HNU := hide (fun w => numbers_any15 kd fr to tm ix lt cm ok oa n cl ob m cp da la w)
  have HNE := hide (show w.heap.size ≠ g by have := hT.glt; omega)
  have HX0 := hide (XS.new w #[.int .i64 kd, .int .i64 fr, .int .i64 to, .int .i64 tm, .int .i64 ix, .int .i64 lt, .int .i64 cm, .bool ok, .slice oa n cl, .slice ob m cp, .string ⟨da.toArray⟩, .bool la] 27)
  have HT0 := hide (hT.alloc (.cells #[.int .i64 kd, .int .i64 fr, .int .i64 to, .int .i64 tm, .int .i64 ix, .int .i64 lt, .int .i64 cm, .bool ok, .slice oa n cl, .slice ob m cp, .string ⟨da.toArray⟩, .bool la] 27))
  have HB0 := hide (hb.alloc hb.size (.cells #[.int .i64 kd, .int .i64 fr, .int .i64 to, .int .i64 tm, .int .i64 ix, .int .i64 lt, .int .i64 cm, .bool ok, .slice oa n cl, .slice ob m cp, .string ⟨da.toArray⟩, .bool la] 27))
  have HAT := hide hat
  have HBT := hide hbt
  have HW := hide hw
  have hgl := hT.glt
  clear hat hbt hT hb hw hm hn hm2 hcf i8
  go_enter Tryz.func15, Tryz.ntmps15
  go_wp2_with fail
  generalize w.alloc (.cells #[.int .i64 kd, .int .i64 fr, .int .i64 to, .int .i64 tm, .int .i64 ix, .int .i64 lt, .int .i64 cm, .bool ok, .slice oa n cl, .slice ob m cp, .string ⟨da.toArray⟩, .bool la] 27) = x0 at HX0 HT0 HB0 ⊢
  refine (HNU.out _).mono ?_
  rintro e y1 ⟨rfl, hy1⟩
  have HTA := hide (HT0.out.on hy1)
  have HBA := hide (HB0.out.trans (hy1.mono HB0.out.size))
  have HXA := hide (HX0.out.on hy1)
  have hsy := hy1.size
  clear hy1 HT0 HB0 HX0 HNU
  have HNT := hide (show y1.heap.size ≠ g by have := HTA.out.glt; omega)
  have HS1 := hide (show XS w.heap.size #[.int .i64 kd, .int .i64 fr, .int .i64 to, .int .i64 tm, .int .i64 ix, .int .i64 lt, .int .i64 cm, .bool ok, .slice oa n cl, .slice ob m cp, .string ⟨da.toArray⟩, .bool la] 27 (y1.alloc (.cells #[.int .i64 kd, .int .i64 fr, .int .i64 to, .int .i64 tm, .int .i64 ix, .int .i64 lt, .int .i64 cm] 59)) ∧ XS y1.heap.size #[.int .i64 kd, .int .i64 fr, .int .i64 to, .int .i64 tm, .int .i64 ix, .int .i64 lt, .int .i64 cm] 59 (y1.alloc (.cells #[.int .i64 kd, .int .i64 fr, .int .i64 to, .int .i64 tm, .int .i64 ix, .int .i64 lt, .int .i64 cm] 59)) from ⟨HXA.out.alloc _, XS.new _ _ _⟩)
  have HT1 := hide (HTA.out.alloc (.cells #[.int .i64 kd, .int .i64 fr, .int .i64 to, .int .i64 tm, .int .i64 ix, .int .i64 lt, .int .i64 cm] 59))
  have HB1 := hide (HBA.out.alloc HBA.out.size (.cells #[.int .i64 kd, .int .i64 fr, .int .i64 to, .int .i64 tm, .int .i64 ix, .int .i64 lt, .int .i64 cm] 59))
  clear HTA HBA HXA
  go_upto_region 2 with fail
  generalize y1.alloc (.cells #[.int .i64 kd, .int .i64 fr, .int .i64 to, .int .i64 tm, .int .i64 ix, .int .i64 lt, .int .i64 cm] 59) = x1 at HS1 HT1 HB1 ⊢
  generalize y1.heap.size = t at HS1 HNT ⊢
  refine wp_region_held_drew (S := fun w' => XS w.heap.size #[.int .i64 kd, .int .i64 fr, .int .i64 to, .int .i64 tm, .int .i64 ix, .int .i64 lt, .int .i64 cm, .bool ok, .slice oa n cl, .slice ob m cp, .string ⟨da.toArray⟩, .bool la] 27 w' ∧ XS t #[.int .i64 kd, .int .i64 fr, .int .i64 to, .int .i64 tm, .int .i64 ix, .int .i64 lt, .int .i64 cm] 59 w') (by kernel_rfl) (show _ ∧ _ from ⟨HS1.out.1.drew, HS1.out.2.drew⟩) (fun hHeld => ?_)
  refine wpAnyH_take (i := 0) (v := ?_) rfl (by kernel_rfl) (by kernel_rfl) (by kernel_rfl) (fun _ _ _ h => h) (Or.inl ⟨by rfl, ?_⟩) (by assumption) ?_; rotate_left
  · (intro wz hSw; (try dsimp only at hSw); clear hSw; go_simp; first | done | with_reducible rfl)
  try simp only [Act.put, List.getElem_toArray, List.getElem_cons_zero, List.getElem_cons_succ, List.setIfInBounds_toArray, List.set_cons_zero, List.set_cons_succ]
  refine wpAnyH_take (i := 1) (v := ?_) rfl (by kernel_rfl) (by kernel_rfl) (by kernel_rfl) (fun _ _ _ h => h) (Or.inl ⟨by rfl, ?_⟩) (by assumption) ?_; rotate_left
  · (intro wz hSw; (try dsimp only at hSw); clear hSw; go_simp; first | done | with_reducible rfl)
  try simp only [Act.put, List.getElem_toArray, List.getElem_cons_zero, List.getElem_cons_succ, List.setIfInBounds_toArray, List.set_cons_zero, List.set_cons_succ]
  refine wpAnyH_take (i := 2) (v := ?_) rfl (by kernel_rfl) (by kernel_rfl) (by kernel_rfl) (fun _ _ _ h => h) (Or.inl ⟨by rfl, ?_⟩) (by assumption) ?_; rotate_left
  · (intro wz hSw; (try dsimp only at hSw); clear hSw; go_simp; first | done | with_reducible rfl)
  try simp only [Act.put, List.getElem_toArray, List.getElem_cons_zero, List.getElem_cons_succ, List.setIfInBounds_toArray, List.set_cons_zero, List.set_cons_succ]
  refine wpAnyH_take (i := 3) (v := ?_) rfl (by kernel_rfl) (by kernel_rfl) (by kernel_rfl) (fun _ _ _ h => h) (Or.inl ⟨by rfl, ?_⟩) (by assumption) ?_; rotate_left
  · (intro wz hSw; (try dsimp only at hSw); clear hSw; go_simp; first | done | with_reducible rfl)
  try simp only [Act.put, List.getElem_toArray, List.getElem_cons_zero, List.getElem_cons_succ, List.setIfInBounds_toArray, List.set_cons_zero, List.set_cons_succ]
  have HT1b := hide HT1.out.drew
  have HB1b := hide HB1.out.drew
  refine wpAnyH_ready (rs := [4]) (by kernel_rfl) (by simp) ?_
  refine AllReadyH.cons rfl (fun K hK => ?_) AllReadyH.nil
  rw [if_pos (by rfl)]
  go_simp
  go_at_call 42
  with_reducible refine (oneBytes_any14 W0.heap.size g [] (some ⟨t, 0, none⟩) 3 7 [kd, fr, to] (by omega) HZ3.out (by simp) _ HT1b.out (ints_arr hHeld.2 HWF.out).1).mono ?_
  rintro r x2 ⟨rfl, hT, hF⟩
  try go_simp
  refine hK.out _ _ ?_ (fun hHeld => ?_)
  · exact ⟨XS.tw hHeld.1 hF HNE.out (by decide), XS.tw hHeld.2 hF HNT.out (by decide)⟩
  clear hK K
  try simp only [Act.put, List.getElem_toArray, List.getElem_cons_zero, List.getElem_cons_succ, List.setIfInBounds_toArray, List.set_cons_zero, List.set_cons_succ]
  refine wpAnyH_done (by kernel_rfl) ?_ _
  have HT2 := hide hT
  have HB2 := hide (HB1b.out.trans hF.bel)
  have HS2 := hide hHeld
  clear hT hF hHeld HT1 HB1 HS1 HT1b HB1b
  go_wp2_with fail
  rw [HM1.out] at HT2
  refine wp_region_held_drew (S := fun w' => XS w.heap.size #[.int .i64 kd, .int .i64 fr, .int .i64 to, .int .i64 tm, .int .i64 ix, .int .i64 lt, .int .i64 cm, .bool ok, .slice oa n cl, .slice ob m cp, .string ⟨da.toArray⟩, .bool la] 27 w' ∧ XS t #[.int .i64 kd, .int .i64 fr, .int .i64 to, .int .i64 tm, .int .i64 ix, .int .i64 lt, .int .i64 cm] 59 w') (by kernel_rfl) (show _ ∧ _ from ⟨HS2.out.1.drew, HS2.out.2.drew⟩) (fun hHeld => ?_)
  refine wpAnyH_take (i := 0) (v := ?_) rfl (by kernel_rfl) (by kernel_rfl) (by kernel_rfl) (fun _ _ _ h => h) (Or.inl ⟨by rfl, ?_⟩) (by assumption) ?_; rotate_left
  · (intro wz hSw; (try dsimp only at hSw); clear hSw; go_simp; first | done | with_reducible rfl)
  try simp only [Act.put, List.getElem_toArray, List.getElem_cons_zero, List.getElem_cons_succ, List.setIfInBounds_toArray, List.set_cons_zero, List.set_cons_succ]
  refine wpAnyH_take (i := 1) (v := ?_) rfl (by kernel_rfl) (by kernel_rfl) (by kernel_rfl) (fun _ _ _ h => h) (Or.inl ⟨by rfl, ?_⟩) (by assumption) ?_; rotate_left
  · (intro wz hSw; (try dsimp only at hSw); clear hSw; go_simp; first | done | with_reducible rfl)
  try simp only [Act.put, List.getElem_toArray, List.getElem_cons_zero, List.getElem_cons_succ, List.setIfInBounds_toArray, List.set_cons_zero, List.set_cons_succ]
  refine wpAnyH_take (i := 2) (v := ?_) rfl (by kernel_rfl) (by kernel_rfl) (by kernel_rfl) (fun _ _ _ h => h) (Or.inl ⟨by rfl, ?_⟩) (by assumption) ?_; rotate_left
  · (intro wz hSw; (try dsimp only at hSw); clear hSw; go_simp; first | done | with_reducible rfl)
  try simp only [Act.put, List.getElem_toArray, List.getElem_cons_zero, List.getElem_cons_succ, List.setIfInBounds_toArray, List.set_cons_zero, List.set_cons_succ]
  refine wpAnyH_take (i := 3) (v := ?_) rfl (by kernel_rfl) (by kernel_rfl) (by kernel_rfl) (fun _ _ _ h => h) (Or.inl ⟨by rfl, ?_⟩) (by assumption) ?_; rotate_left
  · (intro wz hSw; (try dsimp only at hSw); clear hSw; go_simp; first | done | with_reducible rfl)
  try simp only [Act.put, List.getElem_toArray, List.getElem_cons_zero, List.getElem_cons_succ, List.setIfInBounds_toArray, List.set_cons_zero, List.set_cons_succ]
  have HT2b := hide HT2.out.drew
  have HB2b := hide HB2.out.drew
  refine wpAnyH_ready (rs := [4]) (by kernel_rfl) (by simp) ?_
  refine AllReadyH.cons rfl (fun K hK => ?_) AllReadyH.nil
  rw [if_pos (by rfl)]
  go_simp
  go_at_call 43
  with_reducible refine (numbers_any14 W0.heap.size g M1 (some ⟨t, 3, none⟩) 4 4 [tm, ix, lt, cm] (by omega) HZ4.out (by omega) _ HT2b.out (ints_arr hHeld.2 HWF.out).2).mono ?_
  rintro r x3 ⟨rfl, hT, hF⟩
  try go_simp
  refine hK.out _ _ ?_ (fun hHeld => ?_)
  · exact ⟨XS.tw hHeld.1 hF HNE.out (by decide), XS.tw hHeld.2 hF HNT.out (by decide)⟩
  clear hK K
  try simp only [Act.put, List.getElem_toArray, List.getElem_cons_zero, List.getElem_cons_succ, List.setIfInBounds_toArray, List.set_cons_zero, List.set_cons_succ]
  refine wpAnyH_done (by kernel_rfl) ?_ _
  have HT3 := hide hT
  have HB3 := hide (HB2b.out.trans hF.bel)
  have HS3 := hide hHeld
  clear hT hF hHeld HT2 HB2 HS2 HT2b HB2b
  rw [HM2.out] at HT3
  obtain ⟨k0, k1, k2, k3, k4, k5, k6, k7, k8, k9, k10, k11⟩ := xs12 HS3.out.1
  go_wp2_with fail
  with_reducible refine (flag_any15 W0.heap.size g M2 ok (by omega) _ HT3.out).mono ?_
  rintro e x4 ⟨rfl, hT, hF⟩
  have HT4 := hide hT
  have HB4 := hide (HB3.out.trans hF.bel)
  have HS4 := hide (show _ ∧ _ from ⟨XS.tw HS3.out.1 hF HNE.out (by decide), XS.tw HS3.out.2 hF HNT.out (by decide)⟩)
  rw [HM3.out] at HT4
  clear hT hF HT3 HB3 HS3 k0 k1 k2 k3 k4 k5 k6 k7 k8 k9 k10 k11
  obtain ⟨k0, k1, k2, k3, k4, k5, k6, k7, k8, k9, k10, k11⟩ := xs12 HS4.out.1
  go_wp2_with fail
  with_reducible refine (flag_any15 W0.heap.size g M3 la (by omega) _ HT4.out).mono ?_
  rintro e x5 ⟨rfl, hT, hF⟩
  have HT5 := hide hT
  have HB5 := hide (HB4.out.trans hF.bel)
  have HS5 := hide (show _ ∧ _ from ⟨XS.tw HS4.out.1 hF HNE.out (by decide), XS.tw HS4.out.2 hF HNT.out (by decide)⟩)
  rw [HM4.out] at HT5
  clear hT hF HT4 HB4 HS4 k0 k1 k2 k3 k4 k5 k6 k7 k8 k9 k10 k11
  obtain ⟨k0, k1, k2, k3, k4, k5, k6, k7, k8, k9, k10, k11⟩ := xs12 HS5.out.1
  go_wp2_with fail
  with_reducible refine (entries_any15 W0 g M4 oa n cl es HES.out HW.out hn4 (by omega) _ HT5.out HB5.out HAT.out).mono ?_
  rintro e x6 ⟨rfl, hT, hF⟩
  have HT6 := hide hT
  have HB6 := hide (HB5.out.trans hF.bel)
  have HS6 := hide (show _ ∧ _ from ⟨XS.tw HS5.out.1 hF HNE.out (by decide), XS.tw HS5.out.2 hF HNT.out (by decide)⟩)
  rw [HM5.out] at HT6
  clear hT hF HT5 HB5 HS5 k0 k1 k2 k3 k4 k5 k6 k7 k8 k9 k10 k11
  go_wp2_with fail
  refine wp_region_held_drew (S := fun w' => XS w.heap.size #[.int .i64 kd, .int .i64 fr, .int .i64 to, .int .i64 tm, .int .i64 ix, .int .i64 lt, .int .i64 cm, .bool ok, .slice oa n cl, .slice ob m cp, .string ⟨da.toArray⟩, .bool la] 27 w' ∧ XS t #[.int .i64 kd, .int .i64 fr, .int .i64 to, .int .i64 tm, .int .i64 ix, .int .i64 lt, .int .i64 cm] 59 w') (by kernel_rfl) (show _ ∧ _ from ⟨HS6.out.1.drew, HS6.out.2.drew⟩) (fun hHeld => ?_)
  refine wpAnyH_take (i := 0) (v := ?_) rfl (by kernel_rfl) (by kernel_rfl) (by kernel_rfl) (fun _ _ _ h => h) (Or.inl ⟨by rfl, ?_⟩) (by assumption) ?_; rotate_left
  · (intro wz hSw; (try dsimp only at hSw); have z9 := XS.cell hSw.1 (u := .slice ob m cp) 9 rfl; clear hSw; go_simp; first | done | with_reducible rfl)
  try simp only [Act.put, List.getElem_toArray, List.getElem_cons_zero, List.getElem_cons_succ, List.setIfInBounds_toArray, List.set_cons_zero, List.set_cons_succ]
  refine wpAnyH_take (i := 1) (v := ?_) rfl (by kernel_rfl) (by kernel_rfl) (by kernel_rfl) (fun _ _ _ h => h) (Or.inl ⟨by rfl, ?_⟩) (by assumption) ?_; rotate_left
  · (intro wz hSw; (try dsimp only at hSw); have z9 := XS.cell hSw.1 (u := .slice ob m cp) 9 rfl; clear hSw; go_simp; first | done | with_reducible rfl)
  try simp only [Act.put, List.getElem_toArray, List.getElem_cons_zero, List.getElem_cons_succ, List.setIfInBounds_toArray, List.set_cons_zero, List.set_cons_succ]
  refine wpAnyH_take (i := 2) (v := ?_) rfl (by kernel_rfl) (by kernel_rfl) (by kernel_rfl) (fun _ _ _ h => h) (Or.inl ⟨by rfl, ?_⟩) (by assumption) ?_; rotate_left
  · (intro wz hSw; (try dsimp only at hSw); have z9 := XS.cell hSw.1 (u := .slice ob m cp) 9 rfl; clear hSw; go_simp; first | done | with_reducible rfl)
  try simp only [Act.put, List.getElem_toArray, List.getElem_cons_zero, List.getElem_cons_succ, List.setIfInBounds_toArray, List.set_cons_zero, List.set_cons_succ]
  refine wpAnyH_take (i := 3) (v := ?_) rfl (by kernel_rfl) (by kernel_rfl) (by kernel_rfl) (fun _ _ _ h => h) (Or.inl ⟨by rfl, ?_⟩) (by assumption) ?_; rotate_left
  · (intro wz hSw; (try dsimp only at hSw); have z9 := XS.cell hSw.1 (u := .slice ob m cp) 9 rfl; clear hSw; go_simp; first | done | with_reducible rfl)
  try simp only [Act.put, List.getElem_toArray, List.getElem_cons_zero, List.getElem_cons_succ, List.setIfInBounds_toArray, List.set_cons_zero, List.set_cons_succ]
  refine wpAnyH_take (i := 4) (v := ?_) rfl (by kernel_rfl) (by kernel_rfl) (by kernel_rfl) (fun _ _ _ h => h) (Or.inl ⟨by rfl, ?_⟩) (by assumption) ?_; rotate_left
  · (intro wz hSw; (try dsimp only at hSw); have z9 := XS.cell hSw.1 (u := .slice ob m cp) 9 rfl; clear hSw; go_simp; first | done | with_reducible rfl)
  try simp only [Act.put, List.getElem_toArray, List.getElem_cons_zero, List.getElem_cons_succ, List.setIfInBounds_toArray, List.set_cons_zero, List.set_cons_succ]
  have HT6b := hide HT6.out.drew
  have HB6b := hide HB6.out.drew
  refine wpAnyH_ready (rs := [5]) (by kernel_rfl) (by simp) ?_
  refine AllReadyH.cons rfl (fun K hK => ?_) AllReadyH.nil
  rw [if_pos (by rfl)]
  go_simp
  go_at_call 47
  with_reducible refine (bytesText_any ob m cp zs (by omega) HZC.out _ (HBT.out.below HB6b.out)).mono ?_
  rintro r y6 ⟨rfl, hy⟩
  try go_simp
  refine hK.out _ _ ?_ (fun hHeld => ?_)
  · exact ⟨hHeld.1.on hy, hHeld.2.on hy⟩
  clear hK K
  try simp only [Act.put, List.getElem_toArray, List.getElem_cons_zero, List.getElem_cons_succ, List.setIfInBounds_toArray, List.set_cons_zero, List.set_cons_succ]
  replace HT6b := hide (HT6b.out.on hy)
  replace HB6b := hide (HB6b.out.trans (hy.mono HB6b.out.size))
  clear hy
  refine wpAnyH_ready (rs := [6]) (by kernel_rfl) (by simp) ?_
  refine AllReadyH.cons rfl (fun K hK => ?_) AllReadyH.nil
  rw [if_pos (by rfl)]
  go_simp
  go_at_call 46
  with_reducible refine (short_any14 W0.heap.size g M5 (zs.map byB) (by rw [List.length_map]; have := HBT.out.len; omega) (by omega) _ HT6b.out).mono ?_
  rintro r x7 ⟨rfl, hT, hF⟩
  try go_simp
  refine hK.out _ _ ?_ (fun hHeld => ?_)
  · exact ⟨XS.tw hHeld.1 hF HNE.out (by decide), XS.tw hHeld.2 hF HNT.out (by decide)⟩
  clear hK K
  try simp only [Act.put, List.getElem_toArray, List.getElem_cons_zero, List.getElem_cons_succ, List.setIfInBounds_toArray, List.set_cons_zero, List.set_cons_succ]
  refine wpAnyH_done (by kernel_rfl) ?_ _
  have HT7 := hide hT
  have HB7 := hide (HB6b.out.trans hF.bel)
  have HS7 := hide hHeld
  clear hT hF hHeld HT6 HB6 HS6 HT6b HB6b
  go_wp2_with fail
  rw [HM6.out] at HT7
  refine wp_region_held_drew (S := fun w' => XS w.heap.size #[.int .i64 kd, .int .i64 fr, .int .i64 to, .int .i64 tm, .int .i64 ix, .int .i64 lt, .int .i64 cm, .bool ok, .slice oa n cl, .slice ob m cp, .string ⟨da.toArray⟩, .bool la] 27 w' ∧ XS t #[.int .i64 kd, .int .i64 fr, .int .i64 to, .int .i64 tm, .int .i64 ix, .int .i64 lt, .int .i64 cm] 59 w') (by kernel_rfl) (show _ ∧ _ from ⟨HS7.out.1.drew, HS7.out.2.drew⟩) (fun hHeld => ?_)
  refine wpAnyH_take (i := 0) (v := ?_) rfl (by kernel_rfl) (by kernel_rfl) (by kernel_rfl) (fun _ _ _ h => h) (Or.inl ⟨by rfl, ?_⟩) (by assumption) ?_; rotate_left
  · (intro wz hSw; (try dsimp only at hSw); have z10 := XS.cell hSw.1 (u := .string ⟨da.toArray⟩) 10 rfl; clear hSw; go_simp; first | done | with_reducible rfl)
  try simp only [Act.put, List.getElem_toArray, List.getElem_cons_zero, List.getElem_cons_succ, List.setIfInBounds_toArray, List.set_cons_zero, List.set_cons_succ]
  refine wpAnyH_take (i := 1) (v := ?_) rfl (by kernel_rfl) (by kernel_rfl) (by kernel_rfl) (fun _ _ _ h => h) (Or.inl ⟨by rfl, ?_⟩) (by assumption) ?_; rotate_left
  · (intro wz hSw; (try dsimp only at hSw); have z10 := XS.cell hSw.1 (u := .string ⟨da.toArray⟩) 10 rfl; clear hSw; go_simp; first | done | with_reducible rfl)
  try simp only [Act.put, List.getElem_toArray, List.getElem_cons_zero, List.getElem_cons_succ, List.setIfInBounds_toArray, List.set_cons_zero, List.set_cons_succ]
  refine wpAnyH_take (i := 2) (v := ?_) rfl (by kernel_rfl) (by kernel_rfl) (by kernel_rfl) (fun _ _ _ h => h) (Or.inl ⟨by rfl, ?_⟩) (by assumption) ?_; rotate_left
  · (intro wz hSw; (try dsimp only at hSw); have z10 := XS.cell hSw.1 (u := .string ⟨da.toArray⟩) 10 rfl; clear hSw; go_simp; first | done | with_reducible rfl)
  try simp only [Act.put, List.getElem_toArray, List.getElem_cons_zero, List.getElem_cons_succ, List.setIfInBounds_toArray, List.set_cons_zero, List.set_cons_succ]
  refine wpAnyH_take (i := 3) (v := ?_) rfl (by kernel_rfl) (by kernel_rfl) (by kernel_rfl) (fun _ _ _ h => h) (Or.inl ⟨by rfl, ?_⟩) (by assumption) ?_; rotate_left
  · (intro wz hSw; (try dsimp only at hSw); have z10 := XS.cell hSw.1 (u := .string ⟨da.toArray⟩) 10 rfl; clear hSw; go_simp; first | done | with_reducible rfl)
  try simp only [Act.put, List.getElem_toArray, List.getElem_cons_zero, List.getElem_cons_succ, List.setIfInBounds_toArray, List.set_cons_zero, List.set_cons_succ]
  refine wpAnyH_take (i := 4) (v := ?_) rfl (by kernel_rfl) (by kernel_rfl) (by kernel_rfl) (fun _ _ _ h => h) (Or.inl ⟨by rfl, ?_⟩) (by assumption) ?_; rotate_left
  · (intro wz hSw; (try dsimp only at hSw); have z10 := XS.cell hSw.1 (u := .string ⟨da.toArray⟩) 10 rfl; clear hSw; go_simp; first | done | with_reducible rfl)
  try simp only [Act.put, List.getElem_toArray, List.getElem_cons_zero, List.getElem_cons_succ, List.setIfInBounds_toArray, List.set_cons_zero, List.set_cons_succ]
  have HT7b := hide HT7.out.drew
  have HB7b := hide HB7.out.drew
  refine wpAnyH_ready (rs := [5]) (by kernel_rfl) (by simp) ?_
  refine AllReadyH.cons rfl (fun K hK => ?_) AllReadyH.nil
  rw [if_pos (by rfl)]
  go_simp
  go_at_call 46
  with_reducible refine (short_any14 W0.heap.size g M6 da (by omega) (by omega) _ HT7b.out).mono ?_
  rintro r x8 ⟨rfl, hT, hF⟩
  try go_simp
  refine hK.out _ _ ?_ (fun hHeld => ?_)
  · exact ⟨XS.tw hHeld.1 hF HNE.out (by decide), XS.tw hHeld.2 hF HNT.out (by decide)⟩
  clear hK K
  try simp only [Act.put, List.getElem_toArray, List.getElem_cons_zero, List.getElem_cons_succ, List.setIfInBounds_toArray, List.set_cons_zero, List.set_cons_succ]
  refine wpAnyH_done (by kernel_rfl) ?_ _
  have HT8 := hide hT
  have HB8 := hide (HB7b.out.trans hF.bel)
  have HS8 := hide hHeld
  clear hT hF hHeld HT7 HB7 HS7 HT7b HB7b
  go_wp2_with fail
  refine bodyPost_end (results_none rfl _ _ _) rfl ?_
  exact ⟨rfl, HT8.out, HB8.out⟩

end Go.Proofs.YtmllcomppjkhhaaGreatDoor

namespace Go.Proofs.YtmllcomppjkhhaaGreatDoor
open Go.RowKit P1 P3 P9 P11 P12 P18 K
set_option linter.unusedVariables false
set_option linter.unusedSimpArgs false

set_option maxRecDepth 100000 in
set_option maxHeartbeats 2000000 in
theorem implEncode_any (kd fr to tm ix lt cm : Int) (ok : Bool) (oa : Option Addr) (n cl : Nat) (ob : Option Addr) (m cp : Nat) (da : List UInt8) (la : Bool) (es : List EntV) (zs : List Int) (hd : da.length ≤ 1048576) (w : World) (ht : LimIs w) (hat : EntsAt w oa n cl es) (hbt : IntsAt w ob m cp zs) (hw : ∀ f ∈ es, f.data.size ≤ 1048576) (hn20 : n ≤ 1048576) (hm20 : m ≤ 1048576) :
    Calls Tryz.prog 6 #[(mgval kd fr to tm ix lt cm ok (.slice oa n cl) (.slice ob m cp) da la)] w fun e w' => e = .returned (mtV (msgText (⟨kd, fr, to, tm, ix, lt, cm, ok, es, zs, da, la⟩ : MsgV))) ∧ Below w.heap.size w w' := by
  have HOK := hide (fun w ht hat hbt => implMessageOk_any kd fr to tm ix lt cm ok oa n cl ob m cp da la es zs hd w ht hat hbt hw hn20 hm20)
  have HX0 := hide (XS.new w #[.int .i64 kd, .int .i64 fr, .int .i64 to, .int .i64 tm, .int .i64 ix, .int .i64 lt, .int .i64 cm, .bool ok, .slice oa n cl, .slice ob m cp, .string ⟨da.toArray⟩, .bool la] 27)
  have HB0 := hide ((Below.refl w.heap.size w).alloc (Nat.le_refl _) (.cells #[.int .i64 kd, .int .i64 fr, .int .i64 to, .int .i64 tm, .int .i64 ix, .int .i64 lt, .int .i64 cm, .bool ok, .slice oa n cl, .slice ob m cp, .string ⟨da.toArray⟩, .bool la] 27))
  have HAT := hide hat
  have HBT := hide hbt
  have HT := hide ht
  clear hat hbt ht
  obtain ⟨k0, k1, k2, k3, k4, k5, k6, k7, k8, k9, k10, k11⟩ := xs12 HX0.out
  unfold msgText
  cases cok : msgOk (⟨kd, fr, to, tm, ix, lt, cm, ok, es, zs, da, la⟩ : MsgV) with
  | false =>
    rw [cok] at HOK
    simp only [Bool.false_eq_true, if_false, mtV]
    go_enter Tryz.func6, Tryz.ntmps6
    go_wp2_with fail
    refine (HOK.out _ (HT.out.on HB0.out) (HAT.out.below HB0.out) (HBT.out.below HB0.out)).mono ?_
    rintro e w1 ⟨rfl, hb1⟩
    go_wp2_with fail
    go_ret2
    exact ⟨rfl, HB0.out.trans (hb1.mono HB0.out.size)⟩
  | true =>
    rw [cok] at HOK
    simp only [if_true, mtV]
    have HCM := hide (fun W0 g w hT hb hat hbt => message_any15 W0 g kd fr to tm ix lt cm ok oa n cl ob m cp da la es zs cok hw w hT hb hat hbt)
    clear cok
    generalize msgB (⟨kd, fr, to, tm, ix, lt, cm, ok, es, zs, da, la⟩ : MsgV) = k at HCM ⊢
    go_enter Tryz.func6, Tryz.ntmps6
    go_wp2_with fail
    refine (HOK.out _ (HT.out.on HB0.out) (HAT.out.below HB0.out) (HBT.out.below HB0.out)).mono ?_
    rintro e x1 ⟨rfl, hb1⟩
    have HX1 := hide (HX0.out.on hb1)
    have HB1 := hide (HB0.out.trans (hb1.mono HB0.out.size))
    clear hb1 HX0 HB0 k0 k1 k2 k3 k4 k5 k6 k7 k8 k9 k10 k11
    have HX2 := hide (HX1.out.alloc (.cells #[.slice none 0 0] 42))
    obtain ⟨k0, k1, k2, k3, k4, k5, k6, k7, k8, k9, k10, k11⟩ := xs12 HX2.out
    have HT2 := hide (Tw.new x1)
    have HB2 := hide (HB1.out.alloc HB1.out.size (.cells #[.slice none 0 0] 42))
    have hzl := HX1.out.lt
    go_wp2_with fail
    refine (HCM.out x1 x1.heap.size _ HT2.out ((Below.refl _ _).alloc (Nat.le_refl _) _) (HAT.out.below HB1.out) (HBT.out.below HB1.out)).mono ?_
    rintro e x3 ⟨rfl, hT3, hb3⟩
    have HB3 := hide (HB1.out.trans (hb3.mono HB1.out.size))
    clear k0 k1 k2 k3 k4 k5 k6 k7 k8 k9 k10 k11 hb3
    go_wp2_with fail
    refine (written_any14 _ _ _ _ hT3).mono ?_
    rintro e x4 ⟨rfl, rfl⟩
    go_wp2_with fail
    go_ret2
    exact ⟨rfl, HB3.out⟩

end Go.Proofs.YtmllcomppjkhhaaGreatDoor
