/-
  Walks and mathematics of Msg7.
-/
import Derived.Test.YtmllcomppjkhhaaDoorQbMsgW
import Derived.Test.YtmllcomppjkhhaaDoorQbMsg5
import Derived.Test.YtmllcomppjkhhaaDoorQbWalk5f
namespace Go.Proofs.YtmllcomppjkhhaaDoor.P18
end Go.Proofs.YtmllcomppjkhhaaDoor.P18
namespace Go.Proofs.YtmllcomppjkhhaaDoor.P3
end Go.Proofs.YtmllcomppjkhhaaDoor.P3
namespace Go.Proofs.YtmllcomppjkhhaaDoor
open Go.RowKit P1 P3 P9 P11 P12 P18 K
set_option linter.unusedVariables false
set_option linter.unusedSimpArgs false

set_option maxRecDepth 100000 in
set_option maxHeartbeats 2000000 in
theorem flag_any15 (base g : Nat) (l : List UInt8) (b : Bool) (hl : l.length ≤ 500000) (w : World) (hT : Tw base g l w) :
    Calls Tryd.prog 60 #[.pointer (some ⟨g, 0, none⟩), .bool b] w fun e w' => e = .returned (.tuple #[]) ∧ Tw base g (l ++ [flB b]) w' ∧ TwFr base g w w' := by
  have HT := hide hT
  clear hT
  cases b with
  | false =>
    have HAT := hide (ints_lit (W := w) (zs := [0]) (cs := #[.int .i64 0]) (ty := 3) rfl rfl (wf_one (z := 0) (by omega) (by omega)))
    go_enter Tryd.func60, Tryd.ntmps60
    go_wp2_with fail
    refine (oneBytes_any14 base g l (some ⟨w.heap.size, 0, none⟩) 1 1 [0] (by omega) (by intro z hz; simp at hz; omega) (by omega) _ (HT.out.alloc _) HAT.out).mono ?_
    rintro e w1 ⟨rfl, hT1, hF1⟩
    have hF := (TwFr.low HT.out.bsz ((Below.refl _ _).alloc (Nat.le_refl _) _)).trans hF1
    have HT1 := hide hT1
    have HF := hide hF
    clear hT1 hF1 hF
    go_wp2_with fail
    refine bodyPost_end (results_none rfl _ _ _) rfl ?_
    exact ⟨rfl, HT1.out, HF.out⟩
  | true =>
    have HAT := hide (ints_lit (W := w) (zs := [1]) (cs := #[.int .i64 1]) (ty := 3) rfl rfl (wf_one (z := 1) (by omega) (by omega)))
    go_enter Tryd.func60, Tryd.ntmps60
    go_wp2_with fail
    refine (oneBytes_any14 base g l (some ⟨w.heap.size, 0, none⟩) 1 1 [1] (by omega) (by intro z hz; simp at hz; omega) (by omega) _ (HT.out.alloc _) HAT.out).mono ?_
    rintro e w1 ⟨rfl, hT1, hF1⟩
    have hF := (TwFr.low HT.out.bsz ((Below.refl _ _).alloc (Nat.le_refl _) _)).trans hF1
    have HT1 := hide hT1
    have HF := hide hF
    clear hT1 hF1 hF
    go_wp2_with fail
    refine bodyPost_end (results_none rfl _ _ _) rfl ?_
    exact ⟨rfl, HT1.out, HF.out⟩

theorem entsT_take {es : List EntV} {j : Nat} {f : EntV} (h : es[j]? = some f) : entsT (es.take (j + 1)) = entsT (es.take j) ++ shortB (entT f) := by
  obtain ⟨hlt, he⟩ := List.getElem?_eq_some_iff.1 h
  rw [List.take_succ_eq_append_getElem hlt, he]
  simp [entsT]

set_option maxRecDepth 100000 in
set_option maxHeartbeats 4000000 in
theorem entries_any15 (W0 : World) (g : Nat) (l : List UInt8) (oa : Option Addr) (n cl : Nat) (es : List EntV) (hok : ∀ f ∈ es, f.ok = true) (hw : ∀ f ∈ es, f.data.size ≤ 1048576) (hn4 : n ≤ 4) (hl : l.length ≤ 100000) (w : World) (hT : Tw W0.heap.size g l w) (hb : Below W0.heap.size W0 w) (hat : EntsAt W0 oa n cl es) :
    Calls Tryd.prog 61 #[.pointer (some ⟨g, 0, none⟩), .slice oa n cl] w fun e w' => e = .returned (.tuple #[]) ∧ Tw W0.heap.size g (l ++ (varB n ++ entsT es)) w' ∧ TwFr W0.heap.size g w w' := by
  have hn := hat.len
  have HN := hide hn
  have HAT := hide hat
  have HB := hide hb
  have HT := hide hT
  have HOK := hide hok
  have HW := hide hw
  have hvl := var_len15 n
  have HI := hide (ints_lit (W := w) (zs := [(n : Int)]) (cs := #[.int .i64 (n : Int)]) (ty := 3) rfl rfl (wf_one (z := (n : Int)) (by omega) (by omega)))
  clear hn hat hb hT hok hw
  go_enter Tryd.func61, Tryd.ntmps61
  go_wp2_with fail
  refine (numbers_any14 W0.heap.size g l (some ⟨w.heap.size, 0, none⟩) 1 1 [(n : Int)] (by omega) (by intro z hz; simp at hz; omega) (by omega) _ (HT.out.alloc _) HI.out).mono ?_
  rintro e w1 ⟨rfl, hT1, hF1⟩
  have hv : l ++ [(n : Int)].flatMap varZ = l ++ varB n := by simp [varZ]
  rw [hv] at hT1
  have HT1 := hide hT1
  have HF1 := hide ((TwFr.low HT.out.bsz ((Below.refl _ _).alloc (Nat.le_refl _) (.cells #[.int .i64 (n : Int)] 3))).trans hF1)
  clear hT1 hF1 hv
  go_wp2_with fail
  go_loopw [17] (fun i wr => ∃ (j : Nat), i = .int .i64 (j : Int) ∧ j ≤ n ∧ Tw W0.heap.size g ((l ++ varB n) ++ entsT (es.take j)) wr ∧ TwFr W0.heap.size g w wr) (fun i _ => n - (intOf i).toNat)
  case atStart => exact ⟨0, rfl, Nat.zero_le _, by simpa [entsT] using HT1.out, HF1.out⟩
  case round =>
    obtain ⟨j, rfl, hj, hTj, hFj⟩ := hrel
    by_cases hlt : j < n
    · have j0 : (j : Int) < (n : Int) := by omega
      obtain ⟨f, b, q, hf, hidx, hbq, d0, d1, d2⟩ := (HAT.out.below (HB.out.trans hFj.bel)).get3 Tryd.underlying28 infoIE j hlt
      have hfm := List.mem_of_getElem? hf
      have hET := implEntryText_any 1 f (HW.out f hfm)
      have hyes : (f.ok && indexOk 1) = true := by rw [HOK.out f hfm]; rfl
      unfold eval at hET
      rw [etVal_yes hyes] at hET
      have hln := entT_len (HOK.out f hfm)
      have hbig := entsT_len (es.take j) (fun x hx => HOK.out x (List.mem_of_mem_take hx))
      rw [List.length_take, HN.out] at hbig
      have HLEN := hide (show ((l ++ varB n) ++ entsT (es.take j)).length ≤ 200000 by simp only [List.length_append]; omega)
      have HTK := hide (entsT_take hf)
      have HET := hide (show ∀ w, Calls Tryd.prog 74 #[.int .i64 1, .agg #[.int .i64 f.term, .int .i64 f.kind, .string f.data]] w fun e w' => e = .returned (.tuple #[.string ⟨(entT f).toArray⟩, .bool true]) ∧ Below w.heap.size w w' from hET)
      generalize hk : entT f = kf at HET hln HTK
      generalize hM : (l ++ varB n) ++ entsT (es.take j) = M at hTj HLEN
      have HTA := hide (hTj.alloc (.cells #[.int .i64 f.term, .int .i64 f.kind, .string f.data] 45))
      have HFA := hide (hFj.trans (TwFr.low hTj.bsz ((Below.refl _ _).alloc (Nat.le_refl _) (.cells #[.int .i64 f.term, .int .i64 f.kind, .string f.data] 45))))
      have HM := hide hM
      clear hf hfm hET hyes hbig hk hTj hFj hM
      go_wp2_with fail
      refine (HET.out _).mono ?_
      rintro e w2 ⟨rfl, hb2⟩
      have HT2 := hide (HTA.out.on hb2)
      have HF2 := hide (HFA.out.trans (TwFr.low HTA.out.bsz hb2))
      clear hb2 HTA HFA
      go_wp2_with fail
      refine (short_any14 W0.heap.size g M kf (by omega) (by have := HLEN.out; omega) _ HT2.out).mono ?_
      rintro e w3 ⟨rfl, hT3, hF3⟩
      have HT3 := hide hT3
      have HF3 := hide (HF2.out.trans hF3)
      clear hT3 hF3 HT2 HF2
      go_wp2_with fail
      go_roundw
      case rel =>
        refine ⟨j + 1, by go_num, by omega, ?_, HF3.out⟩
        rw [HTK.out, ← List.append_assoc, HM.out]
        exact HT3.out
      case measure => simp [intOf]; omega
    · have hjn : j = n := by omega
      subst hjn
      have HTj := hide hTj
      have HFj := hide hFj
      clear hTj hFj
      go_wp2_with fail
      refine bodyPost_end (results_none rfl _ _ _) rfl ?_
      refine ⟨rfl, ?_, HFj.out⟩
      have h := HTj.out
      rw [show es.take j = es from by rw [← HN.out]; exact List.take_length, List.append_assoc] at h
      exact h

theorem ints_arr {W : World} {t : Nat} {a b c d e f g : Int} {T : TypeId} (k : XS t #[.int .i64 a, .int .i64 b, .int .i64 c, .int .i64 d, .int .i64 e, .int .i64 f, .int .i64 g] T W) (hw : ∀ z ∈ [a, b, c, d, e, f, g], (Lit.int .i64 z).wf = true) :
    IntsAt W (some ⟨t, 0, none⟩) 3 7 [a, b, c] ∧ IntsAt W (some ⟨t, 3, none⟩) 4 4 [d, e, f, g] := by
  obtain ⟨k0, k1, k2, k3, k4, k5, k6⟩ := xs7 k
  refine ⟨⟨rfl, by omega, by unfold maxLen; omega, fun z hz => hw z (by simp at hz ⊢; rcases hz with h | h | h <;> simp [h]), fun i z hz => ⟨t, 0, rfl, ?_⟩⟩, ⟨rfl, by omega, by unfold maxLen; omega, fun z hz => hw z (by simp at hz ⊢; rcases hz with h | h | h | h <;> simp [h]), fun i z hz => ⟨t, 3, rfl, ?_⟩⟩⟩
  · have hi : i < 3 := (List.getElem?_eq_some_iff.1 hz).1
    rcases (show i = 0 ∨ i = 1 ∨ i = 2 by omega) with rfl | rfl | rfl <;> (cases hz; assumption)
  · have hi : i < 4 := (List.getElem?_eq_some_iff.1 hz).1
    rcases (show i = 0 ∨ i = 1 ∨ i = 2 ∨ i = 3 by omega) with rfl | rfl | rfl | rfl <;> (cases hz; assumption)

theorem msg_cat (kd fr to tm ix lt cm : Int) (ok : Bool) (oa : Option Addr) (n cl : Nat) (ob : Option Addr) (m cp : Nat) (da : List UInt8) (la : Bool) (es : List EntV) (zs : List Int) : (((((([] ++ [kd, fr, to].map byB) ++ [tm, ix, lt, cm].flatMap varZ) ++ [flB ok]) ++ [flB la]) ++ (varB es.length ++ entsT es)) ++ shortB (zs.map byB)) ++ shortB da = msgB (⟨kd, fr, to, tm, ix, lt, cm, ok, es, zs, da, la⟩ : MsgV) := by
  simp [msgB, tlB, confB]
  rfl

end Go.Proofs.YtmllcomppjkhhaaDoor
