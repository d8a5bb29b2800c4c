/-
  Walks and mathematics of Msg10.
-/
import Derived.Test.YtmllcomppjkhhaaGreatDoorRMsg9
import Derived.Test.YtmllcomppjkhhaaGreatDoorRMsg6
import Derived.Test.YtmllcomppjkhhaaGreatDoorRMtv
import Derived.Test.YtmllcomppjkhhaaGreatDoorRWalk5f
import Derived.Test.YtmllcomppjkhhaaGreatDoorRWalk5b
import Derived.Test.YtmllcomppjkhhaaGreatDoorRWalk1b
namespace Go.Proofs.YtmllcomppjkhhaaGreatDoor.P18
end Go.Proofs.YtmllcomppjkhhaaGreatDoor.P18
namespace Go.Proofs.YtmllcomppjkhhaaGreatDoor.P3
end Go.Proofs.YtmllcomppjkhhaaGreatDoor.P3
namespace Go.Proofs.YtmllcomppjkhhaaGreatDoor
open Go.RowKit P1 P3 P9 P11 P12 P18 K
set_option linter.unusedVariables false
set_option linter.unusedSimpArgs false

theorem add_fact15 (P : Program) (a b : List UInt8) (h : a.length + b.length ≤ 1048576) (wx : World) : (Op.stringOp .add ⟨a.toArray⟩ ⟨b.toArray⟩).run P wx = .ok (.string ⟨(a ++ b).toArray⟩) wx := by
  rw [← cat_two8]
  exact run_string_add_sum _ _ _ (by rw [size_mk8, size_mk8]; omega)

theorem var15 (z : Int) (h : 0 ≤ z ∧ z ≤ 1000000) (w : World) : Calls Tryz.prog 59 #[.int .i64 z] w fun e w' => e = .returned (.string ⟨(varZ z).toArray⟩) ∧ Below w.heap.size w w' := by
  have q := l01Var_any z.toNat (by omega) w
  rw [Int.toNat_of_nonneg h.1] at q
  exact q

theorem flag15 (b : Bool) (w : World) : Calls Tryz.prog 60 #[.bool b] w fun e w' => e = .returned (.string ⟨[flB b].toArray⟩) ∧ Below w.heap.size w w' := by
  cases b with
  | false =>
    go_enter Tryz.func60, Tryz.ntmps60
    go_wp2_with fail
    go_ret
    exact ⟨rfl, Below.refl _ _⟩
  | true =>
    go_enter Tryz.func60, Tryz.ntmps60
    go_wp2_with fail
    go_ret
    exact ⟨rfl, Below.refl _ _⟩

theorem entsT_take15 {es : List EntV} {j : Nat} {f : EntV} (h : es[j]? = some f) : entsT (es.take (j + 1)) = entsT (es.take j) ++ shortB (entT f) := by
  obtain ⟨hlt, he⟩ := List.getElem?_eq_some_iff.1 h
  rw [List.take_succ_eq_append_getElem hlt, he]
  simp [entsT]

theorem msg_cat15 (kd fr to tm ix lt cm : Int) (ok : Bool) (oa : Option Addr) (n cl : Nat) (ob : Option Addr) (m cp : Nat) (da : List UInt8) (la : Bool) (es : List EntV) (zs : List Int) (hn : es.length = n) : ((((((((([byB kd, byB fr, byB to] ++ (varZ tm)) ++ (varZ ix)) ++ (varZ lt)) ++ (varZ cm)) ++ [flB ok]) ++ [flB la]) ++ (varB n)) ++ entsT es) ++ shortB (confB zs)) ++ shortB da = msgB (⟨kd, fr, to, tm, ix, lt, cm, ok, es, zs, da, la⟩ : MsgV) := by
  subst hn
  simp [msgB, tlB]

theorem conf_text15 {zs : List Int} (h : zs = [] ∨ confOk zs = true) : ∃ b, ctVal zs = .tuple #[.string ⟨(confB zs).toArray⟩, .bool b] := by
  cases hc : confOk zs with
  | false =>
    rcases h with rfl | h
    · exact ⟨_, ctVal_no hc⟩
    · rw [hc] at h; cases h
  | true => exact ⟨_, ctVal_yes hc⟩

set_option maxRecDepth 100000 in
set_option maxHeartbeats 8000000 in
theorem specEncode_any (kd fr to tm ix lt cm : Int) (ok : Bool) (oa : Option Addr) (n cl : Nat) (ob : Option Addr) (m cp : Nat) (da : List UInt8) (la : Bool) (es : List EntV) (zs : List Int) (hd : da.length ≤ 1048576) (w : World) (hat : EntsAt w oa n cl es) (hbt : IntsAt w ob m cp zs) (hw : ∀ f ∈ es, f.data.size ≤ 1048576) (hn20 : n ≤ 1048576) (hm20 : m ≤ 1048576) :
    Calls Tryz.prog 29 #[(mgval kd fr to tm ix lt cm ok (.slice oa n cl) (.slice ob m cp) da la)] w fun e w' => e = .returned (mtV (msgText (⟨kd, fr, to, tm, ix, lt, cm, ok, es, zs, da, la⟩ : MsgV))) ∧ Below w.heap.size w w' := by
  have HOK := hide (fun w hat hbt => specMessageOk_any kd fr to tm ix lt cm ok oa n cl ob m cp da la es zs hd w hat hbt hw hn20 hm20)
  have HX0 := hide (XS.new w #[.int .i64 kd, .int .i64 fr, .int .i64 to, .int .i64 tm, .int .i64 ix, .int .i64 lt, .int .i64 cm, .bool ok, .slice oa n cl, .slice ob m cp, .string ⟨da.toArray⟩, .bool la] 27)
  have HB0 := hide ((Below.refl w.heap.size w).alloc (Nat.le_refl _) (.cells #[.int .i64 kd, .int .i64 fr, .int .i64 to, .int .i64 tm, .int .i64 ix, .int .i64 lt, .int .i64 cm, .bool ok, .slice oa n cl, .slice ob m cp, .string ⟨da.toArray⟩, .bool la] 27))
  have hn := hat.len
  have HAT := hide hat
  have HBT := hide hbt
  clear hat hbt
  obtain ⟨k0, k1, k2, k3, k4, k5, k6, k7, k8, k9, k10, k11⟩ := xs12 HX0.out
  unfold msgText
  cases cok : msgOk (⟨kd, fr, to, tm, ix, lt, cm, ok, es, zs, da, la⟩ : MsgV) with
  | false =>
    rw [cok] at HOK
    simp only [Bool.false_eq_true, if_false, mtV]
    go_enter Tryz.func29, Tryz.ntmps29
    go_wp2_with fail
    refine (HOK.out _ (HAT.out.below HB0.out) (HBT.out.below HB0.out)).mono ?_
    rintro e w1 ⟨rfl, hb1⟩
    go_wp2_with fail
    go_ret2
    exact ⟨rfl, HB0.out.trans (hb1.mono HB0.out.size)⟩
  | true =>
    rw [cok] at HOK
    simp only [if_true, mtV]
    obtain ⟨i1, i2, i3, i4, i5, i6, i7, i8, i9, i10⟩ := msg_in cok
    simp only at i1 i2 i3 i4 i5 i6 i7 i8 i9 i10
    have hn4 := i8.1
    rw [hn] at hn4
    have HES := hide i8.2
    have HW := hide hw
    rw [← msg_cat15 kd fr to tm ix lt cm ok oa n cl ob m cp da la es zs hn]
    obtain ⟨cb, hcb⟩ := conf_text15 i9
    have HCT := hide (fun w hbt => specConfText_any ob m cp zs w hbt)
    rw [hcb] at HCT
    have hel := entsT_len es i8.2
    rw [hn] at hel
    have hcl : (confB zs).length ≤ 4 := by rw [confB_length]; rcases i9 with h | h; · rw [h]; simp
                                           · exact (confOk_len h).2
    have v1 := var_len15 tm.toNat
    have v2 := var_len15 ix.toNat
    have v3 := var_len15 lt.toNat
    have v4 := var_len15 cm.toNat
    have v5 := var_len15 n
    have hsc := (shortB_length (confB zs)).1
    have hsd := (shortB_length da).1
    have HLT := hide (show ∀ j, (entsT (es.take j)).length ≤ 880 from fun j => by
      have := entsT_len (es.take j) (fun x hx => HES.out x (List.mem_of_mem_take hx))
      rw [List.length_take, hn] at this
      omega)
    have HHL := hide (show ((((((([byB kd, byB fr, byB to] ++ (varZ tm)) ++ (varZ ix)) ++ (varZ lt)) ++ (varZ cm)) ++ [flB ok]) ++ [flB la]) ++ (varB n)).length ≤ 80 by simp only [List.length_append, List.length_cons, List.length_nil, varZ]; omega)
    have f1 := add_fact15 Tryz.prog [byB kd, byB fr, byB to] (varZ tm) (by simp only [List.length_append, List.length_cons, List.length_nil, varZ]; omega)
    have f2 := add_fact15 Tryz.prog ([byB kd, byB fr, byB to] ++ (varZ tm)) (varZ ix) (by simp only [List.length_append, List.length_cons, List.length_nil, varZ]; omega)
    have f3 := add_fact15 Tryz.prog (([byB kd, byB fr, byB to] ++ (varZ tm)) ++ (varZ ix)) (varZ lt) (by simp only [List.length_append, List.length_cons, List.length_nil, varZ]; omega)
    have f4 := add_fact15 Tryz.prog ((([byB kd, byB fr, byB to] ++ (varZ tm)) ++ (varZ ix)) ++ (varZ lt)) (varZ cm) (by simp only [List.length_append, List.length_cons, List.length_nil, varZ]; omega)
    have f5 := add_fact15 Tryz.prog (((([byB kd, byB fr, byB to] ++ (varZ tm)) ++ (varZ ix)) ++ (varZ lt)) ++ (varZ cm)) [flB ok] (by simp only [List.length_append, List.length_cons, List.length_nil, varZ]; omega)
    have f6 := add_fact15 Tryz.prog ((((([byB kd, byB fr, byB to] ++ (varZ tm)) ++ (varZ ix)) ++ (varZ lt)) ++ (varZ cm)) ++ [flB ok]) [flB la] (by simp only [List.length_append, List.length_cons, List.length_nil, varZ]; omega)
    have f7 := add_fact15 Tryz.prog (((((([byB kd, byB fr, byB to] ++ (varZ tm)) ++ (varZ ix)) ++ (varZ lt)) ++ (varZ cm)) ++ [flB ok]) ++ [flB la]) (varB n) (by simp only [List.length_append, List.length_cons, List.length_nil, varZ]; omega)
    have HC1 := hide (var15 tm (by omega))
    have HC2 := hide (var15 ix (by omega))
    have HC3 := hide (var15 lt (by omega))
    have HC4 := hide (var15 cm (by omega))
    have HC5 := hide (flag15 ok)
    have HC6 := hide (flag15 la)
    have HC7 := hide (var15 (n : Int) (by omega))
    have e7 : varZ (n : Int) = varB n := by simp [varZ]
    rw [e7] at HC7
    have HK := hide (show IntKind.u8.wrap kd = kd by rw [IntKind.wrap_u8]; omega)
    have HF := hide (show IntKind.u8.wrap fr = fr by rw [IntKind.wrap_u8]; omega)
    have HTO := hide (show IntKind.u8.wrap to = to by rw [IntKind.wrap_u8]; omega)
    have hrow : (#[.int .u8 kd, .int .u8 fr, .int .u8 to] : Array Value).toList = B8 [byB kd, byB fr, byB to] := by
      have q1 := bz_byB (z := kd) (by omega)
      have q2 := bz_byB (z := fr) (by omega)
      have q3 := bz_byB (z := to) (by omega)
      unfold bz at q1 q2 q3
      simp [B8, q1, q2, q3]
    have HROW := hide hrow
    obtain ⟨X0, hX0⟩ : ∃ X : ByteArray, X = ⟨[byB kd, byB fr, byB to].toArray⟩ := ⟨_, rfl⟩
    have HX0b := hide hX0
    rw [← hX0] at f1
    obtain ⟨X1, hX1⟩ : ∃ X : ByteArray, X = ⟨(varZ tm).toArray⟩ := ⟨_, rfl⟩
    obtain ⟨Y1, hY1⟩ : ∃ X : ByteArray, X = ⟨([byB kd, byB fr, byB to] ++ (varZ tm)).toArray⟩ := ⟨_, rfl⟩
    rw [← hX1, ← hY1] at f1
    rw [← hY1] at f2
    rw [← hX1] at HC1
    obtain ⟨X2, hX2⟩ : ∃ X : ByteArray, X = ⟨(varZ ix).toArray⟩ := ⟨_, rfl⟩
    obtain ⟨Y2, hY2⟩ : ∃ X : ByteArray, X = ⟨(([byB kd, byB fr, byB to] ++ (varZ tm)) ++ (varZ ix)).toArray⟩ := ⟨_, rfl⟩
    rw [← hX2, ← hY2] at f2
    rw [← hY2] at f3
    rw [← hX2] at HC2
    obtain ⟨X3, hX3⟩ : ∃ X : ByteArray, X = ⟨(varZ lt).toArray⟩ := ⟨_, rfl⟩
    obtain ⟨Y3, hY3⟩ : ∃ X : ByteArray, X = ⟨((([byB kd, byB fr, byB to] ++ (varZ tm)) ++ (varZ ix)) ++ (varZ lt)).toArray⟩ := ⟨_, rfl⟩
    rw [← hX3, ← hY3] at f3
    rw [← hY3] at f4
    rw [← hX3] at HC3
    obtain ⟨X4, hX4⟩ : ∃ X : ByteArray, X = ⟨(varZ cm).toArray⟩ := ⟨_, rfl⟩
    obtain ⟨Y4, hY4⟩ : ∃ X : ByteArray, X = ⟨(((([byB kd, byB fr, byB to] ++ (varZ tm)) ++ (varZ ix)) ++ (varZ lt)) ++ (varZ cm)).toArray⟩ := ⟨_, rfl⟩
    rw [← hX4, ← hY4] at f4
    rw [← hY4] at f5
    rw [← hX4] at HC4
    obtain ⟨X5, hX5⟩ : ∃ X : ByteArray, X = ⟨[flB ok].toArray⟩ := ⟨_, rfl⟩
    obtain ⟨Y5, hY5⟩ : ∃ X : ByteArray, X = ⟨((((([byB kd, byB fr, byB to] ++ (varZ tm)) ++ (varZ ix)) ++ (varZ lt)) ++ (varZ cm)) ++ [flB ok]).toArray⟩ := ⟨_, rfl⟩
    rw [← hX5, ← hY5] at f5
    rw [← hY5] at f6
    rw [← hX5] at HC5
    obtain ⟨X6, hX6⟩ : ∃ X : ByteArray, X = ⟨[flB la].toArray⟩ := ⟨_, rfl⟩
    obtain ⟨Y6, hY6⟩ : ∃ X : ByteArray, X = ⟨(((((([byB kd, byB fr, byB to] ++ (varZ tm)) ++ (varZ ix)) ++ (varZ lt)) ++ (varZ cm)) ++ [flB ok]) ++ [flB la]).toArray⟩ := ⟨_, rfl⟩
    rw [← hX6, ← hY6] at f6
    rw [← hY6] at f7
    rw [← hX6] at HC6
    obtain ⟨X7, hX7⟩ : ∃ X : ByteArray, X = ⟨(varB n).toArray⟩ := ⟨_, rfl⟩
    obtain ⟨Y7, hY7⟩ : ∃ X : ByteArray, X = ⟨((((((([byB kd, byB fr, byB to] ++ (varZ tm)) ++ (varZ ix)) ++ (varZ lt)) ++ (varZ cm)) ++ [flB ok]) ++ [flB la]) ++ (varB n)).toArray⟩ := ⟨_, rfl⟩
    rw [← hX7, ← hY7] at f7
    rw [← hX7] at HC7
    have HF1 := hide f1
    have HF2 := hide f2
    have HF3 := hide f3
    have HF4 := hide f4
    have HF5 := hide f5
    have HF6 := hide f6
    have HF7 := hide f7
    have HY7 := hide hY7
    obtain ⟨H0, hH0⟩ : ∃ H, ((((((([byB kd, byB fr, byB to] ++ (varZ tm)) ++ (varZ ix)) ++ (varZ lt)) ++ (varZ cm)) ++ [flB ok]) ++ [flB la]) ++ (varB n)) = H := ⟨_, rfl⟩
    rw [hH0] at HY7 HHL ⊢
    obtain ⟨R2, hR2⟩ : ∃ S' : ByteArray, (⟨(((H0 ++ entsT es) ++ shortB (confB zs)) ++ shortB da).toArray⟩ : ByteArray) = S' := ⟨_, rfl⟩
    rw [hR2]
    have HR2 := hide hR2
    clear hR2
    have hhl := HHL.out
    clear f1 f2 f3 f4 f5 f6 f7 hX0 hX1 hY1 hX2 hY2 hX3 hY3 hX4 hY4 hX5 hY5 hX6 hY6 hX7 hY7 hrow e7 hH0 v1 v2 v3 v4 v5 cok hcb i1 i2 i3 i4 i5 i6 i7 i8 i9 hw
    have hn6 : n ≤ 1000000 := by omega
    go_enter Tryz.func29, Tryz.ntmps29
    go_wp2_with fail
    refine (HOK.out _ (HAT.out.below HB0.out) (HBT.out.below HB0.out)).mono ?_
    rintro e x1 ⟨rfl, hb1⟩
    have HX1 := hide (HX0.out.on hb1)
    have HB1 := hide (HB0.out.trans (hb1.mono HB0.out.size))
    clear hb1 HX0 HB0 HOK k0 k1 k2 k3 k4 k5 k6 k7 k8 k9 k10 k11
    go_upto_region 3 with fail
    refine enc_region (R := w.heap.size) (kd := kd) (fr := fr) (to := to) (tm := tm) (ix := ix) (lt := lt) (cm := cm) (ok := ok) (la := la) (oa := oa) (n := n) (cl := cl) (xc := .slice ob m cp) (da := ⟨da.toArray⟩) (by kernel_rfl) (by kernel_rfl) (by kernel_rfl) (by kernel_rfl) (by kernel_rfl) (by kernel_rfl) (by kernel_rfl) (by simp [Act.put]) rfl HK HF HTO hn6 HROW.out HX0b HF1.out HF2.out HF3.out HF4.out HF5.out HF6.out HF7.out HC1 HC2 HC3 HC4 HC5 HC6 HC7 ?_ ?_
    · intro wz hz; exact xs12 (HX1.out.on hz)
    · intro V x2 hall hpt hb2
      obtain ⟨v0, g0⟩ := hall 0 (by omega)
      obtain rfl : v0 = _ := hpt 0 v0 _ g0 rfl
      obtain ⟨v1, g1⟩ := hall 1 (by omega)
      obtain rfl : v1 = _ := hpt 1 v1 _ g1 rfl
      obtain ⟨v2, g2⟩ := hall 2 (by omega)
      obtain rfl : v2 = _ := hpt 2 v2 _ g2 rfl
      obtain ⟨v3, g3⟩ := hall 3 (by omega)
      obtain rfl : v3 = _ := hpt 3 v3 _ g3 rfl
      obtain ⟨v4, g4⟩ := hall 4 (by omega)
      obtain rfl : v4 = _ := hpt 4 v4 _ g4 rfl
      obtain ⟨v5, g5⟩ := hall 5 (by omega)
      obtain rfl : v5 = _ := hpt 5 v5 _ g5 rfl
      obtain ⟨v6, g6⟩ := hall 6 (by omega)
      obtain rfl : v6 = _ := hpt 6 v6 _ g6 rfl
      obtain ⟨v7, g7⟩ := hall 7 (by omega)
      obtain rfl : v7 = _ := hpt 7 v7 _ g7 rfl
      obtain ⟨v8, g8⟩ := hall 8 (by omega)
      obtain rfl : v8 = _ := hpt 8 v8 _ g8 rfl
      obtain ⟨v9, g9⟩ := hall 9 (by omega)
      obtain ⟨v10, g10⟩ := hall 10 (by omega)
      obtain rfl : v10 = _ := hpt 10 v10 _ g10 rfl
      obtain ⟨v11, g11⟩ := hall 11 (by omega)
      obtain rfl : v11 = _ := hpt 11 v11 _ g11 rfl
      obtain ⟨v12, g12⟩ := hall 12 (by omega)
      obtain rfl : v12 = _ := hpt 12 v12 _ g12 rfl
      obtain ⟨v13, g13⟩ := hall 13 (by omega)
      obtain rfl : v13 = _ := hpt 13 v13 _ g13 rfl
      obtain ⟨v14, g14⟩ := hall 14 (by omega)
      obtain rfl : v14 = _ := hpt 14 v14 _ g14 rfl
      obtain ⟨v15, g15⟩ := hall 15 (by omega)
      obtain rfl : v15 = _ := hpt 15 v15 _ g15 rfl
      obtain ⟨v16, g16⟩ := hall 16 (by omega)
      obtain rfl : v16 = _ := hpt 16 v16 _ g16 rfl
      obtain ⟨v17, g17⟩ := hall 17 (by omega)
      obtain rfl : v17 = _ := hpt 17 v17 _ g17 rfl
      obtain ⟨v18, g18⟩ := hall 18 (by omega)
      obtain rfl : v18 = _ := hpt 18 v18 _ g18 rfl
      obtain ⟨v19, g19⟩ := hall 19 (by omega)
      obtain rfl : v19 = _ := hpt 19 v19 _ g19 rfl
      obtain ⟨v20, g20⟩ := hall 20 (by omega)
      obtain rfl : v20 = _ := hpt 20 v20 _ g20 rfl
      obtain ⟨v21, g21⟩ := hall 21 (by omega)
      obtain rfl : v21 = _ := hpt 21 v21 _ g21 rfl
      obtain ⟨v22, g22⟩ := hall 22 (by omega)
      obtain rfl : v22 = _ := hpt 22 v22 _ g22 rfl
      obtain ⟨v23, g23⟩ := hall 23 (by omega)
      obtain rfl : v23 = _ := hpt 23 v23 _ g23 rfl
      obtain ⟨v24, g24⟩ := hall 24 (by omega)
      obtain rfl : v24 = _ := hpt 24 v24 _ g24 rfl
      obtain ⟨v25, g25⟩ := hall 25 (by omega)
      obtain rfl : v25 = _ := hpt 25 v25 _ g25 rfl
      obtain ⟨v26, g26⟩ := hall 26 (by omega)
      obtain rfl : v26 = _ := hpt 26 v26 _ g26 rfl
      obtain ⟨v27, g27⟩ := hall 27 (by omega)
      obtain rfl : v27 = _ := hpt 27 v27 _ g27 rfl
      obtain ⟨v28, g28⟩ := hall 28 (by omega)
      obtain rfl : v28 = _ := hpt 28 v28 _ g28 rfl
      obtain ⟨v29, g29⟩ := hall 29 (by omega)
      obtain rfl : v29 = _ := hpt 29 v29 _ g29 rfl
      obtain ⟨v30, g30⟩ := hall 30 (by omega)
      obtain rfl : v30 = _ := hpt 30 v30 _ g30 rfl
      obtain ⟨v31, g31⟩ := hall 31 (by omega)
      obtain rfl : v31 = _ := hpt 31 v31 _ g31 rfl
      obtain ⟨v32, g32⟩ := hall 32 (by omega)
      obtain rfl : v32 = _ := hpt 32 v32 _ g32 rfl
      obtain ⟨v33, g33⟩ := hall 33 (by omega)
      obtain rfl : v33 = _ := hpt 33 v33 _ g33 rfl
      obtain ⟨v34, g34⟩ := hall 34 (by omega)
      obtain rfl : v34 = _ := hpt 34 v34 _ g34 rfl
      obtain ⟨v35, g35⟩ := hall 35 (by omega)
      obtain rfl : v35 = _ := hpt 35 v35 _ g35 rfl
      obtain ⟨v36, g36⟩ := hall 36 (by omega)
      obtain rfl : v36 = _ := hpt 36 v36 _ g36 rfl
      obtain ⟨v37, g37⟩ := hall 37 (by omega)
      obtain rfl : v37 = _ := hpt 37 v37 _ g37 rfl
      obtain ⟨v38, g38⟩ := hall 38 (by omega)
      obtain rfl : v38 = _ := hpt 38 v38 _ g38 rfl
      obtain ⟨v39, g39⟩ := hall 39 (by omega)
      obtain rfl : v39 = _ := hpt 39 v39 _ g39 rfl
      obtain ⟨v40, g40⟩ := hall 40 (by omega)
      obtain rfl : v40 = _ := hpt 40 v40 _ g40 rfl
      simp only [actG, List.size_toArray, List.length_cons, List.length_nil, List.getElem?_toArray, List.getElem?_cons_zero, List.getElem?_cons_succ, g0, g1, g2, g3, g4, g5, g6, g7, g8, g9, g10, g11, g12, g13, g14, g15, g16, g17, g18, g19, g20, g21, g22, g23, g24, g25, g26, g27, g28, g29, g30, g31, g32, g33, g34, g35, g36, g37, g38, g39, g40, Act.put, List.setIfInBounds_toArray, List.set_cons_zero, List.set_cons_succ]
      clear g0 g1 g2 g3 g4 g5 g6 g7 g8 g9 g10 g11 g12 g13 g14 g15 g16 g17 g18 g19 g20 g21 g22 g23 g24 g25 g26 g27 g28 g29 g30 g31 g32 g33 g34 g35 g36 g37 g38 g39 g40 hall hpt
      have HX2 := hide (HX1.out.on hb2)
      have HB2 := hide (HB1.out.trans (hb2.mono HB1.out.size))
      clear hb2 HX1 HB1 HC1 HC2 HC3 HC4 HC5 HC6 HC7 HF1 HF2 HF3 HF4 HF5 HF6 HF7 HK HF HTO HROW HX0b
      go_wp2_with fail
      go_loopw [5, 4] (fun i s wr => ∃ (j : Nat) (S : ByteArray), i = .int .i64 (j : Int) ∧ j ≤ n ∧ s = .string S ∧ S = ⟨(H0 ++ entsT (es.take j)).toArray⟩ ∧ XS w.heap.size #[.int .i64 kd, .int .i64 fr, .int .i64 to, .int .i64 tm, .int .i64 ix, .int .i64 lt, .int .i64 cm, .bool ok, .slice oa n cl, .slice ob m cp, .string ⟨da.toArray⟩, .bool la] 27 wr ∧ Below w.heap.size w wr) (fun i _ _ => n - (intOf i).toNat)
      case atStart => exact ⟨0, _, rfl, Nat.zero_le _, rfl, by simpa [entsT] using HY7.out, HX2.out, HB2.out⟩
      case round =>
        obtain ⟨j, S, rfl, hj, rfl, hS, hx, hbel⟩ := hrel
        have HS := hide hS
        have HX := hide hx
        have HBL := hide hbel
        obtain ⟨k0, k1, k2, k3, k4, k5, k6, k7, k8, k9, k10, k11⟩ := xs12 hx
        by_cases hlt : j < n
        · have j0 : (j : Int) < (n : Int) := by omega
          obtain ⟨f, b, q, hf, hidx, hbq, d0, d1, d2⟩ := (HAT.out.below hbel).get3 Tryz.underlying24 infoIE j hlt
          have hfm := List.mem_of_getElem? hf
          have hET := specEntryText_any 1 f (HW.out f hfm)
          have hyes : (f.ok && indexOk 1) = true := by rw [HES.out f hfm]; rfl
          unfold eval at hET
          rw [etVal_yes hyes] at hET
          have HET := hide (show ∀ w, Calls Tryz.prog 61 #[.int .i64 1, .agg #[.int .i64 f.term, .int .i64 f.kind, .string f.data]] w fun e w' => e = .returned (.tuple #[.string ⟨(entT f).toArray⟩, .bool true]) ∧ Below w.heap.size w w' from hET)
          have hln := entT_len (HES.out f hfm)
          have HSH := hide (l05Short_any (entT f) (by omega))
          have hsl := (shortB_length (entT f)).1
          have hadd := add_fact15 Tryz.prog (H0 ++ entsT (es.take j)) (shortB (entT f)) (by have := HLT.out j; rw [List.length_append]; omega)
          rw [List.append_assoc, ← entsT_take15 hf, ← HS.out] at hadd
          obtain ⟨S', hS'⟩ : ∃ S' : ByteArray, (⟨(H0 ++ entsT (es.take (j + 1))).toArray⟩ : ByteArray) = S' := ⟨_, rfl⟩
          rw [hS'] at hadd
          have HS' := hide hS'
          generalize (⟨(shortB (entT f)).toArray⟩ : ByteArray) = XS' at HSH hadd
          generalize (⟨(entT f).toArray⟩ : ByteArray) = XT at HSH HET
          clear hf hfm hET hyes hln hsl hS' hS hx hbel
          go_wp2_with fail
          refine (HET.out _).mono ?_
          rintro e y1 ⟨rfl, hy1⟩
          have HXa := hide (HX.out.on hy1)
          have HBa := hide (HBL.out.trans (hy1.mono HBL.out.size))
          clear hy1 HX HBL k0 k1 k2 k3 k4 k5 k6 k7 k8 k9 k10 k11
          go_wp2_with fail
          refine (HSH.out _).mono ?_
          rintro e y2 ⟨rfl, hy2⟩
          have HXb := hide (HXa.out.on hy2)
          have HBb := hide (HBa.out.trans (hy2.mono HBa.out.size))
          clear hy2 HXa HBa
          go_wp2_with fail
          go_roundw
          case rel => exact ⟨j + 1, S', by go_num, by omega, rfl, HS'.out.symm, HXb.out, HBb.out⟩
          case measure => simp [intOf]; omega
        · have hjn : j = n := by omega
          subst hjn
          rw [show es.take j = es from by rw [← hn]; exact List.take_length] at HS
          have h1 := add_fact15 Tryz.prog (H0 ++ entsT es) (shortB (confB zs)) (by rw [List.length_append]; omega)
          have h2 := add_fact15 Tryz.prog ((H0 ++ entsT es) ++ shortB (confB zs)) (shortB da) (by rw [List.length_append, List.length_append]; omega)
          rw [← HS.out] at h1
          have HSC := hide (l05Short_any (confB zs) (by omega))
          have HSD := hide (l05Short_any da (by omega))
          rw [HR2.out] at h2
          generalize (⟨((H0 ++ entsT es) ++ shortB (confB zs)).toArray⟩ : ByteArray) = R1 at h1 h2
          generalize (⟨(shortB (confB zs)).toArray⟩ : ByteArray) = Z1 at h1 HSC
          generalize (⟨(shortB da).toArray⟩ : ByteArray) = Z2 at h2 HSD
          generalize (⟨(confB zs).toArray⟩ : ByteArray) = Z0 at HSC HCT
          clear hS hx
          go_wp2_with fail
          refine (HCT.out _ (HBT.out.below HBL.out)).mono ?_
          rintro e y1 ⟨rfl, hy1⟩
          have HXa := hide (HX.out.on hy1)
          have HBa := hide (HBL.out.trans (hy1.mono HBL.out.size))
          clear hy1 HX HBL hbel k0 k1 k2 k3 k4 k5 k6 k7 k8 k9 k10 k11
          go_wp2_with fail
          refine wp_region_in (F := fun w' => Below y1.heap.size y1 w') (by kernel_rfl) (by kernel_rfl) (Below.refl _ _).drew ?_
          have hne : Nonempty (InW (fun w' => Below y1.heap.size y1 w')) := ⟨⟨_, Below.refl _ _⟩⟩
          have k10 := fun m : InW (fun w' => Below y1.heap.size y1 w') => (HXa.out.on m.h).cell 10 (u := .string ⟨da.toArray⟩) rfl
          repeat (go_big_quiet_step (first
            | (go_at_call 62; (with_reducible refine (HSC.out _).mono ?_); rintro e w3 ⟨rfl, hb3⟩; exact ⟨rfl, ⟨w3, inw_more15s _ hb3⟩, rfl⟩)
            | (go_at_call 62; (with_reducible refine (HSD.out _).mono ?_); rintro e w3 ⟨rfl, hb3⟩; exact ⟨rfl, ⟨w3, inw_more15s _ hb3⟩, rfl⟩)))
          refine wpQuiet_nil ?_
          intro _ hw'
          obtain ⟨nq, hw''⟩ := hw'
          subst hw''
          have hb4 := below_from15s HBa.out nq
          clear hne k10
          generalize nq.w = w5 at hb4 ⊢
          go_wp2_with fail
          go_ret2
          exact ⟨rfl, hb4⟩

end Go.Proofs.YtmllcomppjkhhaaGreatDoor
