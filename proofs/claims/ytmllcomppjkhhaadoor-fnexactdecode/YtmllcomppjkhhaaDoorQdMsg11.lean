/-
  Walks and mathematics of Msg11.
-/
import Derived.Test.YtmllcomppjkhhaaDoorQdMsg3
import Derived.Test.YtmllcomppjkhhaaDoorQdMsg1
import Derived.Test.YtmllcomppjkhhaaDoorQdWalk9k
import Derived.Test.YtmllcomppjkhhaaDoorQdWalk5k
import Derived.Test.YtmllcomppjkhhaaDoorQdWalk5b
import Derived.Deep.Cut
namespace Go.Proofs.YtmllcomppjkhhaaDoor.P18
end Go.Proofs.YtmllcomppjkhhaaDoor.P18
namespace Go.Proofs.YtmllcomppjkhhaaDoor.P3
end Go.Proofs.YtmllcomppjkhhaaDoor.P3
namespace Go.Proofs.YtmllcomppjkhhaaDoor
open Go.RowKit P1 P3 P9 P11 P12 P18 K
set_option linter.unusedVariables false
set_option linter.unusedSimpArgs false

theorem wpList_push15 {P : Program} {W0 : World} {ops : Array Oper} {rest : List Oper} {o : Oper} {a : Act} {Q : Exit → Act → World → Prop} (hgd : o.guard = none) (s x : Operand) (t : TypeId)
    (ho : o.op = .call { callee := .builtin .append, args := #[s, x], argTypes := #[t, t] })
    {base k : Nat} (hk0 : 0 < k) {e : TypeId} {z : Value} {bytes : Nat} (ht : P.underlying t = some (.slice e)) (hi : (P.info? e).map (fun i => (i.zero, i.size, i.bytes)) = some (some z, k, bytes)) (hzs : z.cells.size = k)
    {v : Value} {n : Nat} {xs : List Value} (hs : a.eval s = v) (hown : W0.ownsRow base e k v n xs)
    {cs : Array Value} (hx : a.eval x = .slice (some ⟨W0.heap.size, 0, none⟩) 1 1) (hm : cs.toList.length = k) (hu : ∀ u ∈ cs.toList, u.oneCell' = true)
    (hbase : base ≤ W0.heap.size) (h63 : n + 1 ≤ maxLen) (hbytes : (n + 1) * bytes ≤ 140737488355328)
    (h : ∀ v' w', w'.ownsRow base e k v' (n + 1) (xs ++ cs.toList) → W0.grownBy w' v.ownBlock → wpList P ops Q rest (a.put o.dst v') w') : wpList P ops Q (o :: rest) a (W0.alloc (.cells cs e)) := by
  obtain ⟨i, hi, hz, h1, h2⟩ := info_parts hi
  refine wpList_append_own _ hgd s x t ho base e i z k bytes ht hi hz h1 h2 hzs hk0 v n xs hs (hown.alloc _) ⟨W0.heap.size, 0, none⟩ 1 1 cs.toList hx (by rw [hm]; omega) (World.news_of_block (heap_alloc_new W0 _)) hu h63 hbytes (by simp; omega) ?_
  intro v' w' hown' hgrow _
  refine h v' w' hown' ⟨hgrow.os, hgrow.tape, hgrow.output, ?_, ?_⟩
  · have := hgrow.size; simp at this; omega
  · intro q hq hne
    rw [hgrow.block q (by simp; omega) hne]
    exact Below.heap_alloc W0 _ q hq

set_option maxHeartbeats 2000000 in
theorem need_any (g : Nat) (s : ByteArray) (r : Lf) (ok : Bool) (w : World) (h : FRL w g s r) :
    Calls Tryd.prog 78 #[.pointer (some ⟨g, 0, none⟩), .bool ok] w fun e w' => e = .returned (.tuple #[]) ∧ FRL w' g s (if ok = true then r else none) ∧ w.grownBy w' (some g) := by
  have hgl := h.lt
  obtain ⟨p, ⟨hp, ty, hblk⟩, rfl⟩ := h
  obtain ⟨c0, c1, z1⟩ := fr_cells hblk
  have HB := hide hblk
  have HP := hide hp
  clear hblk hp
  generalize hx : plI p = x at HB c1
  have HX := hide hx
  clear hx
  cases ok with
  | false =>
    have HGT := hide (fun w h => goTo_no (ty := ty) g s x x w h)
    go_enter Tryd.func78, Tryd.ntmps78
    go_wp2_with fail
    go_region_law (rw [if_pos (by rfl)]; go_simp; go_at_call 83; refine (HGT.out _ (by exact HB.out)).mono ?_; rintro e w2 ⟨rfl, hb2, hg2⟩)
    all_goals
      refine bodyPost_end (results_none rfl _ _ _) rfl ?_
      exact ⟨rfl, by simpa using FRL.off hb2, grown_trans (grown_drewN (grown_below (row := some g) (Below.refl _ w)) 1) hg2⟩
  | true =>
    have HGT := hide (fun w h => goTo_yes (ty := ty) g s x x w h)
    go_enter Tryd.func78, Tryd.ntmps78
    go_wp2_with fail
    go_region_law (rw [if_pos (by rfl)]; go_simp; go_at_call 83; refine (HGT.out _ (by exact HB.out)).mono ?_; rintro e w2 ⟨rfl, hb2, hg2⟩)
    all_goals
      refine bodyPost_end (results_none rfl _ _ _) rfl ?_
      refine ⟨rfl, ?_, grown_trans (grown_drewN (grown_below (row := some g) (Below.refl _ w)) 1) hg2⟩
      simp only [if_true]
      exact ⟨p, ⟨HP.out, ty, by rw [HX.out]; exact hb2⟩, rfl⟩

theorem grown_low15 {a b c : World} {r : Option Nat} (h : a.grownBy b r) (k : Below a.heap.size b c) : a.grownBy c r :=
  ⟨k.os.trans h.os, k.tape.trans h.tape, k.output.trans h.output, Nat.le_trans h.size k.size, fun i hi hne => (k.block i hi).trans (h.block i hi hne)⟩

theorem shL_len15 {most : Nat} : ∀ (st : Lf), (shL most st).1.length ≤ most
  | none => Nat.zero_le _
  | some l => by
    unfold shL
    simp only
    split
    · split
      · assumption
      · exact Nat.zero_le _
    · exact Nat.zero_le _

set_option maxHeartbeats 1000000 in
theorem count_any15 (g : Nat) (s : ByteArray) (hs : s.size ≤ 1048576) (r : Lf) (most : Nat) (hm : most ≤ 1000) (w : World) (h : FRL w g s r) :
    Calls Tryd.prog 79 #[.pointer (some ⟨g, 0, none⟩), .int .i64 (most : Int)] w fun e w' => e = .returned (.int .i64 ((countI most r).1 : Int)) ∧ FRL w' g s (countI most r).2 ∧ w.grownBy w' (some g) := by
  have HN := hide (number_any g s hs r w h)
  have HND := hide (fun r w h => need_any g s r false w h)
  have hle := numL_le r
  clear h
  unfold countI
  obtain ⟨n, r1, hr⟩ : ∃ n r1, numL r = (n, r1) := ⟨_, _, rfl⟩
  rw [hr] at HN hle ⊢
  simp only at HN hle ⊢
  clear hr
  by_cases c : n > most
  · rw [if_pos c]
    have c1 : (n : Int) > (most : Int) := by omega
    go_enter Tryd.func79, Tryd.ntmps79
    go_wp2_with fail
    refine HN.out.mono ?_
    rintro e w1 ⟨rfl, hc1, hg1⟩
    have HC1 := hide hc1
    have HG1 := hide hg1
    clear hc1 hg1
    go_wp2_with fail
    refine (HND.out r1 _ HC1.out).mono ?_
    rintro e w2 ⟨rfl, hc2, hg2⟩
    have HC2 := hide hc2
    have HG2 := hide (grown_trans HG1.out hg2)
    clear hc2 hg2
    go_wp2_with fail
    go_ret
    exact ⟨rfl, by simpa using HC2.out, HG2.out⟩
  · rw [if_neg c]
    have c1 : ¬ (n : Int) > (most : Int) := by omega
    go_enter Tryd.func79, Tryd.ntmps79
    go_wp2_with fail
    refine HN.out.mono ?_
    rintro e w1 ⟨rfl, hc1, hg1⟩
    have HC1 := hide hc1
    have HG1 := hide hg1
    clear hc1 hg1
    go_wp2_with fail
    go_ret
    exact ⟨rfl, HC1.out, HG1.out⟩

set_option maxHeartbeats 2000000 in
theorem flagR_any15 (g : Nat) (s : ByteArray) (hs : s.size ≤ 1048576) (r : Lf) (w : World) (h : FRL w g s r) :
    Calls Tryd.prog 67 #[.pointer (some ⟨g, 0, none⟩)] w fun e w' => e = .returned (.bool (flagI r).1) ∧ FRL w' g s (flagI r).2 ∧ w.grownBy w' (some g) := by
  have HN := hide (oneByte_any g s hs r w h)
  have HND := hide (fun r b w h => need_any g s r b w h)
  clear h
  unfold flagI
  obtain ⟨n, r1, hr⟩ : ∃ n r1, byteL r = (n, r1) := ⟨_, _, rfl⟩
  rw [hr] at HN ⊢
  simp only at HN ⊢
  clear hr
  by_cases c0 : n = 0
  · subst c0
    simp only [Nat.zero_le, if_true]
    go_enter Tryd.func67, Tryd.ntmps67
    go_wp2_with fail
    refine HN.out.mono ?_
    rintro e w1 ⟨rfl, hc1, hg1⟩
    have HC1 := hide hc1
    have HG1 := hide hg1
    clear hc1 hg1
    go_wp2_with fail
    refine (HND.out r1 true _ HC1.out).mono ?_
    rintro e w2 ⟨rfl, hc2, hg2⟩
    have HC2 := hide hc2
    have HG2 := hide (grown_trans HG1.out hg2)
    clear hc2 hg2
    go_wp2_with fail
    go_ret
    exact ⟨by first | rfl | simp | (simp; omega), by simpa using HC2.out, HG2.out⟩
  · by_cases c1 : n = 1
    · subst c1
      simp only [Nat.le_refl, if_true]
      go_enter Tryd.func67, Tryd.ntmps67
      go_wp2_with fail
      refine HN.out.mono ?_
      rintro e w1 ⟨rfl, hc1, hg1⟩
      have HC1 := hide hc1
      have HG1 := hide hg1
      clear hc1 hg1
      go_wp2_with fail
      refine (HND.out r1 true _ HC1.out).mono ?_
      rintro e w2 ⟨rfl, hc2, hg2⟩
      have HC2 := hide hc2
      have HG2 := hide (grown_trans HG1.out hg2)
      clear hc2 hg2
      go_wp2_with fail
      go_ret
      exact ⟨by first | rfl | simp | (simp; omega), by simpa using HC2.out, HG2.out⟩
    · have b0 : ((n : Int) == 0) = false := by simp; omega
      have b1 : ((n : Int) == 1) = false := by simp; omega
      rw [if_neg (by omega), decide_eq_false c1]
      go_enter Tryd.func67, Tryd.ntmps67
      go_wp2_with fail
      refine HN.out.mono ?_
      rintro e w1 ⟨rfl, hc1, hg1⟩
      have HC1 := hide hc1
      have HG1 := hide hg1
      clear hc1 hg1
      go_wp2_with fail
      refine (HND.out r1 false _ HC1.out).mono ?_
      rintro e w2 ⟨rfl, hc2, hg2⟩
      have HC2 := hide hc2
      have HG2 := hide (grown_trans HG1.out hg2)
      clear hc2 hg2
      go_wp2_with fail
      go_ret
      exact ⟨by first | rfl | simp | (simp; omega), by simpa using HC2.out, HG2.out⟩

theorem reVal_reE (l : List UInt8) : reVal (rdEntry l) = .tuple #[.int .i64 ((reE l).1 : Int), .agg #[.int .i64 (reE l).2.1.term, .int .i64 (reE l).2.1.kind, .string (reE l).2.1.data], .bool (reE l).2.2] := by
  unfold reE
  cases rdEntry l with
  | none => rfl
  | some p => rfl

theorem reE_small (l : List UInt8) : (reE l).2.1.data.size ≤ 120 := by
  unfold reE
  cases h : rdEntry l with
  | none => exact Nat.zero_le _
  | some p =>
    obtain ⟨i, t, k, d⟩ := p
    have h3 := (rdEntry_some h).2.2
    unfold entryOk at h3
    simp only [Bool.and_eq_true] at h3
    exact (contOk_len h3.1).1

theorem itE_small : ∀ (j : Nat) (r : Lf), ∀ e ∈ (itE j r).1, e.data.size ≤ 120
  | 0, _, e, he => by simp [itE] at he
  | j + 1, r, e, he => by
    simp only [itE, List.mem_append, List.mem_singleton] at he
    rcases he with he | rfl
    · exact itE_small j r e he
    · exact reE_small _

set_option maxRecDepth 100000 in
set_option maxHeartbeats 8000000 in
theorem entriesR_any15 (g : Nat) (s : ByteArray) (hs : s.size ≤ 1048576) (r : Lf) (w : World) (h : FRL w g s r) :
    Calls Tryd.prog 68 #[.pointer (some ⟨g, 0, none⟩)] w fun e w' => ∃ v, e = .returned v ∧ FRL w' g s (entriesI r).2 ∧ w'.ownsRow w.heap.size 45 3 v (entriesI r).1.length ((entriesI r).1.flatMap ecells) ∧ w.grownBy w' (some g) := by
  have hgl := h.lt
  have HN := hide (count_any15 g s hs r 4 (by omega) w h)
  have HND := hide (fun r b w h => need_any g s r b w h)
  have HSH := hide (fun r w h => short_any g s hs r w h)
  have hc4 : (countI 4 r).1 ≤ 4 := by unfold countI; split <;> omega
  unfold entriesI
  rw [itE_len]
  obtain ⟨c, r0, hr⟩ : ∃ c r0, countI 4 r = (c, r0) := ⟨_, _, rfl⟩
  rw [hr] at HN hc4 ⊢
  simp only at HN hc4 ⊢
  clear hr h
  go_enter Tryd.func68, Tryd.ntmps68
  go_wp2_with fail
  refine HN.out.mono ?_
  rintro e w1 ⟨rfl, hc1, hg1⟩
  have HC1 := hide hc1
  have HG1 := hide hg1
  clear hc1 hg1
  go_wp2_with fail
  go_loopw [11, 3] (fun i l wr => ∃ (j : Nat) (v : Value), i = .int .i64 (j : Int) ∧ l = v ∧ j ≤ c ∧ FRL wr g s (itE j r0).2 ∧ wr.ownsRow w.heap.size 45 3 v j ((itE j r0).1.flatMap ecells) ∧ w.grownBy wr (some g)) (fun i _ _ => c - (intOf i).toNat)
  case atStart => exact ⟨0, .slice none 0 0, rfl, rfl, Nat.zero_le _, HC1.out, World.ownsRow_nil _ _ _ _, HG1.out⟩
  case round =>
    obtain ⟨j, v, rfl, rfl, hj, hfr, hown, hgr⟩ := hrel
    obtain ⟨oa, cap, hv⟩ := row_form hown
    subst hv
    by_cases hlt : j < c
    · have j0 : (j : Int) < (c : Int) := by omega
      have hS := HSH.out _ wr hfr
      have hxl := shL_len15 (most := 20000) (itE j r0).2
      have hent : entI (itE j r0).2 = ((reE (shL 20000 (itE j r0).2).1).2.1, if (reE (shL 20000 (itE j r0).2).1).2.2 = true ∧ (reE (shL 20000 (itE j r0).2).1).1 = 1 then (shL 20000 (itE j r0).2).2 else none) := rfl
      obtain ⟨l, r2, hsh⟩ : ∃ l r2, shL 20000 (itE j r0).2 = (l, r2) := ⟨_, _, rfl⟩
      rw [hsh] at hS hxl hent
      simp only at hS hxl hent
      have hRE := fun w => implReadEntry_any ⟨l.toArray⟩ (by rw [size_mk8]; omega) w
      rw [bl_mk8, reVal_reE] at hRE
      obtain ⟨x, E, okb, hre⟩ : ∃ x E okb, reE l = (x, E, okb) := ⟨_, _, _, rfl⟩
      rw [hre] at hRE hent
      obtain ⟨et, ek, ed⟩ := E
      simp only at hRE hent
      have HS := hide hS
      have HRE := hide hRE
      have HEN := hide hent
      have HO := hide hown
      have HG := hide hgr
      clear hS hRE hent hsh hre hown hgr hfr
      go_wp2_with fail
      refine HS.out.mono ?_
      rintro e y1 ⟨rfl, hc2, hg2⟩
      have HCa := hide hc2
      have HOa := hide (HO.out.kept hg2 (Or.inr (fun q => by have := HO.out.lt g q; omega)))
      have HGa := hide (grown_trans HG.out hg2)
      clear hc2 hg2 HO HG
      go_wp2_with fail
      refine (HRE.out _).mono ?_
      rintro e y2 ⟨rfl, hb2⟩
      have HCb := hide (HCa.out.kept (hb2.block g HCa.out.lt))
      have HOb := hide (own_below HOa.out hb2)
      have HGb := hide (grown_low15 HGa.out (hb2.mono HGa.out.size))
      clear hb2 HCa HOa HGa
      have HXc := hide (XS.new y2 #[.int .i64 et, .int .i64 ek, .string ed] 45)
      have hnb := (Below.refl y2.heap.size y2).alloc (Nat.le_refl _) (.cells #[.int .i64 et, .int .i64 ek, .string ed] 45)
      have HCc := hide (HCb.out.kept (hnb.block g HCb.out.lt))
      have HOc := hide (own_below HOb.out hnb)
      have HGc := hide (grown_low15 HGb.out (hnb.mono HGb.out.size))
      have hgy := HCb.out.lt
      have hwy := HGb.out.size
      clear hnb HCb HOb HGb
      cases okb with
      | false =>
        go_wp2_with fail
        refine (HND.out r2 false _ HCc.out).mono ?_
        rintro e y3 ⟨rfl, hc3, hg3⟩
        have HCd := hide hc3
        have HOd := hide (HOc.out.kept hg3 (Or.inr (fun q => by have := HOc.out.lt g q; omega)))
        have HGd := hide (grown_trans HGc.out hg3)
        have HXd := hide (HXc.out.kept hg3 (fun q => by have := Option.some.inj q; omega))
        have e0 := HXd.out.cell 0 (u := .int .i64 et) rfl
        have e1 := HXd.out.cell 1 (u := .int .i64 ek) rfl
        have e2 := HXd.out.cell 2 (u := .string ed) rfl
        clear hc3 hg3 HOc HGc HXc HCc
        go_wp2_with (at_builtin; refine wpList_push15 (cs := #[.int .i64 et, .int .i64 ek, .string ed]) rfl _ _ 28 rfl (by decide) Tryd.underlying28 infoIEz rfl rfl HOd.out rfl rfl (by simp [Value.oneCell']) HGd.out.size (by unfold maxLen; omega) (by omega) ?_; intro v5 y5 ho5 hg5)
        have HGe := hide (grown_low15 HGd.out ((Below.refl _ _).grown hg5 HGd.out.size (fun q hq => (HOd.out.lt q hq).1)))
        have HCe := hide (HCd.out.kept (hg5.block g (Nat.lt_of_lt_of_le hgl HGd.out.size) (fun q => by have := HOd.out.lt g q.symm; omega)))
        have HOe := hide ho5
        clear ho5 hg5 HOd HGd HCd HXd e0 e1 e2
        go_roundw
        case rel =>
          refine ⟨j + 1, v5, by go_num, rfl, by omega, ?_, ?_, HGe.out⟩
          · simp only [itE]
            rw [HEN.out]
            simpa using HCe.out
          · simp only [itE, List.flatMap_append, List.flatMap_cons, List.flatMap_nil, List.append_nil]
            rw [HEN.out]
            exact HOe.out
        case measure => simp [intOf]; omega
      | true =>
        by_cases cx : x = 1
        · subst cx
          go_wp2_with fail
          refine (HND.out r2 true _ HCc.out).mono ?_
          rintro e y3 ⟨rfl, hc3, hg3⟩
          have HCd := hide hc3
          have HOd := hide (HOc.out.kept hg3 (Or.inr (fun q => by have := HOc.out.lt g q; omega)))
          have HGd := hide (grown_trans HGc.out hg3)
          have HXd := hide (HXc.out.kept hg3 (fun q => by have := Option.some.inj q; omega))
          have e0 := HXd.out.cell 0 (u := .int .i64 et) rfl
          have e1 := HXd.out.cell 1 (u := .int .i64 ek) rfl
          have e2 := HXd.out.cell 2 (u := .string ed) rfl
          clear hc3 hg3 HOc HGc HXc HCc
          go_wp2_with (at_builtin; refine wpList_push15 (cs := #[.int .i64 et, .int .i64 ek, .string ed]) rfl _ _ 28 rfl (by decide) Tryd.underlying28 infoIEz rfl rfl HOd.out rfl rfl (by simp [Value.oneCell']) HGd.out.size (by unfold maxLen; omega) (by omega) ?_; intro v5 y5 ho5 hg5)
          have HGe := hide (grown_low15 HGd.out ((Below.refl _ _).grown hg5 HGd.out.size (fun q hq => (HOd.out.lt q hq).1)))
          have HCe := hide (HCd.out.kept (hg5.block g (Nat.lt_of_lt_of_le hgl HGd.out.size) (fun q => by have := HOd.out.lt g q.symm; omega)))
          have HOe := hide ho5
          clear ho5 hg5 HOd HGd HCd HXd e0 e1 e2
          go_roundw
          case rel =>
            refine ⟨j + 1, v5, by go_num, rfl, by omega, ?_, ?_, HGe.out⟩
            · simp only [itE]
              rw [HEN.out]
              simpa using HCe.out
            · simp only [itE, List.flatMap_append, List.flatMap_cons, List.flatMap_nil, List.append_nil]
              rw [HEN.out]
              exact HOe.out
          case measure => simp [intOf]; omega
        · have gx : ((x : Int) == 1) = false := by simp; omega
          go_wp2_with fail
          refine (HND.out r2 false _ HCc.out).mono ?_
          rintro e y3 ⟨rfl, hc3, hg3⟩
          have HCd := hide hc3
          have HOd := hide (HOc.out.kept hg3 (Or.inr (fun q => by have := HOc.out.lt g q; omega)))
          have HGd := hide (grown_trans HGc.out hg3)
          have HXd := hide (HXc.out.kept hg3 (fun q => by have := Option.some.inj q; omega))
          have e0 := HXd.out.cell 0 (u := .int .i64 et) rfl
          have e1 := HXd.out.cell 1 (u := .int .i64 ek) rfl
          have e2 := HXd.out.cell 2 (u := .string ed) rfl
          clear hc3 hg3 HOc HGc HXc HCc
          go_wp2_with (at_builtin; refine wpList_push15 (cs := #[.int .i64 et, .int .i64 ek, .string ed]) rfl _ _ 28 rfl (by decide) Tryd.underlying28 infoIEz rfl rfl HOd.out rfl rfl (by simp [Value.oneCell']) HGd.out.size (by unfold maxLen; omega) (by omega) ?_; intro v5 y5 ho5 hg5)
          have HGe := hide (grown_low15 HGd.out ((Below.refl _ _).grown hg5 HGd.out.size (fun q hq => (HOd.out.lt q hq).1)))
          have HCe := hide (HCd.out.kept (hg5.block g (Nat.lt_of_lt_of_le hgl HGd.out.size) (fun q => by have := HOd.out.lt g q.symm; omega)))
          have HOe := hide ho5
          clear ho5 hg5 HOd HGd HCd HXd e0 e1 e2
          go_roundw
          case rel =>
            refine ⟨j + 1, v5, by go_num, rfl, by omega, ?_, ?_, HGe.out⟩
            · simp only [itE]
              rw [HEN.out]
              simpa [cx] using HCe.out
            · simp only [itE, List.flatMap_append, List.flatMap_cons, List.flatMap_nil, List.append_nil]
              rw [HEN.out]
              exact HOe.out
          case measure => simp [intOf]; omega
    · have hjn : j = c := by omega
      subst hjn
      have HF := hide hfr
      have HO := hide hown
      have HG := hide hgr
      clear hfr hown hgr
      go_wp2_with fail
      go_ret
      exact ⟨_, rfl, HF.out, HO.out, HG.out⟩

set_option maxHeartbeats 4000000 in
theorem confR_any15 (g : Nat) (s : ByteArray) (hs : s.size ≤ 1048576) (r : Lf) (w : World) (h : FRL w g s r) :
    Calls Tryd.prog 69 #[.pointer (some ⟨g, 0, none⟩)] w fun e w' => ∃ v, e = .returned v ∧ FRL w' g s (confI r).2 ∧ w'.ownsRow w.heap.size 3 1 v (confI r).1.length ((confI r).1.map icell) ∧ w.grownBy w' (some g) := by
  have hgl := h.lt
  have HS := hide (short_any g s hs r w h)
  have HND := hide (fun r b w h => need_any g s r b w h)
  have hxl := shL_len15 (most := 20000) r
  unfold confI
  obtain ⟨l, r2, hsh⟩ : ∃ l r2, shL 20000 r = (l, r2) := ⟨_, _, rfl⟩
  rw [hsh] at HS hxl ⊢
  simp only at HS hxl ⊢
  clear hsh h
  by_cases c0 : l = []
  · subst c0
    rw [if_pos rfl]
    go_enter Tryd.func69, Tryd.ntmps69
    go_wp2_with fail
    refine HS.out.mono ?_
    rintro e w1 ⟨rfl, hc1, hg1⟩
    have HC1 := hide hc1
    have HG1 := hide hg1
    clear hc1 hg1
    go_wp2_with fail
    go_ret
    exact ⟨_, rfl, HC1.out, World.ownsRow_nil _ _ _ _, HG1.out⟩
  · rw [if_neg c0]
    have ge : l.isEmpty = false := by
      cases l with
      | nil => exact absurd rfl c0
      | cons _ _ => rfl
    have HRC := hide (fun w => implReadConf_any ⟨l.toArray⟩ (by rw [size_mk8]; omega) w)
    rw [bl_mk8] at HRC
    cases hc : confOk (confZ l) with
    | false =>
      rw [rdConf_no hc] at HRC
      rw [if_neg (by simp)]
      go_enter Tryd.func69, Tryd.ntmps69
      go_wp2_with fail
      refine HS.out.mono ?_
      rintro e w1 ⟨rfl, hc1, hg1⟩
      have HC1 := hide hc1
      have HG1 := hide hg1
      have hs1 := hg1.size
      clear hc1 hg1
      go_wp2_with fail
      refine (HRC.out _).mono ?_
      rintro e w2 ⟨gg, cap, rfl, ho2, hb2⟩
      have HC2 := hide (HC1.out.kept (hb2.block g HC1.out.lt))
      have HG2 := hide (grown_low15 HG1.out (hb2.mono hs1))
      have HO2 := hide ho2
      have hlg := HC1.out.lt
      clear ho2 hb2 HC1 HG1
      go_wp2_with fail
      refine (HND.out r2 false _ HC2.out).mono ?_
      rintro e w3 ⟨rfl, hc3, hg3⟩
      have HC3 := hide hc3
      have HO3 := hide (HO2.out.kept hg3 (Or.inr (fun q => by have := HO2.out.lt g q; omega)))
      have HG3 := hide (grown_trans HG2.out hg3)
      clear hc3 hg3 HO2 HG2 HC2
      go_wp2_with fail
      go_ret
      exact ⟨_, rfl, by simpa using HC3.out, own_base HO3.out hs1, HG3.out⟩
    | true =>
      rw [rdConf_yes hc] at HRC
      rw [if_pos rfl]
      go_enter Tryd.func69, Tryd.ntmps69
      go_wp2_with fail
      refine HS.out.mono ?_
      rintro e w1 ⟨rfl, hc1, hg1⟩
      have HC1 := hide hc1
      have HG1 := hide hg1
      have hs1 := hg1.size
      clear hc1 hg1
      go_wp2_with fail
      refine (HRC.out _).mono ?_
      rintro e w2 ⟨gg, cap, rfl, ho2, hb2⟩
      have HC2 := hide (HC1.out.kept (hb2.block g HC1.out.lt))
      have HG2 := hide (grown_low15 HG1.out (hb2.mono hs1))
      have HO2 := hide ho2
      have hlg := HC1.out.lt
      clear ho2 hb2 HC1 HG1
      go_wp2_with fail
      refine (HND.out r2 true _ HC2.out).mono ?_
      rintro e w3 ⟨rfl, hc3, hg3⟩
      have HC3 := hide hc3
      have HO3 := hide (HO2.out.kept hg3 (Or.inr (fun q => by have := HO2.out.lt g q; omega)))
      have HG3 := hide (grown_trans HG2.out hg3)
      clear hc3 hg3 HO2 HG2 HC2
      go_wp2_with fail
      go_ret
      exact ⟨_, rfl, by simpa using HC3.out, own_base HO3.out hs1, HG3.out⟩

def tolA (k f t tm ix lt cm : Int) (j : Nat) : Array Value := #[.int .i64 (if 0 < j then k else 0), .int .i64 (if 1 < j then f else 0), .int .i64 (if 2 < j then t else 0), .int .i64 (if 3 < j then tm else 0), .int .i64 (if 4 < j then ix else 0), .int .i64 (if 5 < j then lt else 0), .int .i64 (if 6 < j then cm else 0)]

def tolV (k f t tm ix lt cm : Int) : Nat → Int
  | 0 => k
  | 1 => f
  | 2 => t
  | 3 => tm
  | 4 => ix
  | 5 => lt
  | _ => cm

def tolR (r r1 r2 r3 r4 r5 r6 r7 : Lf) : Nat → Lf
  | 0 => r
  | 1 => r1
  | 2 => r2
  | 3 => r3
  | 4 => r4
  | 5 => r5
  | 6 => r6
  | _ => r7

theorem tolA_at (k f t tm ix lt cm : Int) (j : Nat) (h : j < 7) : (tolA k f t tm ix lt cm j)[j]? = some (.int .i64 0) ∧ (tolA k f t tm ix lt cm j).setIfInBounds j (.int .i64 (tolV k f t tm ix lt cm j)) = tolA k f t tm ix lt cm (j + 1) := by
  rcases (show j = 0 ∨ j = 1 ∨ j = 2 ∨ j = 3 ∨ j = 4 ∨ j = 5 ∨ j = 6 by omega) with rfl | rfl | rfl | rfl | rfl | rfl | rfl <;> exact ⟨rfl, rfl⟩

structure TdS (w : World) (g : Nat) (s : ByteArray) (cs : Array Value) (r : Lf) (w' : World) : Prop where
  x : XS (w.heap.size + 1) cs 50 w'
  z : XS w.heap.size #[.int .i64 0, .int .i64 0, .int .i64 0, .int .i64 0, .int .i64 0, .int .i64 0, .int .i64 0] 50 w'
  c : FRL w' g s r
  gr : w.grownBy w' (some g)

set_option maxRecDepth 100000 in
set_option maxHeartbeats 4000000 in
theorem told_any15 (g : Nat) (s : ByteArray) (hs : s.size ≤ 1048576) (r : Lf) {k f t tm ix lt cm : Nat} {r1 r2 r3 r4 r5 r6 r7 : Lf} (h1 : byteL r = (k, r1)) (h2 : byteL r1 = (f, r2)) (h3 : byteL r2 = (t, r3)) (h4 : numL r3 = (tm, r4)) (h5 : numL r4 = (ix, r5)) (h6 : numL r5 = (lt, r6)) (h7 : numL r6 = (cm, r7)) (w : World) (h : FRL w g s r) :
    Calls Tryd.prog 65 #[.pointer (some ⟨g, 0, none⟩)] w fun e w' => e = .returned (nv7 k f t tm ix lt cm) ∧ FRL w' g s r7 ∧ w.grownBy w' (some g) := by
  have hgl := h.lt
  have HB := hide (show ∀ j, j < 3 → ∀ w, FRL w g s (tolR r r1 r2 r3 r4 r5 r6 r7 j) → Calls Tryd.prog 76 #[.pointer (some ⟨g, 0, none⟩)] w fun e w' => e = .returned (.int .i64 (tolV k f t tm ix lt cm j)) ∧ FRL w' g s (tolR r r1 r2 r3 r4 r5 r6 r7 (j + 1)) ∧ w.grownBy w' (some g) from fun j hj w hf => by
    rcases (show j = 0 ∨ j = 1 ∨ j = 2 by omega) with rfl | rfl | rfl
    · have q := oneByte_any g s hs r w hf; rw [h1] at q; exact q
    · have q := oneByte_any g s hs r1 w hf; rw [h2] at q; exact q
    · have q := oneByte_any g s hs r2 w hf; rw [h3] at q; exact q)
  have HN := hide (show ∀ j, 3 ≤ j → j < 7 → ∀ w, FRL w g s (tolR r r1 r2 r3 r4 r5 r6 r7 j) → Calls Tryd.prog 77 #[.pointer (some ⟨g, 0, none⟩)] w fun e w' => e = .returned (.int .i64 (tolV k f t tm ix lt cm j)) ∧ FRL w' g s (tolR r r1 r2 r3 r4 r5 r6 r7 (j + 1)) ∧ w.grownBy w' (some g) from fun j hj hj7 w hf => by
    rcases (show j = 3 ∨ j = 4 ∨ j = 5 ∨ j = 6 by omega) with rfl | rfl | rfl | rfl
    · have q := number_any g s hs r3 w hf; rw [h4] at q; exact q
    · have q := number_any g s hs r4 w hf; rw [h5] at q; exact q
    · have q := number_any g s hs r5 w hf; rw [h6] at q; exact q
    · have q := number_any g s hs r6 w hf; rw [h7] at q; exact q)
  have H0 := hide (show TdS w g s (tolA k f t tm ix lt cm 0) (tolR r r1 r2 r3 r4 r5 r6 r7 0) ((w.alloc (.cells #[.int .i64 0, .int .i64 0, .int .i64 0, .int .i64 0, .int .i64 0, .int .i64 0, .int .i64 0] 50)).alloc (.cells #[.int .i64 0, .int .i64 0, .int .i64 0, .int .i64 0, .int .i64 0, .int .i64 0, .int .i64 0] 50)) by
    have k1 := (Below.refl w.heap.size w).alloc (Nat.le_refl _) (.cells #[.int .i64 0, .int .i64 0, .int .i64 0, .int .i64 0, .int .i64 0, .int .i64 0, .int .i64 0] 50)
    have k2 := k1.alloc (by simp) (.cells #[.int .i64 0, .int .i64 0, .int .i64 0, .int .i64 0, .int .i64 0, .int .i64 0, .int .i64 0] 50)
    have e2 := XS.new (w.alloc (.cells #[.int .i64 0, .int .i64 0, .int .i64 0, .int .i64 0, .int .i64 0, .int .i64 0, .int .i64 0] 50)) #[.int .i64 0, .int .i64 0, .int .i64 0, .int .i64 0, .int .i64 0, .int .i64 0, .int .i64 0] 50
    rw [World.size_alloc] at e2
    exact ⟨e2, (XS.new w _ _).alloc _, h.kept (k2.block g hgl), grown_below k2⟩)
  clear h h1 h2 h3 h4 h5 h6 h7
  go_enter Tryd.func65, Tryd.ntmps65
  go_wp2_with fail
  generalize (w.alloc (.cells #[.int .i64 0, .int .i64 0, .int .i64 0, .int .i64 0, .int .i64 0, .int .i64 0, .int .i64 0] 50)).alloc (.cells #[.int .i64 0, .int .i64 0, .int .i64 0, .int .i64 0, .int .i64 0, .int .i64 0, .int .i64 0] 50) = w0 at H0 ⊢
  go_loopw [5] (fun i wr => ∃ (j : Nat), i = .int .i64 (j : Int) ∧ j ≤ 7 ∧ TdS w g s (tolA k f t tm ix lt cm j) (tolR r r1 r2 r3 r4 r5 r6 r7 j) wr) (fun i _ => 7 - (intOf i).toNat)
  case atStart => exact ⟨0, rfl, by omega, H0.out⟩
  case round =>
    obtain ⟨j, rfl, hj, hS⟩ := hrel
    by_cases hlt : j < 7
    · have j0 : (j : Int) < 7 := by omega
      obtain ⟨hz, hst⟩ := tolA_at k f t tm ix lt cm j hlt
      by_cases h3 : j < 3
      · have j3 : (j : Int) < 3 := by omega
        have HC := hide (HB.out j h3 wr hS.c)
        have HS := hide hS
        have HST := hide hst
        have HZ := hide hz
        generalize tolV k f t tm ix lt cm j = nz at HC HST
        clear hS hst hz
        go_wp2_with fail
        refine HC.out.mono ?_
        rintro e y1 ⟨rfl, hc, hg⟩
        have HX := hide (HS.out.x.kept hg (fun q => by have := Option.some.inj q; omega))
        have HY := hide (HS.out.z.kept hg (fun q => by have := Option.some.inj q; omega))
        have HCC := hide hc
        have HG := hide (grown_trans HS.out.gr hg)
        clear hc hg HS HC
        have f0 := HX.out.free j
        have c0 := HX.out.cell j HZ.out
        go_wp2_with fail
        go_roundw
        case rel =>
          refine ⟨j + 1, by go_num, by omega, ?_, HY.out.kept (blk_grown _ _ _ _) (fun q => by have := Option.some.inj q; omega), HCC.out.kept ((blk_grown _ _ _ _).block g HCC.out.lt (fun q => by have := Option.some.inj q; omega)), grown_low15 HG.out ((Below.refl _ _).setCell (by simp) _)⟩
          rw [← HST.out]
          exact HX.out.set j _
        case measure => simp [intOf]; omega
      · have j3 : ¬ (j : Int) < 3 := by omega
        have HC := hide (HN.out j (by omega) hlt wr hS.c)
        have HS := hide hS
        have HST := hide hst
        have HZ := hide hz
        generalize tolV k f t tm ix lt cm j = nz at HC HST
        clear hS hst hz
        go_wp2_with fail
        refine HC.out.mono ?_
        rintro e y1 ⟨rfl, hc, hg⟩
        have HX := hide (HS.out.x.kept hg (fun q => by have := Option.some.inj q; omega))
        have HY := hide (HS.out.z.kept hg (fun q => by have := Option.some.inj q; omega))
        have HCC := hide hc
        have HG := hide (grown_trans HS.out.gr hg)
        clear hc hg HS HC
        have f0 := HX.out.free j
        have c0 := HX.out.cell j HZ.out
        go_wp2_with fail
        go_roundw
        case rel =>
          refine ⟨j + 1, by go_num, by omega, ?_, HY.out.kept (blk_grown _ _ _ _) (fun q => by have := Option.some.inj q; omega), HCC.out.kept ((blk_grown _ _ _ _).block g HCC.out.lt (fun q => by have := Option.some.inj q; omega)), grown_low15 HG.out ((Below.refl _ _).setCell (by simp) _)⟩
          rw [← HST.out]
          exact HX.out.set j _
        case measure => simp [intOf]; omega
    · have hjn : j = 7 := by omega
      subst hjn
      have HS := hide (show TdS w g s #[.int .i64 (k : Int), .int .i64 (f : Int), .int .i64 (t : Int), .int .i64 (tm : Int), .int .i64 (ix : Int), .int .i64 (lt : Int), .int .i64 (cm : Int)] r7 wr from hS)
      obtain ⟨k0, k1, k2, k3, k4, k5, k6⟩ := xs7 HS.out.x
      obtain ⟨y0, y1, y2, y3, y4, y5, y6⟩ := xs7 HS.out.z
      have f0 := HS.out.z.free 0
      have f1 := HS.out.z.free 1
      have f2 := HS.out.z.free 2
      have f3 := HS.out.z.free 3
      have f4 := HS.out.z.free 4
      have f5 := HS.out.z.free 5
      have f6 := HS.out.z.free 6
      clear hS
      go_wp2_with fail
      obtain ⟨w6, hw6, hR6, hg6⟩ := sets7 HS.out.z (.int .i64 (k : Int)) (.int .i64 (f : Int)) (.int .i64 (t : Int)) (.int .i64 (tm : Int)) (.int .i64 (ix : Int)) (.int .i64 (lt : Int)) (.int .i64 (cm : Int))
      rw [hw6]
      obtain ⟨q0, q1, q2, q3, q4, q5, q6⟩ := xs7 hR6
      refine bodyPost_ret (v := nv7 k f t tm ix lt cm) (by simp [results, Tryd.results65, go_sem, q0, q1, q2, q3, q4, q5, q6]) rfl ⟨rfl, ?_, ?_⟩
      · exact HS.out.c.kept (hg6.block g HS.out.c.lt (fun q => by have := Option.some.inj q; omega))
      · exact grown_low15 HS.out.gr ((Below.refl _ _).grown hg6 HS.out.gr.size (fun q hq => by cases hq; omega))

end Go.Proofs.YtmllcomppjkhhaaDoor
