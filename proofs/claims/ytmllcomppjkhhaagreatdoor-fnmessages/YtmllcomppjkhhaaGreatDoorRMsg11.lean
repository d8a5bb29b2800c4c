/-
  Walks and mathematics of Msg11, Msg12, Msg12b.
-/
import Derived.Test.YtmllcomppjkhhaaGreatDoorRMsg3
import Derived.Test.YtmllcomppjkhhaaGreatDoorRMsg1
import Derived.Test.YtmllcomppjkhhaaGreatDoorRWalk9k
import Derived.Test.YtmllcomppjkhhaaGreatDoorRWalk5i
import Derived.Test.YtmllcomppjkhhaaGreatDoorRWalk5b
import Derived.Deep.Cut
import Derived.Test.YtmllcomppjkhhaaGreatDoorRMsg5
namespace Go.Proofs.YtmllcomppjkhhaaGreatDoor.P18
end Go.Proofs.YtmllcomppjkhhaaGreatDoor.P18
namespace Go.Proofs.YtmllcomppjkhhaaGreatDoor.P3
end Go.Proofs.YtmllcomppjkhhaaGreatDoor.P3
namespace Go.Proofs.YtmllcomppjkhhaaGreatDoor
open Go.RowKit P1 P3 P9 P11 P12 P18 K
set_option linter.unusedVariables false
set_option linter.unusedSimpArgs false

theorem wpList_push15 {P : Program} {W0 : World} {ops : Array Oper} {rest : List Oper} {o : Oper} {a : Act} {Q : Exit → Act → World → Prop} (hgd : o.guard = none) (s x : Operand) (t : TypeId)
    (ho : o.op = .call { callee := .builtin .append, args := #[s, x], argTypes := #[t, t] })
    {base k : Nat} (hk0 : 0 < k) {e : TypeId} {z : Value} {bytes : Nat} (ht : P.underlying t = some (.slice e)) (hi : (P.info? e).map (fun i => (i.zero, i.size, i.bytes)) = some (some z, k, bytes)) (hzs : z.cells.size = k)
    {v : Value} {n : Nat} {xs : List Value} (hs : a.eval s = v) (hown : W0.ownsRow base e k v n xs)
    {cs : Array Value} (hx : a.eval x = .slice (some ⟨W0.heap.size, 0, none⟩) 1 1) (hm : cs.toList.length = k) (hu : ∀ u ∈ cs.toList, u.oneCell' = true)
    (hbase : base ≤ W0.heap.size) (h63 : n + 1 ≤ maxLen) (hbytes : (n + 1) * bytes ≤ 140737488355328)
    (h : ∀ v' w', w'.ownsRow base e k v' (n + 1) (xs ++ cs.toList) → W0.grownBy w' v.ownBlock → wpList P ops Q rest (a.put o.dst v') w') : wpList P ops Q (o :: rest) a (W0.alloc (.cells cs e)) := by
  obtain ⟨i, hi, hz, h1, h2⟩ := info_parts hi
  refine wpList_append_own _ hgd s x t ho base e i z k bytes ht hi hz h1 h2 hzs hk0 v n xs hs (hown.alloc _) ⟨W0.heap.size, 0, none⟩ 1 1 cs.toList hx (by rw [hm]; omega) (World.news_of_block (heap_alloc_new W0 _)) hu h63 hbytes (by simp; omega) ?_
  intro v' w' hown' hgrow _
  refine h v' w' hown' ⟨hgrow.os, hgrow.tape, hgrow.output, ?_, ?_⟩
  · have := hgrow.size; simp at this; omega
  · intro q hq hne
    rw [hgrow.block q (by simp; omega) hne]
    exact Below.heap_alloc W0 _ q hq

set_option maxHeartbeats 2000000 in
theorem need_any (g : Nat) (s : ByteArray) (r : Lf) (ok : Bool) (w : World) (h : FRL w g s r) :
    Calls Tryz.prog 75 #[.pointer (some ⟨g, 0, none⟩), .bool ok] w fun e w' => e = .returned (.tuple #[]) ∧ FRL w' g s (if ok = true then r else none) ∧ w.grownBy w' (some g) := by
  have hgl := h.lt
  obtain ⟨p, ⟨hp, ty, hblk⟩, rfl⟩ := h
  obtain ⟨c0, c1, z1⟩ := fr_cells hblk
  have HB := hide hblk
  have HP := hide hp
  clear hblk hp
  generalize hx : plI p = x at HB c1
  have HX := hide hx
  clear hx
  cases ok with
  | false =>
    have HGT := hide (fun w h => goTo_no (ty := ty) g s x x w h)
    go_enter Tryz.func75, Tryz.ntmps75
    go_wp2_with fail
    go_region_law (rw [if_pos (by rfl)]; go_simp; go_at_call 80; refine (HGT.out _ (by exact HB.out)).mono ?_; rintro e w2 ⟨rfl, hb2, hg2⟩)
    all_goals
      refine bodyPost_end (results_none rfl _ _ _) rfl ?_
      exact ⟨rfl, by simpa using FRL.off hb2, grown_trans (grown_drewN (grown_below (row := some g) (Below.refl _ w)) 1) hg2⟩
  | true =>
    have HGT := hide (fun w h => goTo_yes (ty := ty) g s x x w h)
    go_enter Tryz.func75, Tryz.ntmps75
    go_wp2_with fail
    go_region_law (rw [if_pos (by rfl)]; go_simp; go_at_call 80; refine (HGT.out _ (by exact HB.out)).mono ?_; rintro e w2 ⟨rfl, hb2, hg2⟩)
    all_goals
      refine bodyPost_end (results_none rfl _ _ _) rfl ?_
      refine ⟨rfl, ?_, grown_trans (grown_drewN (grown_below (row := some g) (Below.refl _ w)) 1) hg2⟩
      simp only [if_true]
      exact ⟨p, ⟨HP.out, ty, by rw [HX.out]; exact hb2⟩, rfl⟩

theorem grown_low15 {a b c : World} {r : Option Nat} (h : a.grownBy b r) (k : Below a.heap.size b c) : a.grownBy c r :=
  ⟨k.os.trans h.os, k.tape.trans h.tape, k.output.trans h.output, Nat.le_trans h.size k.size, fun i hi hne => (k.block i hi).trans (h.block i hi hne)⟩

theorem shL_len15 {most : Nat} : ∀ (st : Lf), (shL most st).1.length ≤ most
  | none => Nat.zero_le _
  | some l => by
    unfold shL
    simp only
    split
    · split
      · assumption
      · exact Nat.zero_le _
    · exact Nat.zero_le _

set_option maxHeartbeats 1000000 in
theorem count_any15 (g : Nat) (s : ByteArray) (hs : s.size ≤ 1048576) (r : Lf) (most : Nat) (hm : most ≤ 1000) (w : World) (h : FRL w g s r) :
    Calls Tryz.prog 76 #[.pointer (some ⟨g, 0, none⟩), .int .i64 (most : Int)] w fun e w' => e = .returned (.int .i64 ((countI most r).1 : Int)) ∧ FRL w' g s (countI most r).2 ∧ w.grownBy w' (some g) := by
  have HN := hide (number_any g s hs r w h)
  have HND := hide (fun r w h => need_any g s r false w h)
  have hle := numL_le r
  clear h
  unfold countI
  obtain ⟨n, r1, hr⟩ : ∃ n r1, numL r = (n, r1) := ⟨_, _, rfl⟩
  rw [hr] at HN hle ⊢
  simp only at HN hle ⊢
  clear hr
  by_cases c : n > most
  · rw [if_pos c]
    have c1 : (n : Int) > (most : Int) := by omega
    go_enter Tryz.func76, Tryz.ntmps76
    go_wp2_with fail
    refine HN.out.mono ?_
    rintro e w1 ⟨rfl, hc1, hg1⟩
    have HC1 := hide hc1
    have HG1 := hide hg1
    clear hc1 hg1
    go_wp2_with fail
    refine (HND.out r1 _ HC1.out).mono ?_
    rintro e w2 ⟨rfl, hc2, hg2⟩
    have HC2 := hide hc2
    have HG2 := hide (grown_trans HG1.out hg2)
    clear hc2 hg2
    go_wp2_with fail
    go_ret
    exact ⟨rfl, by simpa using HC2.out, HG2.out⟩
  · rw [if_neg c]
    have c1 : ¬ (n : Int) > (most : Int) := by omega
    go_enter Tryz.func76, Tryz.ntmps76
    go_wp2_with fail
    refine HN.out.mono ?_
    rintro e w1 ⟨rfl, hc1, hg1⟩
    have HC1 := hide hc1
    have HG1 := hide hg1
    clear hc1 hg1
    go_wp2_with fail
    go_ret
    exact ⟨rfl, HC1.out, HG1.out⟩

set_option maxHeartbeats 2000000 in
theorem flagR_any15 (g : Nat) (s : ByteArray) (hs : s.size ≤ 1048576) (r : Lf) (w : World) (h : FRL w g s r) :
    Calls Tryz.prog 50 #[.pointer (some ⟨g, 0, none⟩)] w fun e w' => e = .returned (.bool (flagI r).1) ∧ FRL w' g s (flagI r).2 ∧ w.grownBy w' (some g) := by
  have HN := hide (oneByte_any g s hs r w h)
  have HND := hide (fun r b w h => need_any g s r b w h)
  clear h
  unfold flagI
  obtain ⟨n, r1, hr⟩ : ∃ n r1, byteL r = (n, r1) := ⟨_, _, rfl⟩
  rw [hr] at HN ⊢
  simp only at HN ⊢
  clear hr
  by_cases c0 : n = 0
  · subst c0
    simp only [Nat.zero_le, if_true]
    go_enter Tryz.func50, Tryz.ntmps50
    go_wp2_with fail
    refine HN.out.mono ?_
    rintro e w1 ⟨rfl, hc1, hg1⟩
    have HC1 := hide hc1
    have HG1 := hide hg1
    clear hc1 hg1
    go_wp2_with fail
    refine (HND.out r1 true _ HC1.out).mono ?_
    rintro e w2 ⟨rfl, hc2, hg2⟩
    have HC2 := hide hc2
    have HG2 := hide (grown_trans HG1.out hg2)
    clear hc2 hg2
    go_wp2_with fail
    go_ret
    exact ⟨by first | rfl | simp | (simp; omega), by simpa using HC2.out, HG2.out⟩
  · by_cases c1 : n = 1
    · subst c1
      simp only [Nat.le_refl, if_true]
      go_enter Tryz.func50, Tryz.ntmps50
      go_wp2_with fail
      refine HN.out.mono ?_
      rintro e w1 ⟨rfl, hc1, hg1⟩
      have HC1 := hide hc1
      have HG1 := hide hg1
      clear hc1 hg1
      go_wp2_with fail
      refine (HND.out r1 true _ HC1.out).mono ?_
      rintro e w2 ⟨rfl, hc2, hg2⟩
      have HC2 := hide hc2
      have HG2 := hide (grown_trans HG1.out hg2)
      clear hc2 hg2
      go_wp2_with fail
      go_ret
      exact ⟨by first | rfl | simp | (simp; omega), by simpa using HC2.out, HG2.out⟩
    · have b0 : ((n : Int) == 0) = false := by simp; omega
      have b1 : ((n : Int) == 1) = false := by simp; omega
      rw [if_neg (by omega), decide_eq_false c1]
      go_enter Tryz.func50, Tryz.ntmps50
      go_wp2_with fail
      refine HN.out.mono ?_
      rintro e w1 ⟨rfl, hc1, hg1⟩
      have HC1 := hide hc1
      have HG1 := hide hg1
      clear hc1 hg1
      go_wp2_with fail
      refine (HND.out r1 false _ HC1.out).mono ?_
      rintro e w2 ⟨rfl, hc2, hg2⟩
      have HC2 := hide hc2
      have HG2 := hide (grown_trans HG1.out hg2)
      clear hc2 hg2
      go_wp2_with fail
      go_ret
      exact ⟨by first | rfl | simp | (simp; omega), by simpa using HC2.out, HG2.out⟩

theorem reVal_reE (l : List UInt8) : reVal (rdEntry l) = .tuple #[.int .i64 ((reE l).1 : Int), .agg #[.int .i64 (reE l).2.1.term, .int .i64 (reE l).2.1.kind, .string (reE l).2.1.data], .bool (reE l).2.2] := by
  unfold reE
  cases rdEntry l with
  | none => rfl
  | some p => rfl

theorem reE_small (l : List UInt8) : (reE l).2.1.data.size ≤ 120 := by
  unfold reE
  cases h : rdEntry l with
  | none => exact Nat.zero_le _
  | some p =>
    obtain ⟨i, t, k, d⟩ := p
    have h3 := (rdEntry_some h).2.2
    unfold entryOk at h3
    simp only [Bool.and_eq_true] at h3
    exact (contOk_len h3.1).1

theorem itE_small : ∀ (j : Nat) (r : Lf), ∀ e ∈ (itE j r).1, e.data.size ≤ 120
  | 0, _, e, he => by simp [itE] at he
  | j + 1, r, e, he => by
    simp only [itE, List.mem_append, List.mem_singleton] at he
    rcases he with he | rfl
    · exact itE_small j r e he
    · exact reE_small _

set_option maxRecDepth 100000 in
set_option maxHeartbeats 8000000 in
theorem entriesR_any15 (g : Nat) (s : ByteArray) (hs : s.size ≤ 1048576) (r : Lf) (w : World) (h : FRL w g s r) :
    Calls Tryz.prog 51 #[.pointer (some ⟨g, 0, none⟩)] w fun e w' => ∃ v, e = .returned v ∧ FRL w' g s (entriesI r).2 ∧ w'.ownsRow w.heap.size 56 3 v (entriesI r).1.length ((entriesI r).1.flatMap ecells) ∧ w.grownBy w' (some g) := by
  have hgl := h.lt
  have HN := hide (count_any15 g s hs r 4 (by omega) w h)
  have HND := hide (fun r b w h => need_any g s r b w h)
  have HSH := hide (fun r w h => short_any g s hs r w h)
  have hc4 : (countI 4 r).1 ≤ 4 := by unfold countI; split <;> omega
  unfold entriesI
  rw [itE_len]
  obtain ⟨c, r0, hr⟩ : ∃ c r0, countI 4 r = (c, r0) := ⟨_, _, rfl⟩
  rw [hr] at HN hc4 ⊢
  simp only at HN hc4 ⊢
  clear hr h
  go_enter Tryz.func51, Tryz.ntmps51
  go_wp2_with fail
  refine HN.out.mono ?_
  rintro e w1 ⟨rfl, hc1, hg1⟩
  have HC1 := hide hc1
  have HG1 := hide hg1
  clear hc1 hg1
  go_wp2_with fail
  go_loopw [11, 3] (fun i l wr => ∃ (j : Nat) (v : Value), i = .int .i64 (j : Int) ∧ l = v ∧ j ≤ c ∧ FRL wr g s (itE j r0).2 ∧ wr.ownsRow w.heap.size 56 3 v j ((itE j r0).1.flatMap ecells) ∧ w.grownBy wr (some g)) (fun i _ _ => c - (intOf i).toNat)
  case atStart => exact ⟨0, .slice none 0 0, rfl, rfl, Nat.zero_le _, HC1.out, World.ownsRow_nil _ _ _ _, HG1.out⟩
  case round =>
    obtain ⟨j, v, rfl, rfl, hj, hfr, hown, hgr⟩ := hrel
    obtain ⟨oa, cap, hv⟩ := row_form hown
    subst hv
    by_cases hlt : j < c
    · have j0 : (j : Int) < (c : Int) := by omega
      have hS := HSH.out _ wr hfr
      have hxl := shL_len15 (most := 20000) (itE j r0).2
      have hent : entI (itE j r0).2 = ((reE (shL 20000 (itE j r0).2).1).2.1, if (reE (shL 20000 (itE j r0).2).1).2.2 = true ∧ (reE (shL 20000 (itE j r0).2).1).1 = 1 then (shL 20000 (itE j r0).2).2 else none) := rfl
      obtain ⟨l, r2, hsh⟩ : ∃ l r2, shL 20000 (itE j r0).2 = (l, r2) := ⟨_, _, rfl⟩
      rw [hsh] at hS hxl hent
      simp only at hS hxl hent
      have hRE := fun w => implReadEntry_any ⟨l.toArray⟩ (by rw [size_mk8]; omega) w
      rw [bl_mk8, reVal_reE] at hRE
      obtain ⟨x, E, okb, hre⟩ : ∃ x E okb, reE l = (x, E, okb) := ⟨_, _, _, rfl⟩
      rw [hre] at hRE hent
      obtain ⟨et, ek, ed⟩ := E
      simp only at hRE hent
      have HS := hide hS
      have HRE := hide hRE
      have HEN := hide hent
      have HO := hide hown
      have HG := hide hgr
      clear hS hRE hent hsh hre hown hgr hfr
      go_wp2_with fail
      refine HS.out.mono ?_
      rintro e y1 ⟨rfl, hc2, hg2⟩
      have HCa := hide hc2
      have HOa := hide (HO.out.kept hg2 (Or.inr (fun q => by have := HO.out.lt g q; omega)))
      have HGa := hide (grown_trans HG.out hg2)
      clear hc2 hg2 HO HG
      go_wp2_with fail
      refine (HRE.out _).mono ?_
      rintro e y2 ⟨rfl, hb2⟩
      have HCb := hide (HCa.out.kept (hb2.block g HCa.out.lt))
      have HOb := hide (own_below HOa.out hb2)
      have HGb := hide (grown_low15 HGa.out (hb2.mono HGa.out.size))
      clear hb2 HCa HOa HGa
      have HXc := hide (XS.new y2 #[.int .i64 et, .int .i64 ek, .string ed] 56)
      have hnb := (Below.refl y2.heap.size y2).alloc (Nat.le_refl _) (.cells #[.int .i64 et, .int .i64 ek, .string ed] 56)
      have HCc := hide (HCb.out.kept (hnb.block g HCb.out.lt))
      have HOc := hide (own_below HOb.out hnb)
      have HGc := hide (grown_low15 HGb.out (hnb.mono HGb.out.size))
      have hgy := HCb.out.lt
      have hwy := HGb.out.size
      clear hnb HCb HOb HGb
      cases okb with
      | false =>
        go_wp2_with fail
        refine (HND.out r2 false _ HCc.out).mono ?_
        rintro e y3 ⟨rfl, hc3, hg3⟩
        have HCd := hide hc3
        have HOd := hide (HOc.out.kept hg3 (Or.inr (fun q => by have := HOc.out.lt g q; omega)))
        have HGd := hide (grown_trans HGc.out hg3)
        have HXd := hide (HXc.out.kept hg3 (fun q => by have := Option.some.inj q; omega))
        have e0 := HXd.out.cell 0 (u := .int .i64 et) rfl
        have e1 := HXd.out.cell 1 (u := .int .i64 ek) rfl
        have e2 := HXd.out.cell 2 (u := .string ed) rfl
        clear hc3 hg3 HOc HGc HXc HCc
        go_wp2_with (at_builtin; refine wpList_push15 (cs := #[.int .i64 et, .int .i64 ek, .string ed]) rfl _ _ 24 rfl (by decide) Tryz.underlying24 infoIEz rfl rfl HOd.out rfl rfl (by simp [Value.oneCell']) HGd.out.size (by unfold maxLen; omega) (by omega) ?_; intro v5 y5 ho5 hg5)
        have HGe := hide (grown_low15 HGd.out ((Below.refl _ _).grown hg5 HGd.out.size (fun q hq => (HOd.out.lt q hq).1)))
        have HCe := hide (HCd.out.kept (hg5.block g (Nat.lt_of_lt_of_le hgl HGd.out.size) (fun q => by have := HOd.out.lt g q.symm; omega)))
        have HOe := hide ho5
        clear ho5 hg5 HOd HGd HCd HXd e0 e1 e2
        go_roundw
        case rel =>
          refine ⟨j + 1, v5, by go_num, rfl, by omega, ?_, ?_, HGe.out⟩
          · simp only [itE]
            rw [HEN.out]
            simpa using HCe.out
          · simp only [itE, List.flatMap_append, List.flatMap_cons, List.flatMap_nil, List.append_nil]
            rw [HEN.out]
            exact HOe.out
        case measure => simp [intOf]; omega
      | true =>
        by_cases cx : x = 1
        · subst cx
          go_wp2_with fail
          refine (HND.out r2 true _ HCc.out).mono ?_
          rintro e y3 ⟨rfl, hc3, hg3⟩
          have HCd := hide hc3
          have HOd := hide (HOc.out.kept hg3 (Or.inr (fun q => by have := HOc.out.lt g q; omega)))
          have HGd := hide (grown_trans HGc.out hg3)
          have HXd := hide (HXc.out.kept hg3 (fun q => by have := Option.some.inj q; omega))
          have e0 := HXd.out.cell 0 (u := .int .i64 et) rfl
          have e1 := HXd.out.cell 1 (u := .int .i64 ek) rfl
          have e2 := HXd.out.cell 2 (u := .string ed) rfl
          clear hc3 hg3 HOc HGc HXc HCc
          go_wp2_with (at_builtin; refine wpList_push15 (cs := #[.int .i64 et, .int .i64 ek, .string ed]) rfl _ _ 24 rfl (by decide) Tryz.underlying24 infoIEz rfl rfl HOd.out rfl rfl (by simp [Value.oneCell']) HGd.out.size (by unfold maxLen; omega) (by omega) ?_; intro v5 y5 ho5 hg5)
          have HGe := hide (grown_low15 HGd.out ((Below.refl _ _).grown hg5 HGd.out.size (fun q hq => (HOd.out.lt q hq).1)))
          have HCe := hide (HCd.out.kept (hg5.block g (Nat.lt_of_lt_of_le hgl HGd.out.size) (fun q => by have := HOd.out.lt g q.symm; omega)))
          have HOe := hide ho5
          clear ho5 hg5 HOd HGd HCd HXd e0 e1 e2
          go_roundw
          case rel =>
            refine ⟨j + 1, v5, by go_num, rfl, by omega, ?_, ?_, HGe.out⟩
            · simp only [itE]
              rw [HEN.out]
              simpa using HCe.out
            · simp only [itE, List.flatMap_append, List.flatMap_cons, List.flatMap_nil, List.append_nil]
              rw [HEN.out]
              exact HOe.out
          case measure => simp [intOf]; omega
        · have gx : ((x : Int) == 1) = false := by simp; omega
          go_wp2_with fail
          refine (HND.out r2 false _ HCc.out).mono ?_
          rintro e y3 ⟨rfl, hc3, hg3⟩
          have HCd := hide hc3
          have HOd := hide (HOc.out.kept hg3 (Or.inr (fun q => by have := HOc.out.lt g q; omega)))
          have HGd := hide (grown_trans HGc.out hg3)
          have HXd := hide (HXc.out.kept hg3 (fun q => by have := Option.some.inj q; omega))
          have e0 := HXd.out.cell 0 (u := .int .i64 et) rfl
          have e1 := HXd.out.cell 1 (u := .int .i64 ek) rfl
          have e2 := HXd.out.cell 2 (u := .string ed) rfl
          clear hc3 hg3 HOc HGc HXc HCc
          go_wp2_with (at_builtin; refine wpList_push15 (cs := #[.int .i64 et, .int .i64 ek, .string ed]) rfl _ _ 24 rfl (by decide) Tryz.underlying24 infoIEz rfl rfl HOd.out rfl rfl (by simp [Value.oneCell']) HGd.out.size (by unfold maxLen; omega) (by omega) ?_; intro v5 y5 ho5 hg5)
          have HGe := hide (grown_low15 HGd.out ((Below.refl _ _).grown hg5 HGd.out.size (fun q hq => (HOd.out.lt q hq).1)))
          have HCe := hide (HCd.out.kept (hg5.block g (Nat.lt_of_lt_of_le hgl HGd.out.size) (fun q => by have := HOd.out.lt g q.symm; omega)))
          have HOe := hide ho5
          clear ho5 hg5 HOd HGd HCd HXd e0 e1 e2
          go_roundw
          case rel =>
            refine ⟨j + 1, v5, by go_num, rfl, by omega, ?_, ?_, HGe.out⟩
            · simp only [itE]
              rw [HEN.out]
              simpa [cx] using HCe.out
            · simp only [itE, List.flatMap_append, List.flatMap_cons, List.flatMap_nil, List.append_nil]
              rw [HEN.out]
              exact HOe.out
          case measure => simp [intOf]; omega
    · have hjn : j = c := by omega
      subst hjn
      have HF := hide hfr
      have HO := hide hown
      have HG := hide hgr
      clear hfr hown hgr
      go_wp2_with fail
      go_ret
      exact ⟨_, rfl, HF.out, HO.out, HG.out⟩

set_option maxHeartbeats 4000000 in
theorem confR_any15 (g : Nat) (s : ByteArray) (hs : s.size ≤ 1048576) (r : Lf) (w : World) (h : FRL w g s r) :
    Calls Tryz.prog 52 #[.pointer (some ⟨g, 0, none⟩)] w fun e w' => ∃ v, e = .returned v ∧ FRL w' g s (confI r).2 ∧ w'.ownsRow w.heap.size 3 1 v (confI r).1.length ((confI r).1.map icell) ∧ w.grownBy w' (some g) := by
  have hgl := h.lt
  have HS := hide (short_any g s hs r w h)
  have HND := hide (fun r b w h => need_any g s r b w h)
  have hxl := shL_len15 (most := 20000) r
  unfold confI
  obtain ⟨l, r2, hsh⟩ : ∃ l r2, shL 20000 r = (l, r2) := ⟨_, _, rfl⟩
  rw [hsh] at HS hxl ⊢
  simp only at HS hxl ⊢
  clear hsh h
  by_cases c0 : l = []
  · subst c0
    rw [if_pos rfl]
    go_enter Tryz.func52, Tryz.ntmps52
    go_wp2_with fail
    refine HS.out.mono ?_
    rintro e w1 ⟨rfl, hc1, hg1⟩
    have HC1 := hide hc1
    have HG1 := hide hg1
    clear hc1 hg1
    go_wp2_with fail
    go_ret
    exact ⟨_, rfl, HC1.out, World.ownsRow_nil _ _ _ _, HG1.out⟩
  · rw [if_neg c0]
    have ge : l.isEmpty = false := by
      cases l with
      | nil => exact absurd rfl c0
      | cons _ _ => rfl
    have HRC := hide (fun w => implReadConf_any ⟨l.toArray⟩ (by rw [size_mk8]; omega) w)
    rw [bl_mk8] at HRC
    cases hc : confOk (confZ l) with
    | false =>
      rw [rdConf_no hc] at HRC
      rw [if_neg (by simp)]
      go_enter Tryz.func52, Tryz.ntmps52
      go_wp2_with fail
      refine HS.out.mono ?_
      rintro e w1 ⟨rfl, hc1, hg1⟩
      have HC1 := hide hc1
      have HG1 := hide hg1
      have hs1 := hg1.size
      clear hc1 hg1
      go_wp2_with fail
      refine (HRC.out _).mono ?_
      rintro e w2 ⟨gg, cap, rfl, ho2, hb2⟩
      have HC2 := hide (HC1.out.kept (hb2.block g HC1.out.lt))
      have HG2 := hide (grown_low15 HG1.out (hb2.mono hs1))
      have HO2 := hide ho2
      have hlg := HC1.out.lt
      clear ho2 hb2 HC1 HG1
      go_wp2_with fail
      refine (HND.out r2 false _ HC2.out).mono ?_
      rintro e w3 ⟨rfl, hc3, hg3⟩
      have HC3 := hide hc3
      have HO3 := hide (HO2.out.kept hg3 (Or.inr (fun q => by have := HO2.out.lt g q; omega)))
      have HG3 := hide (grown_trans HG2.out hg3)
      clear hc3 hg3 HO2 HG2 HC2
      go_wp2_with fail
      go_ret
      exact ⟨_, rfl, by simpa using HC3.out, own_base HO3.out hs1, HG3.out⟩
    | true =>
      rw [rdConf_yes hc] at HRC
      rw [if_pos rfl]
      go_enter Tryz.func52, Tryz.ntmps52
      go_wp2_with fail
      refine HS.out.mono ?_
      rintro e w1 ⟨rfl, hc1, hg1⟩
      have HC1 := hide hc1
      have HG1 := hide hg1
      have hs1 := hg1.size
      clear hc1 hg1
      go_wp2_with fail
      refine (HRC.out _).mono ?_
      rintro e w2 ⟨gg, cap, rfl, ho2, hb2⟩
      have HC2 := hide (HC1.out.kept (hb2.block g HC1.out.lt))
      have HG2 := hide (grown_low15 HG1.out (hb2.mono hs1))
      have HO2 := hide ho2
      have hlg := HC1.out.lt
      clear ho2 hb2 HC1 HG1
      go_wp2_with fail
      refine (HND.out r2 true _ HC2.out).mono ?_
      rintro e w3 ⟨rfl, hc3, hg3⟩
      have HC3 := hide hc3
      have HO3 := hide (HO2.out.kept hg3 (Or.inr (fun q => by have := HO2.out.lt g q; omega)))
      have HG3 := hide (grown_trans HG2.out hg3)
      clear hc3 hg3 HO2 HG2 HC2
      go_wp2_with fail
      go_ret
      exact ⟨_, rfl, by simpa using HC3.out, own_base HO3.out hs1, HG3.out⟩

def tolA (k f t tm ix lt cm : Int) (j : Nat) : Array Value := #[.int .i64 (if 0 < j then k else 0), .int .i64 (if 1 < j then f else 0), .int .i64 (if 2 < j then t else 0), .int .i64 (if 3 < j then tm else 0), .int .i64 (if 4 < j then ix else 0), .int .i64 (if 5 < j then lt else 0), .int .i64 (if 6 < j then cm else 0)]

def tolV (k f t tm ix lt cm : Int) : Nat → Int
  | 0 => k
  | 1 => f
  | 2 => t
  | 3 => tm
  | 4 => ix
  | 5 => lt
  | _ => cm

def tolR (r r1 r2 r3 r4 r5 r6 r7 : Lf) : Nat → Lf
  | 0 => r
  | 1 => r1
  | 2 => r2
  | 3 => r3
  | 4 => r4
  | 5 => r5
  | 6 => r6
  | _ => r7

theorem tolA_at (k f t tm ix lt cm : Int) (j : Nat) (h : j < 7) : (tolA k f t tm ix lt cm j)[j]? = some (.int .i64 0) ∧ (tolA k f t tm ix lt cm j).setIfInBounds j (.int .i64 (tolV k f t tm ix lt cm j)) = tolA k f t tm ix lt cm (j + 1) := by
  rcases (show j = 0 ∨ j = 1 ∨ j = 2 ∨ j = 3 ∨ j = 4 ∨ j = 5 ∨ j = 6 by omega) with rfl | rfl | rfl | rfl | rfl | rfl | rfl <;> exact ⟨rfl, rfl⟩

structure TdS (w : World) (g : Nat) (s : ByteArray) (cs : Array Value) (r : Lf) (w' : World) : Prop where
  x : XS (w.heap.size + 1) cs 59 w'
  z : XS w.heap.size #[.int .i64 0, .int .i64 0, .int .i64 0, .int .i64 0, .int .i64 0, .int .i64 0, .int .i64 0] 59 w'
  c : FRL w' g s r
  gr : w.grownBy w' (some g)

set_option maxRecDepth 100000 in
set_option maxHeartbeats 4000000 in
theorem told_any15 (g : Nat) (s : ByteArray) (hs : s.size ≤ 1048576) (r : Lf) {k f t tm ix lt cm : Nat} {r1 r2 r3 r4 r5 r6 r7 : Lf} (h1 : byteL r = (k, r1)) (h2 : byteL r1 = (f, r2)) (h3 : byteL r2 = (t, r3)) (h4 : numL r3 = (tm, r4)) (h5 : numL r4 = (ix, r5)) (h6 : numL r5 = (lt, r6)) (h7 : numL r6 = (cm, r7)) (w : World) (h : FRL w g s r) :
    Calls Tryz.prog 48 #[.pointer (some ⟨g, 0, none⟩)] w fun e w' => e = .returned (nv7 k f t tm ix lt cm) ∧ FRL w' g s r7 ∧ w.grownBy w' (some g) := by
  have hgl := h.lt
  have HB := hide (show ∀ j, j < 3 → ∀ w, FRL w g s (tolR r r1 r2 r3 r4 r5 r6 r7 j) → Calls Tryz.prog 73 #[.pointer (some ⟨g, 0, none⟩)] w fun e w' => e = .returned (.int .i64 (tolV k f t tm ix lt cm j)) ∧ FRL w' g s (tolR r r1 r2 r3 r4 r5 r6 r7 (j + 1)) ∧ w.grownBy w' (some g) from fun j hj w hf => by
    rcases (show j = 0 ∨ j = 1 ∨ j = 2 by omega) with rfl | rfl | rfl
    · have q := oneByte_any g s hs r w hf; rw [h1] at q; exact q
    · have q := oneByte_any g s hs r1 w hf; rw [h2] at q; exact q
    · have q := oneByte_any g s hs r2 w hf; rw [h3] at q; exact q)
  have HN := hide (show ∀ j, 3 ≤ j → j < 7 → ∀ w, FRL w g s (tolR r r1 r2 r3 r4 r5 r6 r7 j) → Calls Tryz.prog 74 #[.pointer (some ⟨g, 0, none⟩)] w fun e w' => e = .returned (.int .i64 (tolV k f t tm ix lt cm j)) ∧ FRL w' g s (tolR r r1 r2 r3 r4 r5 r6 r7 (j + 1)) ∧ w.grownBy w' (some g) from fun j hj hj7 w hf => by
    rcases (show j = 3 ∨ j = 4 ∨ j = 5 ∨ j = 6 by omega) with rfl | rfl | rfl | rfl
    · have q := number_any g s hs r3 w hf; rw [h4] at q; exact q
    · have q := number_any g s hs r4 w hf; rw [h5] at q; exact q
    · have q := number_any g s hs r5 w hf; rw [h6] at q; exact q
    · have q := number_any g s hs r6 w hf; rw [h7] at q; exact q)
  have H0 := hide (show TdS w g s (tolA k f t tm ix lt cm 0) (tolR r r1 r2 r3 r4 r5 r6 r7 0) ((w.alloc (.cells #[.int .i64 0, .int .i64 0, .int .i64 0, .int .i64 0, .int .i64 0, .int .i64 0, .int .i64 0] 59)).alloc (.cells #[.int .i64 0, .int .i64 0, .int .i64 0, .int .i64 0, .int .i64 0, .int .i64 0, .int .i64 0] 59)) by
    have k1 := (Below.refl w.heap.size w).alloc (Nat.le_refl _) (.cells #[.int .i64 0, .int .i64 0, .int .i64 0, .int .i64 0, .int .i64 0, .int .i64 0, .int .i64 0] 59)
    have k2 := k1.alloc (by simp) (.cells #[.int .i64 0, .int .i64 0, .int .i64 0, .int .i64 0, .int .i64 0, .int .i64 0, .int .i64 0] 59)
    have e2 := XS.new (w.alloc (.cells #[.int .i64 0, .int .i64 0, .int .i64 0, .int .i64 0, .int .i64 0, .int .i64 0, .int .i64 0] 59)) #[.int .i64 0, .int .i64 0, .int .i64 0, .int .i64 0, .int .i64 0, .int .i64 0, .int .i64 0] 59
    rw [World.size_alloc] at e2
    exact ⟨e2, (XS.new w _ _).alloc _, h.kept (k2.block g hgl), grown_below k2⟩)
  clear h h1 h2 h3 h4 h5 h6 h7
  go_enter Tryz.func48, Tryz.ntmps48
  go_wp2_with fail
  generalize (w.alloc (.cells #[.int .i64 0, .int .i64 0, .int .i64 0, .int .i64 0, .int .i64 0, .int .i64 0, .int .i64 0] 59)).alloc (.cells #[.int .i64 0, .int .i64 0, .int .i64 0, .int .i64 0, .int .i64 0, .int .i64 0, .int .i64 0] 59) = w0 at H0 ⊢
  go_loopw [5] (fun i wr => ∃ (j : Nat), i = .int .i64 (j : Int) ∧ j ≤ 7 ∧ TdS w g s (tolA k f t tm ix lt cm j) (tolR r r1 r2 r3 r4 r5 r6 r7 j) wr) (fun i _ => 7 - (intOf i).toNat)
  case atStart => exact ⟨0, rfl, by omega, H0.out⟩
  case round =>
    obtain ⟨j, rfl, hj, hS⟩ := hrel
    by_cases hlt : j < 7
    · have j0 : (j : Int) < 7 := by omega
      obtain ⟨hz, hst⟩ := tolA_at k f t tm ix lt cm j hlt
      by_cases h3 : j < 3
      · have j3 : (j : Int) < 3 := by omega
        have HC := hide (HB.out j h3 wr hS.c)
        have HS := hide hS
        have HST := hide hst
        have HZ := hide hz
        generalize tolV k f t tm ix lt cm j = nz at HC HST
        clear hS hst hz
        go_wp2_with fail
        refine HC.out.mono ?_
        rintro e y1 ⟨rfl, hc, hg⟩
        have HX := hide (HS.out.x.kept hg (fun q => by have := Option.some.inj q; omega))
        have HY := hide (HS.out.z.kept hg (fun q => by have := Option.some.inj q; omega))
        have HCC := hide hc
        have HG := hide (grown_trans HS.out.gr hg)
        clear hc hg HS HC
        have f0 := HX.out.free j
        have c0 := HX.out.cell j HZ.out
        go_wp2_with fail
        go_roundw
        case rel =>
          refine ⟨j + 1, by go_num, by omega, ?_, HY.out.kept (blk_grown _ _ _ _) (fun q => by have := Option.some.inj q; omega), HCC.out.kept ((blk_grown _ _ _ _).block g HCC.out.lt (fun q => by have := Option.some.inj q; omega)), grown_low15 HG.out ((Below.refl _ _).setCell (by simp) _)⟩
          rw [← HST.out]
          exact HX.out.set j _
        case measure => simp [intOf]; omega
      · have j3 : ¬ (j : Int) < 3 := by omega
        have HC := hide (HN.out j (by omega) hlt wr hS.c)
        have HS := hide hS
        have HST := hide hst
        have HZ := hide hz
        generalize tolV k f t tm ix lt cm j = nz at HC HST
        clear hS hst hz
        go_wp2_with fail
        refine HC.out.mono ?_
        rintro e y1 ⟨rfl, hc, hg⟩
        have HX := hide (HS.out.x.kept hg (fun q => by have := Option.some.inj q; omega))
        have HY := hide (HS.out.z.kept hg (fun q => by have := Option.some.inj q; omega))
        have HCC := hide hc
        have HG := hide (grown_trans HS.out.gr hg)
        clear hc hg HS HC
        have f0 := HX.out.free j
        have c0 := HX.out.cell j HZ.out
        go_wp2_with fail
        go_roundw
        case rel =>
          refine ⟨j + 1, by go_num, by omega, ?_, HY.out.kept (blk_grown _ _ _ _) (fun q => by have := Option.some.inj q; omega), HCC.out.kept ((blk_grown _ _ _ _).block g HCC.out.lt (fun q => by have := Option.some.inj q; omega)), grown_low15 HG.out ((Below.refl _ _).setCell (by simp) _)⟩
          rw [← HST.out]
          exact HX.out.set j _
        case measure => simp [intOf]; omega
    · have hjn : j = 7 := by omega
      subst hjn
      have HS := hide (show TdS w g s #[.int .i64 (k : Int), .int .i64 (f : Int), .int .i64 (t : Int), .int .i64 (tm : Int), .int .i64 (ix : Int), .int .i64 (lt : Int), .int .i64 (cm : Int)] r7 wr from hS)
      obtain ⟨k0, k1, k2, k3, k4, k5, k6⟩ := xs7 HS.out.x
      obtain ⟨y0, y1, y2, y3, y4, y5, y6⟩ := xs7 HS.out.z
      have f0 := HS.out.z.free 0
      have f1 := HS.out.z.free 1
      have f2 := HS.out.z.free 2
      have f3 := HS.out.z.free 3
      have f4 := HS.out.z.free 4
      have f5 := HS.out.z.free 5
      have f6 := HS.out.z.free 6
      clear hS
      go_wp2_with fail
      obtain ⟨w6, hw6, hR6, hg6⟩ := sets7 HS.out.z (.int .i64 (k : Int)) (.int .i64 (f : Int)) (.int .i64 (t : Int)) (.int .i64 (tm : Int)) (.int .i64 (ix : Int)) (.int .i64 (lt : Int)) (.int .i64 (cm : Int))
      rw [hw6]
      obtain ⟨q0, q1, q2, q3, q4, q5, q6⟩ := xs7 hR6
      refine bodyPost_ret (v := nv7 k f t tm ix lt cm) (by simp [results, Tryz.results48, go_sem, q0, q1, q2, q3, q4, q5, q6]) rfl ⟨rfl, ?_, ?_⟩
      · exact HS.out.c.kept (hg6.block g HS.out.c.lt (fun q => by have := Option.some.inj q; omega))
      · exact grown_low15 HS.out.gr ((Below.refl _ _).grown hg6 HS.out.gr.size (fun q hq => by cases hq; omega))

end Go.Proofs.YtmllcomppjkhhaaGreatDoor

namespace Go.Proofs.YtmllcomppjkhhaaGreatDoor
open Go.RowKit P1 P3 P9 P11 P12 P18 K
set_option linter.unusedVariables false
set_option linter.unusedSimpArgs false

set_option maxRecDepth 100000 in
set_option maxHeartbeats 4000000 in
theorem conv_any15 (k f t tm ix lt cm : Int) (w : World) :
    Calls Tryz.prog 49 #[nv7 k f t tm ix lt cm] w fun e w' => e = .returned (mgval k f t tm ix lt cm false (.slice none 0 0) (.slice none 0 0) [] false) ∧ Below w.heap.size w w' := by
  have HB := hide (((Below.refl w.heap.size w).alloc (Nat.le_refl _) (.cells #[.int .i64 k, .int .i64 f, .int .i64 t, .int .i64 tm, .int .i64 ix, .int .i64 lt, .int .i64 cm] 59)).alloc (by simp) (.cells #[.int .i64 k, .int .i64 f, .int .i64 t, .int .i64 tm, .int .i64 ix, .int .i64 lt, .int .i64 cm, .bool false, .slice none 0 0, .slice none 0 0, .string ⟨#[]⟩, .bool false] 27))
  go_enter Tryz.func49, Tryz.ntmps49
  go_wp2_with fail
  refine bodyPost_ret (v := mgval k f t tm ix lt cm false (.slice none 0 0) (.slice none 0 0) [] false) (by simp [results, Tryz.results49, go_sem]) rfl ⟨rfl, ?_⟩
  repeat (refine Below.setCell ?_ (by simp) _)
  exact HB.out

structure MrS (w W : World) (g p : Nat) (s : ByteArray) (r : Lf) (cs : Array Value) : Prop where
  c : FRL W g s r
  x : XS p cs 27 W
  z : XS w.heap.size #[.int .i64 0, .int .i64 0, .int .i64 0, .int .i64 0, .int .i64 0, .int .i64 0, .int .i64 0, .bool false, .slice none 0 0, .slice none 0 0, .string ⟨#[]⟩, .bool false] 27 W
  gr : w.grownBy W (some g)
  hp : w.heap.size < p
  hg : g < w.heap.size

theorem MrS.step {w W W' : World} {g p : Nat} {s : ByteArray} {r r' : Lf} {cs : Array Value} (h : MrS w W g p s r cs) (hc : FRL W' g s r') (hg : W.grownBy W' (some g)) : MrS w W' g p s r' cs :=
  ⟨hc, h.x.kept hg (fun q => by have := Option.some.inj q; have := h.hg; have := h.hp; omega), h.z.kept hg (fun q => by have := Option.some.inj q; have := h.hg; omega), grown_trans h.gr hg, h.hp, h.hg⟩

theorem MrS.put {w W W' : World} {g p : Nat} {s : ByteArray} {r : Lf} {cs cs' : Array Value} (h : MrS w W g p s r cs) (hx : XS p cs' 27 W') (hg : W.grownBy W' (some p)) : MrS w W' g p s r cs' := by
  have h1 := h.hg
  have h2 := h.hp
  exact ⟨h.c.kept (hg.block g h.c.lt (fun q => by have := Option.some.inj q; omega)), hx, h.z.kept hg (fun q => by have := Option.some.inj q; omega), grown_low15 h.gr ((Below.refl _ _).grown hg h.gr.size (fun j hj => by cases hj; omega)), h2, h1⟩

theorem own_put15 {W W' : World} {B : Nat} {e : TypeId} {k n : Nat} {v : Value} {xs : List Value} {b : Nat} (h : W.ownsRow B e k v n xs) (hg : W.grownBy W' (some b)) (hlt : b < B) : W'.ownsRow B e k v n xs := h.kept hg (Or.inr (fun q => by have := h.lt b q; omega))

def MmPost (k f t tm ix lt cm : Nat) (ok : Bool) (es : List EntV) (zs : List Int) (da : List UInt8) (la : Bool) (r : Lf) (g : Nat) (s : ByteArray) (w : World) (e : Ending) (w' : World) : Prop :=
  ∃ ve vc, e = .returned (mgval k f t tm ix lt cm ok ve vc da la) ∧ FRL w' g s r ∧ MgOwn w' w.heap.size ve vc es.length zs.length es zs ∧ w.grownBy w' (some g)

set_option maxRecDepth 100000 in
set_option maxHeartbeats 8000000 in
theorem messageR_any15 (g : Nat) (s : ByteArray) (hs : s.size ≤ 1048576) (r : Lf) {k f t tm ix lt cm : Nat} {r1 r2 r3 r4 r5 r6 r7 r8 r9 r10 r11 r12 : Lf} {ok la : Bool} {es : List EntV} {zs : List Int} {da : List UInt8} (h1 : byteL r = (k, r1)) (h2 : byteL r1 = (f, r2)) (h3 : byteL r2 = (t, r3)) (h4 : numL r3 = (tm, r4)) (h5 : numL r4 = (ix, r5)) (h6 : numL r5 = (lt, r6)) (h7 : numL r6 = (cm, r7)) (h8 : flagI r7 = (ok, r8)) (h9 : flagI r8 = (la, r9)) (h10 : entriesI r9 = (es, r10)) (h11 : confI r10 = (zs, r11)) (h12 : shL 20000 r11 = (da, r12)) (w : World) (h : FRL w g s r) :
    Calls Tryz.prog 17 #[.pointer (some ⟨g, 0, none⟩)] w fun e w' => MmPost k f t tm ix lt cm ok es zs da la r12 g s w e w' := by
  have hgl := h.lt
  have HTD := hide (fun w h => told_any15 g s hs r h1 h2 h3 h4 h5 h6 h7 w h)
  have HF8 := hide (fun w h => flagR_any15 g s hs r7 w h)
  have HF9 := hide (fun w h => flagR_any15 g s hs r8 w h)
  have HE10 := hide (fun w h => entriesR_any15 g s hs r9 w h)
  have HC11 := hide (fun w h => confR_any15 g s hs r10 w h)
  have HS12 := hide (fun w h => short_any g s hs r11 w h)
  rw [h8] at HF8
  rw [h9] at HF9
  rw [h10] at HE10
  rw [h11] at HC11
  rw [h12] at HS12
  simp only at HF8 HF9 HE10 HC11 HS12
  have hbz := (Below.refl w.heap.size w).alloc (Nat.le_refl _) (.cells #[.int .i64 0, .int .i64 0, .int .i64 0, .int .i64 0, .int .i64 0, .int .i64 0, .int .i64 0, .bool false, .slice none 0 0, .slice none 0 0, .string ⟨#[]⟩, .bool false] 27)
  have HC0 := hide (h.kept (hbz.block g hgl))
  have HZ0 := hide (XS.new w #[.int .i64 0, .int .i64 0, .int .i64 0, .int .i64 0, .int .i64 0, .int .i64 0, .int .i64 0, .bool false, .slice none 0 0, .slice none 0 0, .string ⟨#[]⟩, .bool false] 27)
  have HG0 := hide (grown_below (row := some g) hbz)
  clear h h1 h2 h3 h4 h5 h6 h7 h8 h9 h10 h11 h12 hbz
  go_enter Tryz.func17, Tryz.ntmps17
  go_wp2_with fail
  generalize w.alloc (.cells #[.int .i64 0, .int .i64 0, .int .i64 0, .int .i64 0, .int .i64 0, .int .i64 0, .int .i64 0, .bool false, .slice none 0 0, .slice none 0 0, .string ⟨#[]⟩, .bool false] 27) = w0 at HC0 HZ0 HG0 ⊢
  refine (HTD.out _ HC0.out).mono ?_
  rintro e w1 ⟨rfl, hc1, hg1⟩
  have HC1 := hide hc1
  have HZ1 := hide (HZ0.out.kept hg1 (fun q => by have := Option.some.inj q; omega))
  have HG1 := hide (grown_trans HG0.out hg1)
  clear hc1 hg1 HC0 HZ0 HG0
  go_wp2_with fail
  refine (conv_any15 _ _ _ _ _ _ _ _).mono ?_
  rintro e w2 ⟨rfl, hb2⟩
  have HC2 := hide (HC1.out.kept (hb2.block g HC1.out.lt))
  have HZ2 := hide (HZ1.out.on hb2)
  have HG2 := hide (grown_low15 HG1.out (hb2.mono HG1.out.size))
  have hz2 := HZ2.out.lt
  clear hb2 HC1 HZ1 HG1
  have hbn := (Below.refl w2.heap.size w2).alloc (Nat.le_refl _) (.cells #[.int .i64 (k : Int), .int .i64 (f : Int), .int .i64 (t : Int), .int .i64 (tm : Int), .int .i64 (ix : Int), .int .i64 (lt : Int), .int .i64 (cm : Int), .bool false, .slice none 0 0, .slice none 0 0, .string ⟨#[]⟩, .bool false] 27)
  have HK0 := hide (show MrS w (w2.alloc (.cells #[.int .i64 (k : Int), .int .i64 (f : Int), .int .i64 (t : Int), .int .i64 (tm : Int), .int .i64 (ix : Int), .int .i64 (lt : Int), .int .i64 (cm : Int), .bool false, .slice none 0 0, .slice none 0 0, .string ⟨#[]⟩, .bool false] 27)) g w2.heap.size s r7 #[.int .i64 (k : Int), .int .i64 (f : Int), .int .i64 (t : Int), .int .i64 (tm : Int), .int .i64 (ix : Int), .int .i64 (lt : Int), .int .i64 (cm : Int), .bool false, .slice none 0 0, .slice none 0 0, .string ⟨#[]⟩, .bool false] from ⟨HC2.out.kept (hbn.block g HC2.out.lt), XS.new _ _ _, HZ2.out.alloc _, grown_low15 HG2.out (hbn.mono HG2.out.size), hz2, hgl⟩)
  clear hbn HC2 HZ2 HG2
  go_upto_region 2 with fail
  generalize w2.alloc (.cells #[.int .i64 (k : Int), .int .i64 (f : Int), .int .i64 (t : Int), .int .i64 (tm : Int), .int .i64 (ix : Int), .int .i64 (lt : Int), .int .i64 (cm : Int), .bool false, .slice none 0 0, .slice none 0 0, .string ⟨#[]⟩, .bool false] 27) = v0 at HK0 ⊢
  generalize w2.heap.size = p at HK0 hz2 ⊢
  go_wp2_with fail
  refine (HF8.out _ HK0.out.c).mono ?_
  rintro e x1 ⟨rfl, hc, hg⟩
  have G1 := hide (HK0.out.step hc hg)
  have HK1 := hide (show MrS w (x1.setCell ⟨p, 7, none⟩ (.bool ok)) g p s r8 #[.int .i64 (k : Int), .int .i64 (f : Int), .int .i64 (t : Int), .int .i64 (tm : Int), .int .i64 (ix : Int), .int .i64 (lt : Int), .int .i64 (cm : Int), .bool ok, .slice none 0 0, .slice none 0 0, .string ⟨#[]⟩, .bool false] from G1.out.put (G1.out.x.set 7 (.bool ok)) (blk_grown _ _ _ _))
  clear hc hg HK0
  have f7 := G1.out.x.free 7
  have c7 := G1.out.x.cell 7 (u := .bool false) rfl
  go_wp2_with fail
  clear f7 c7 G1
  generalize x1.setCell ⟨p, 7, none⟩ (.bool ok) = v1 at HK1 ⊢
  refine (HF9.out _ HK1.out.c).mono ?_
  rintro e x2 ⟨rfl, hc, hg⟩
  have G2 := hide (HK1.out.step hc hg)
  have HK2 := hide (show MrS w (x2.setCell ⟨p, 11, none⟩ (.bool la)) g p s r9 #[.int .i64 (k : Int), .int .i64 (f : Int), .int .i64 (t : Int), .int .i64 (tm : Int), .int .i64 (ix : Int), .int .i64 (lt : Int), .int .i64 (cm : Int), .bool ok, .slice none 0 0, .slice none 0 0, .string ⟨#[]⟩, .bool la] from G2.out.put (G2.out.x.set 11 (.bool la)) (blk_grown _ _ _ _))
  clear hc hg HK1
  have f7 := G2.out.x.free 11
  have c7 := G2.out.x.cell 11 (u := .bool false) rfl
  go_wp2_with fail
  clear f7 c7 G2
  generalize x2.setCell ⟨p, 11, none⟩ (.bool la) = v2 at HK2 ⊢
  refine (HE10.out _ HK2.out.c).mono ?_
  rintro e x3 ⟨ve, rfl, hc, ho, hg⟩
  obtain ⟨oa, cl, hve⟩ := row_form ho
  subst hve
  have G3 := hide (HK2.out.step hc hg)
  have HO3 := hide (own_put15 (own_base ho (show p + 1 ≤ v2.heap.size from HK2.out.x.lt)) (blk_grown x3 p 8 (.slice oa es.length cl)) (by omega))
  have HK3 := hide (show MrS w (x3.setCell ⟨p, 8, none⟩ (.slice oa es.length cl)) g p s r10 #[.int .i64 (k : Int), .int .i64 (f : Int), .int .i64 (t : Int), .int .i64 (tm : Int), .int .i64 (ix : Int), .int .i64 (lt : Int), .int .i64 (cm : Int), .bool ok, .slice oa es.length cl, .slice none 0 0, .string ⟨#[]⟩, .bool la] from G3.out.put (G3.out.x.set 8 (.slice oa es.length cl)) (blk_grown _ _ _ _))
  clear hc ho hg HK2
  have f7 := G3.out.x.free 8
  have c7 := G3.out.x.cell 8 (u := .slice none 0 0) rfl
  go_wp2_with fail
  clear f7 c7 G3
  generalize x3.setCell ⟨p, 8, none⟩ (.slice oa es.length cl) = v3 at HK3 HO3 ⊢
  refine (HC11.out _ HK3.out.c).mono ?_
  rintro e x4 ⟨vc, rfl, hc, ho, hg⟩
  obtain ⟨ob, cp, hvc⟩ := row_form ho
  subst hvc
  have G4 := hide (HK3.out.step hc hg)
  have HO4 := hide (own_put15 (own_put15 HO3.out hg (by omega)) (blk_grown x4 p 9 (.slice ob zs.length cp)) (by omega))
  have HI4 := hide (own_put15 (own_base ho (show p + 1 ≤ v3.heap.size from HK3.out.x.lt)) (blk_grown x4 p 9 (.slice ob zs.length cp)) (by omega))
  have HK4 := hide (show MrS w (x4.setCell ⟨p, 9, none⟩ (.slice ob zs.length cp)) g p s r11 #[.int .i64 (k : Int), .int .i64 (f : Int), .int .i64 (t : Int), .int .i64 (tm : Int), .int .i64 (ix : Int), .int .i64 (lt : Int), .int .i64 (cm : Int), .bool ok, .slice oa es.length cl, .slice ob zs.length cp, .string ⟨#[]⟩, .bool la] from G4.out.put (G4.out.x.set 9 (.slice ob zs.length cp)) (blk_grown _ _ _ _))
  clear hc ho hg HK3 HO3
  have f7 := G4.out.x.free 9
  have c7 := G4.out.x.cell 9 (u := .slice none 0 0) rfl
  go_wp2_with fail
  clear f7 c7 G4
  generalize x4.setCell ⟨p, 9, none⟩ (.slice ob zs.length cp) = v4 at HK4 HO4 HI4 ⊢
  refine (HS12.out _ HK4.out.c).mono ?_
  rintro e x5 ⟨rfl, hc, hg⟩
  have G5 := hide (HK4.out.step hc hg)
  have HO5 := hide (own_put15 (own_put15 HO4.out hg (by omega)) (blk_grown x5 p 10 (.string ⟨da.toArray⟩)) (by omega))
  have HI5 := hide (own_put15 (own_put15 HI4.out hg (by omega)) (blk_grown x5 p 10 (.string ⟨da.toArray⟩)) (by omega))
  have HK5 := hide (show MrS w (x5.setCell ⟨p, 10, none⟩ (.string ⟨da.toArray⟩)) g p s r12 #[.int .i64 (k : Int), .int .i64 (f : Int), .int .i64 (t : Int), .int .i64 (tm : Int), .int .i64 (ix : Int), .int .i64 (lt : Int), .int .i64 (cm : Int), .bool ok, .slice oa es.length cl, .slice ob zs.length cp, .string ⟨da.toArray⟩, .bool la] from G5.out.put (G5.out.x.set 10 (.string ⟨da.toArray⟩)) (blk_grown _ _ _ _))
  clear hc hg HK4 HO4 HI4
  have f7 := G5.out.x.free 10
  have c7 := G5.out.x.cell 10 (u := .string ⟨#[]⟩) rfl
  go_upto_region 7 with fail
  clear f7 c7 G5
  generalize x5.setCell ⟨p, 10, none⟩ (.string ⟨da.toArray⟩) = v5 at HK5 HO5 HI5 ⊢
  obtain ⟨k0, k1, k2, k3, k4, k5, k6, k7, k8, k9, k10, k11⟩ := xs12 HK5.out.x
  have y0 := HK5.out.z.free 0
  have y1 := HK5.out.z.free 1
  have y2 := HK5.out.z.free 2
  have y3 := HK5.out.z.free 3
  have y4 := HK5.out.z.free 4
  have y5 := HK5.out.z.free 5
  have y6 := HK5.out.z.free 6
  have y7 := HK5.out.z.free 7
  have y8 := HK5.out.z.free 8
  have y9 := HK5.out.z.free 9
  have y10 := HK5.out.z.free 10
  have y11 := HK5.out.z.free 11
  obtain ⟨zz0, zz1, zz2, zz3, zz4, zz5, zz6, zz7, zz8, zz9, zz10, zz11⟩ := xs12 HK5.out.z
  go_wp2_with fail
  obtain ⟨w6, hw6, hR6, hg6⟩ := sets12 HK5.out.z (.int .i64 (k : Int)) (.int .i64 (f : Int)) (.int .i64 (t : Int)) (.int .i64 (tm : Int)) (.int .i64 (ix : Int)) (.int .i64 (lt : Int)) (.int .i64 (cm : Int)) (.bool ok) (.slice oa es.length cl) (.slice ob zs.length cp) (.string ⟨da.toArray⟩) (.bool la)
  rw [hw6]
  clear hw6
  obtain ⟨q0, q1, q2, q3, q4, q5, q6, q7, q8, q9, q10, q11⟩ := xs12 hR6
  refine bodyPost_ret (v := mgval k f t tm ix lt cm ok (.slice oa es.length cl) (.slice ob zs.length cp) da la) (by simp [results, Tryz.results17, go_sem, q0, q1, q2, q3, q4, q5, q6, q7, q8, q9, q10, q11]) rfl ⟨_, _, rfl, ?_, ⟨?_, ?_⟩, ?_⟩
  · exact HK5.out.c.kept (hg6.block g HK5.out.c.lt (fun q => by have := Option.some.inj q; omega))
  · exact own_base (own_put15 HO5.out hg6 (by omega)) (by omega)
  · exact own_base (own_put15 HI5.out hg6 (by omega)) (by omega)
  · exact grown_low15 HK5.out.gr ((Below.refl _ _).grown hg6 HK5.out.gr.size (fun q hq => by cases hq; omega))

end Go.Proofs.YtmllcomppjkhhaaGreatDoor

namespace Go.Proofs.YtmllcomppjkhhaaGreatDoor
open Go.RowKit P1 P3 P9 P11 P12 P18 K
set_option linter.unusedVariables false
set_option linter.unusedSimpArgs false

def MdPost (x : MsgV × Bool) (w : World) (e : Ending) (w' : World) : Prop :=
  ∃ ve vc, e = .returned (.tuple #[mgval x.1.kd x.1.fr x.1.to x.1.tm x.1.ix x.1.lt x.1.cm x.1.ok ve vc x.1.da x.1.la, .bool x.2]) ∧ MgOwn w' w.heap.size ve vc x.1.es.length x.1.cf.length x.1.es x.1.cf ∧ Below w.heap.size w w'

theorem MdPost.zero {x : MsgV × Bool} {w w' : World} (h : x = (zeroMsg, false)) (hb : Below w.heap.size w w') : MdPost x w (.returned (.tuple #[mgval 0 0 0 0 0 0 0 false (.slice none 0 0) (.slice none 0 0) [] false, .bool false])) w' := by
  subst h
  exact ⟨_, _, rfl, ⟨World.ownsRow_nil _ _ _ _, World.ownsRow_nil _ _ _ _⟩, hb⟩

theorem MdPost.found {x : MsgV × Bool} {m : MsgV} {w w' : World} {ve vc : Value} (h : x = (m, true)) (ho : MgOwn w' w.heap.size ve vc m.es.length m.cf.length m.es m.cf) (hb : Below w.heap.size w w') : MdPost x w (.returned (.tuple #[mgval m.kd m.fr m.to m.tm m.ix m.lt m.cm m.ok ve vc m.da m.la, .bool true])) w' := by
  subst h
  exact ⟨_, _, rfl, ho, hb⟩

set_option maxRecDepth 100000 in
set_option maxHeartbeats 8000000 in
theorem implDecode_any (s : ByteArray) (hs : s.size ≤ 1048576) (w : World) (hL : LimIs w) :
    Calls Tryz.prog 7 #[.string s] w fun e w' => MdPost (mdR (bl s)) w e w' := by
  obtain ⟨k, r1, h1⟩ : ∃ i q, byteL (some (bl s)) = (i, q) := ⟨_, _, rfl⟩
  obtain ⟨f, r2, h2⟩ : ∃ i q, byteL r1 = (i, q) := ⟨_, _, rfl⟩
  obtain ⟨t, r3, h3⟩ : ∃ i q, byteL r2 = (i, q) := ⟨_, _, rfl⟩
  obtain ⟨tm, r4, h4⟩ : ∃ i q, numL r3 = (i, q) := ⟨_, _, rfl⟩
  obtain ⟨ix, r5, h5⟩ : ∃ i q, numL r4 = (i, q) := ⟨_, _, rfl⟩
  obtain ⟨lt, r6, h6⟩ : ∃ i q, numL r5 = (i, q) := ⟨_, _, rfl⟩
  obtain ⟨cm, r7, h7⟩ : ∃ i q, numL r6 = (i, q) := ⟨_, _, rfl⟩
  obtain ⟨ok, r8, h8⟩ : ∃ i q, flagI r7 = (i, q) := ⟨_, _, rfl⟩
  obtain ⟨la, r9, h9⟩ : ∃ i q, flagI r8 = (i, q) := ⟨_, _, rfl⟩
  obtain ⟨es, r10, h10⟩ : ∃ i q, entriesI r9 = (i, q) := ⟨_, _, rfl⟩
  obtain ⟨zs, r11, h11⟩ : ∃ i q, confI r10 = (i, q) := ⟨_, _, rfl⟩
  obtain ⟨da, r12, h12⟩ : ∃ i q, shL 20000 r11 = (i, q) := ⟨_, _, rfl⟩
  have hmd : msgI (bl s) = (⟨k, f, t, tm, ix, lt, cm, ok, es, zs, da, la⟩, r12) := by
    unfold msgI
    simp only [h1, h2, h3, h4, h5, h6, h7, h8, h9, h10, h11, h12]
  have hen : es.length ≤ 4 := by
    have : (entriesI r9).1.length ≤ 4 := by unfold entriesI; rw [itE_len]; unfold countI; split <;> omega
    rw [h10] at this; exact this
  have hed : ∀ e ∈ es, e.data.size ≤ 1048576 := by
    have : ∀ e ∈ (entriesI r9).1, e.data.size ≤ 120 := itE_small _ _
    rw [h10] at this
    exact fun e he => Nat.le_trans (this e he) (by omega)
  have hzn : zs.length ≤ 4 ∧ ∀ z ∈ zs, (Lit.int .i64 z).wf = true := by
    have : (confI r10).1.length ≤ 4 ∧ ∀ z ∈ (confI r10).1, (Lit.int .i64 z).wf = true := by
      unfold confI
      split
      · simp
      · split
        · rename_i hc
          exact ⟨(confOk_len hc).2, confZ_wf _⟩
        · simp
    rw [h11] at this; exact this
  have hdl : da.length ≤ 20000 := by have := shL_len15 (most := 20000) r11; rw [h12] at this; exact this
  have HM := hide (fun g w h => messageR_any15 g s hs (some (bl s)) h1 h2 h3 h4 h5 h6 h7 h8 h9 h10 h11 h12 w h)
  have HMD := hide hmd
  have HED := hide hed
  have HZW := hide hzn.2
  have hzl := hzn.1
  clear h1 h2 h3 h4 h5 h6 h7 h8 h9 h10 h11 h12 hmd hed hzn
  have hb0 := ((Below.refl w.heap.size w).alloc (Nat.le_refl _) (.cells #[.int .i64 0, .int .i64 0, .int .i64 0, .int .i64 0, .int .i64 0, .int .i64 0, .int .i64 0, .bool false, .slice none 0 0, .slice none 0 0, .string ⟨#[]⟩, .bool false] 27)).alloc (by simp) (.cells #[.string s, .int .i64 0] 50)
  have HZ0 := hide ((XS.new w #[.int .i64 0, .int .i64 0, .int .i64 0, .int .i64 0, .int .i64 0, .int .i64 0, .int .i64 0, .bool false, .slice none 0 0, .slice none 0 0, .string ⟨#[]⟩, .bool false] 27).alloc (.cells #[.string s, .int .i64 0] 50))
  have HFR := hide (show FRL ((w.alloc (.cells #[.int .i64 0, .int .i64 0, .int .i64 0, .int .i64 0, .int .i64 0, .int .i64 0, .int .i64 0, .bool false, .slice none 0 0, .slice none 0 0, .string ⟨#[]⟩, .bool false] 27)).alloc (.cells #[.string s, .int .i64 0] 50)) (w.heap.size + 1) s (some (bl s)) by
    have q := heap_alloc_new (w.alloc (.cells #[.int .i64 0, .int .i64 0, .int .i64 0, .int .i64 0, .int .i64 0, .int .i64 0, .int .i64 0, .bool false, .slice none 0 0, .slice none 0 0, .string ⟨#[]⟩, .bool false] 27)) (.cells #[.string s, .int .i64 0] 50)
    rw [World.size_alloc] at q
    exact FRL.mk (a := 0) (Nat.zero_le _) q)
  have HB0 := hide hb0
  have HS0 := hide (show ((w.alloc (.cells #[.int .i64 0, .int .i64 0, .int .i64 0, .int .i64 0, .int .i64 0, .int .i64 0, .int .i64 0, .bool false, .slice none 0 0, .slice none 0 0, .string ⟨#[]⟩, .bool false] 27)).alloc (.cells #[.string s, .int .i64 0] 50)).heap.size = w.heap.size + 1 + 1 by simp)
  have HLI := hide hL
  clear hb0 hL
  go_enter Tryz.func7, Tryz.ntmps7
  go_wp2_with fail
  generalize (w.alloc (.cells #[.int .i64 0, .int .i64 0, .int .i64 0, .int .i64 0, .int .i64 0, .int .i64 0, .int .i64 0, .bool false, .slice none 0 0, .slice none 0 0, .string ⟨#[]⟩, .bool false] 27)).alloc (.cells #[.string s, .int .i64 0] 50) = w0 at HZ0 HFR HB0 HS0 ⊢
  refine (HM.out _ _ HFR.out).mono ?_
  rintro e w1 ⟨ve, vc, rfl, hc1, ho1, hg1⟩
  obtain ⟨oa, cl, hve⟩ := row_form ho1.l
  obtain ⟨ob, cp, hvc⟩ := row_form ho1.p
  subst hve
  subst hvc
  have hs0 := HS0.out
  have HZ1 := hide (HZ0.out.kept hg1 (fun q => by have := Option.some.inj q; omega))
  have HB1 := hide (HB0.out.grown hg1 HB0.out.size (fun j hj => by cases hj; omega))
  have HO1 := hide ho1
  have HC1 := hide hc1
  have hs1 := hg1.size
  clear hc1 ho1 hg1 HZ0 HFR HB0 HM
  have hnb := (Below.refl w1.heap.size w1).alloc (Nat.le_refl _) (.cells #[.int .i64 (k : Int), .int .i64 (f : Int), .int .i64 (t : Int), .int .i64 (tm : Int), .int .i64 (ix : Int), .int .i64 (lt : Int), .int .i64 (cm : Int), .bool ok, .slice oa es.length cl, .slice ob zs.length cp, .string ⟨da.toArray⟩, .bool la] 27)
  have HX2 := hide (XS.new w1 #[.int .i64 (k : Int), .int .i64 (f : Int), .int .i64 (t : Int), .int .i64 (tm : Int), .int .i64 (ix : Int), .int .i64 (lt : Int), .int .i64 (cm : Int), .bool ok, .slice oa es.length cl, .slice ob zs.length cp, .string ⟨da.toArray⟩, .bool la] 27)
  have HZ2 := hide (HZ1.out.alloc (.cells #[.int .i64 (k : Int), .int .i64 (f : Int), .int .i64 (t : Int), .int .i64 (tm : Int), .int .i64 (ix : Int), .int .i64 (lt : Int), .int .i64 (cm : Int), .bool ok, .slice oa es.length cl, .slice ob zs.length cp, .string ⟨da.toArray⟩, .bool la] 27))
  have HO2 := hide (HO1.out.on hnb)
  have HC2 := hide (HC1.out.kept (hnb.block _ HC1.out.lt))
  have HB2 := hide (HB1.out.trans (hnb.mono HB1.out.size))
  clear hnb HZ1 HO1 HC1 HB1
  go_wp2_with fail
  generalize w1.alloc (.cells #[.int .i64 (k : Int), .int .i64 (f : Int), .int .i64 (t : Int), .int .i64 (tm : Int), .int .i64 (ix : Int), .int .i64 (lt : Int), .int .i64 (cm : Int), .bool ok, .slice oa es.length cl, .slice ob zs.length cp, .string ⟨da.toArray⟩, .bool la] 27) = w2 at HX2 HZ2 HO2 HC2 HB2 ⊢
  have hp1 : w.heap.size + 1 + 1 ≤ w1.heap.size := by omega
  generalize w1.heap.size = p at HX2 hp1 ⊢
  refine (ended_any _ s hs r12 _ HC2.out).mono ?_
  rintro e w3 ⟨rfl, hdr⟩
  have HX3 := hide (HX2.out.on hdr.below)
  have HZ3 := hide (HZ2.out.on hdr.below)
  have HO3 := hide (HO2.out.on hdr.below)
  have HB3 := hide (HB2.out.trans (hdr.below.mono HB2.out.size))
  clear hdr HX2 HZ2 HO2 HC2 HB2
  have HMO := hide (fun w ht hat hbt => implMessageOk_any k f t tm ix lt cm ok oa es.length cl ob zs.length cp da la es zs (by omega) w ht hat hbt HED.out (by omega) (by omega))
  by_cases hr : r12 = some []
  · rw [decide_eq_true hr]
    obtain ⟨b, hb⟩ : ∃ b, msgOk ⟨k, f, t, tm, ix, lt, cm, ok, es, zs, da, la⟩ = b := ⟨_, rfl⟩
    rw [hb] at HMO
    obtain ⟨k0, k1, k2, k3, k4, k5, k6, k7, k8, k9, k10, k11⟩ := xs12 HX3.out
    obtain ⟨_, _, he, hat3⟩ := entsAt_own HO3.out.l
    cases he
    obtain ⟨_, _, he, hbt3⟩ := intsAt_of_own HO3.out.p HZW.out
    cases he
    have HA3 := hide hat3
    have HI3 := hide hbt3
    clear hat3 hbt3
    cases b with
    | false =>
      have HR := hide (show mdR (bl s) = (zeroMsg, false) by unfold mdR; rw [HMD.out, if_neg (by simp [hb])])
      clear hb
      go_wp2_with fail
      refine (HMO.out _ (HLI.out.on HB3.out) HA3.out HI3.out).mono ?_
      rintro e w4 ⟨rfl, hb4⟩
      have HZ4 := hide (HZ3.out.on hb4)
      have HB4 := hide (HB3.out.trans (hb4.mono HB3.out.size))
      clear hb4 k0 k1 k2 k3 k4 k5 k6 k7 k8 k9 k10 k11
      have y0 := HZ4.out.free 0
      have y1 := HZ4.out.free 1
      have y2 := HZ4.out.free 2
      have y3 := HZ4.out.free 3
      have y4 := HZ4.out.free 4
      have y5 := HZ4.out.free 5
      have y6 := HZ4.out.free 6
      have y7 := HZ4.out.free 7
      have y8 := HZ4.out.free 8
      have y9 := HZ4.out.free 9
      have y10 := HZ4.out.free 10
      have y11 := HZ4.out.free 11
      obtain ⟨zz0, zz1, zz2, zz3, zz4, zz5, zz6, zz7, zz8, zz9, zz10, zz11⟩ := xs12 HZ4.out
      go_wp2_with fail
      obtain ⟨w6, hw6, hR6, hg6⟩ := sets12 HZ4.out (.int .i64 0) (.int .i64 0) (.int .i64 0) (.int .i64 0) (.int .i64 0) (.int .i64 0) (.int .i64 0) (.bool false) (.slice none 0 0) (.slice none 0 0) (.string ⟨#[]⟩) (.bool false)
      rw [hw6]
      clear hw6
      obtain ⟨q0, q1, q2, q3, q4, q5, q6, q7, q8, q9, q10, q11⟩ := xs12 hR6
      refine bodyPost_ret (v := .tuple #[mgval 0 0 0 0 0 0 0 false (.slice none 0 0) (.slice none 0 0) [] false, .bool false]) (by simp [results, Tryz.results7, go_sem, q0, q1, q2, q3, q4, q5, q6, q7, q8, q9, q10, q11]) rfl ?_
      exact MdPost.zero HR.out (HB4.out.grown hg6 HB4.out.size (fun q hq => by cases hq; omega))
    | true =>
      have HR := hide (show mdR (bl s) = (⟨k, f, t, tm, ix, lt, cm, ok, es, zs, da, la⟩, true) by unfold mdR; rw [HMD.out, if_pos ⟨hr, hb⟩])
      clear hb
      go_wp2_with fail
      refine (HMO.out _ (HLI.out.on HB3.out) HA3.out HI3.out).mono ?_
      rintro e w4 ⟨rfl, hb4⟩
      have HZ4 := hide (HZ3.out.on hb4)
      have HX4 := hide (HX3.out.on hb4)
      have HO4 := hide (HO3.out.on hb4)
      have HB4 := hide (HB3.out.trans (hb4.mono HB3.out.size))
      clear hb4 k0 k1 k2 k3 k4 k5 k6 k7 k8 k9 k10 k11
      obtain ⟨k0, k1, k2, k3, k4, k5, k6, k7, k8, k9, k10, k11⟩ := xs12 HX4.out
      have y0 := HZ4.out.free 0
      have y1 := HZ4.out.free 1
      have y2 := HZ4.out.free 2
      have y3 := HZ4.out.free 3
      have y4 := HZ4.out.free 4
      have y5 := HZ4.out.free 5
      have y6 := HZ4.out.free 6
      have y7 := HZ4.out.free 7
      have y8 := HZ4.out.free 8
      have y9 := HZ4.out.free 9
      have y10 := HZ4.out.free 10
      have y11 := HZ4.out.free 11
      obtain ⟨zz0, zz1, zz2, zz3, zz4, zz5, zz6, zz7, zz8, zz9, zz10, zz11⟩ := xs12 HZ4.out
      go_wp2_with fail
      obtain ⟨w6, hw6, hR6, hg6⟩ := sets12 HZ4.out (.int .i64 (k : Int)) (.int .i64 (f : Int)) (.int .i64 (t : Int)) (.int .i64 (tm : Int)) (.int .i64 (ix : Int)) (.int .i64 (lt : Int)) (.int .i64 (cm : Int)) (.bool ok) (.slice oa es.length cl) (.slice ob zs.length cp) (.string ⟨da.toArray⟩) (.bool la)
      rw [hw6]
      clear hw6
      obtain ⟨q0, q1, q2, q3, q4, q5, q6, q7, q8, q9, q10, q11⟩ := xs12 hR6
      refine bodyPost_ret (v := .tuple #[mgval k f t tm ix lt cm ok (.slice oa es.length cl) (.slice ob zs.length cp) da la, .bool true]) (by simp [results, Tryz.results7, go_sem, q0, q1, q2, q3, q4, q5, q6, q7, q8, q9, q10, q11]) rfl ?_
      exact MdPost.found HR.out ((HO4.out.kept hg6 (by omega)).down (by omega)) (HB4.out.grown hg6 HB4.out.size (fun q hq => by cases hq; omega))
  · rw [decide_eq_false hr]
    have HR := hide (show mdR (bl s) = (zeroMsg, false) by unfold mdR; rw [HMD.out, if_neg (by simp [hr])])
    have HZ4 := hide HZ3.out
    have HB4 := hide HB3.out
    have y0 := HZ4.out.free 0
    have y1 := HZ4.out.free 1
    have y2 := HZ4.out.free 2
    have y3 := HZ4.out.free 3
    have y4 := HZ4.out.free 4
    have y5 := HZ4.out.free 5
    have y6 := HZ4.out.free 6
    have y7 := HZ4.out.free 7
    have y8 := HZ4.out.free 8
    have y9 := HZ4.out.free 9
    have y10 := HZ4.out.free 10
    have y11 := HZ4.out.free 11
    obtain ⟨zz0, zz1, zz2, zz3, zz4, zz5, zz6, zz7, zz8, zz9, zz10, zz11⟩ := xs12 HZ4.out
    go_wp2_with fail
    obtain ⟨w6, hw6, hR6, hg6⟩ := sets12 HZ4.out (.int .i64 0) (.int .i64 0) (.int .i64 0) (.int .i64 0) (.int .i64 0) (.int .i64 0) (.int .i64 0) (.bool false) (.slice none 0 0) (.slice none 0 0) (.string ⟨#[]⟩) (.bool false)
    rw [hw6]
    clear hw6
    obtain ⟨q0, q1, q2, q3, q4, q5, q6, q7, q8, q9, q10, q11⟩ := xs12 hR6
    refine bodyPost_ret (v := .tuple #[mgval 0 0 0 0 0 0 0 false (.slice none 0 0) (.slice none 0 0) [] false, .bool false]) (by simp [results, Tryz.results7, go_sem, q0, q1, q2, q3, q4, q5, q6, q7, q8, q9, q10, q11]) rfl ?_
    exact MdPost.zero HR.out (HB4.out.grown hg6 HB4.out.size (fun q hq => by cases hq; omega))

end Go.Proofs.YtmllcomppjkhhaaGreatDoor
