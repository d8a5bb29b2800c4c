/-
  Walks and mathematics of Text7.
-/
import Derived.Test.YtckkfjmjcknjdaaGreatDoorRCText5
namespace Go.Proofs.YtckkfjmjcknjdaaGreatDoor.P3
end Go.Proofs.YtckkfjmjcknjdaaGreatDoor.P3
namespace Go.Proofs.YtckkfjmjcknjdaaGreatDoor
open Go.RowKit P1 P3 P9 P11 P12 P18 K
set_option linter.unusedVariables false
set_option linter.unusedSimpArgs false

def RcrPost (r : CmdV × Bool) (w : World) (e : Ending) (w' : World) : Prop :=
  ∃ vl vp, e = .returned (.tuple #[cmval r.1.op r.1.tk r.1.sq r.1.ev.id r.1.ev.kind r.1.ev.sender r.1.ev.user r.1.ev.member r.1.ev.depth vl vp r.1.ev.text r.1.ds r.1.up, .bool r.2]) ∧ EvOwn w' w.heap.size vl vp r.1.ev.levels.length r.1.ev.prev.length r.1.ev.levels r.1.ev.prev ∧ Below w.heap.size w w'

theorem RcrPost.zero {r : CmdV × Bool} {w w' : World} (h : r = (zeroCmd, false)) (hb : Below w.heap.size w w') : RcrPost r w (.returned (.tuple #[cmval 0 0 0 0 0 0 0 0 0 (.slice none 0 0) (.slice none 0 0) [] 0 0, .bool false])) w' := by
  subst h
  exact ⟨.slice none 0 0, .slice none 0 0, rfl, ⟨World.ownsRow_nil _ _ _ _, World.ownsRow_nil _ _ _ _, fun j hj => by cases hj⟩, hb⟩

theorem RcrPost.found {r : CmdV × Bool} {c : CmdV} {w w' : World} {vl vp : Value} (h : r = (c, true)) (ho : EvOwn w' w.heap.size vl vp c.ev.levels.length c.ev.prev.length c.ev.levels c.ev.prev) (hb : Below w.heap.size w w') : RcrPost r w (.returned (.tuple #[cmval c.op c.tk c.sq c.ev.id c.ev.kind c.ev.sender c.ev.user c.ev.member c.ev.depth vl vp c.ev.text c.ds c.up, .bool true])) w' := by
  subst h
  exact ⟨vl, vp, rfl, ho, hb⟩

theorem reR_small (l : List UInt8) : (reR l).1.levels.length ≤ 5 ∧ (reR l).1.prev.length ≤ 3 ∧ (reR l).1.text.length ≤ 24 ∧ (∀ z ∈ (reR l).1.levels, (Lit.int .i64 z).wf = true) ∧ (∀ z ∈ (reR l).1.prev, (Lit.int .i64 z).wf = true) := by
  unfold reR
  cases hr : rdEvent l with
  | none => simp [zeroEv]
  | some e =>
    have ht := rdEvent_iff.1 hr
    unfold evText at ht
    split at ht
    · rename_i hok
      have h := evOk_in hok
      exact ⟨h.many, h.prevs, h.text, fun z hz => by have := h.levels z hz; exact wf_small (by omega) (by omega), fun z hz => by have := h.prev z hz; exact wf_small (by omega) (by omega)⟩
    · cases ht

theorem tailI_small (op : Nat) (r : Lf) : (tailI op r).1.text.length ≤ 20000 ∧ (∀ z ∈ (tailI op r).1.levels, (Lit.int .i64 z).wf = true) ∧ (∀ z ∈ (tailI op r).1.prev, (Lit.int .i64 z).wf = true) := by
  unfold tailI
  by_cases c2 : op = 2
  · rw [if_pos c2]
    unfold bodyI
    exact ⟨shL_len (l := []) _, lsL_wf byteL (fun st => Nat.le_trans (byteL_le st) (by omega)) 5 _, fun z hz => by cases hz⟩
  · rw [if_neg c2]
    by_cases c3 : op = 3
    · rw [if_pos c3]
      unfold wholeI
      obtain ⟨_, _, h3, h4, h5⟩ := reR_small (shL 20000 r).1
      exact ⟨Nat.le_trans h3 (by omega), h4, h5⟩
    · rw [if_neg c3]
      by_cases c4 : op = 4
      · rw [if_pos c4]; simp [noEv]
      · rw [if_neg c4]; simp [noEv]

set_option maxRecDepth 100000 in
set_option maxHeartbeats 8000000 in
theorem implReadCommand_any (s : ByteArray) (hs : s.size ≤ 1048576) (w : World) :
    Calls Tryz.prog 14 #[.string s] w fun e w' => RcrPost (rcR (bl s)) w e w' := by
  obtain ⟨op, r1, h1⟩ : ∃ i q, byteL (some (bl s)) = (i, q) := ⟨_, _, rfl⟩
  obtain ⟨tk, r2, h2⟩ : ∃ i q, numL r1 = (i, q) := ⟨_, _, rfl⟩
  obtain ⟨sq, r3, h3⟩ : ∃ i q, numL r2 = (i, q) := ⟨_, _, rfl⟩
  obtain ⟨ev, ds, up, r4, h4⟩ : ∃ a b c d, tailI op r3 = (a, b, c, d) := ⟨_, _, _, _, rfl⟩
  have hci : cmdI (bl s) = ((⟨op, tk, sq, ev, ds, up⟩ : CmdV), r4) := by
    have hh : headI (bl s) = (op, tk, sq, r3) := by
      unfold headI
      simp only [h1, h2, h3]
    unfold cmdI
    rw [hh]
    simp only [h4]
  have HRC : rcR (bl s) = if r4 = some [] ∧ cmdOk (⟨op, tk, sq, ev, ds, up⟩ : CmdV) = true then ((⟨op, tk, sq, ev, ds, up⟩ : CmdV), true) else (zeroCmd, false) := by
    unfold rcR
    rw [hci]
  obtain ⟨hxl, hwl, hwp⟩ := tailI_small op r3
  rw [h4] at hxl hwl hwp
  simp only at hxl hwl hwp
  have HCM := hide (fun g w h => commandR_any g s hs (some (bl s)) w h h1 h2 h3 h4)
  clear h1 h2 h3 h4 hci
  obtain ⟨id, kd, sn, us, mb, zl, tx, zp, dp⟩ := ev
  unfold RcPost at HCM
  simp only at HCM hxl hwl hwp
  obtain ⟨NL, hNL⟩ : ∃ NL, zl.length = NL := ⟨_, rfl⟩
  obtain ⟨NP, hNP⟩ : ∃ NP, zp.length = NP := ⟨_, rfl⟩
  rw [hNL, hNP] at HCM
  have HNL := hide hNL
  have HNP := hide hNP
  have HRC2 := hide HRC
  clear HRC hNL hNP
  generalize rcR (bl s) = rc at HRC2 ⊢
  have HZ0 := hide (XS.new w #[.int .i64 0, .int .i64 0, .int .i64 0, .int .i64 0, .int .i64 0, .int .i64 0, .int .i64 0, .int .i64 0, .slice none 0 0, .string ⟨#[]⟩, .slice none 0 0, .int .i64 0, .int .i64 0, .int .i64 0] 31)
  have hb0 := ((Below.refl w.heap.size w).alloc (Nat.le_refl _) (.cells #[.int .i64 0, .int .i64 0, .int .i64 0, .int .i64 0, .int .i64 0, .int .i64 0, .int .i64 0, .int .i64 0, .slice none 0 0, .string ⟨#[]⟩, .slice none 0 0, .int .i64 0, .int .i64 0, .int .i64 0] 31)).alloc (by simp) (.cells #[.string s, .int .i64 0] 74)
  have HFR := hide (show FRL ((w.alloc (.cells #[.int .i64 0, .int .i64 0, .int .i64 0, .int .i64 0, .int .i64 0, .int .i64 0, .int .i64 0, .int .i64 0, .slice none 0 0, .string ⟨#[]⟩, .slice none 0 0, .int .i64 0, .int .i64 0, .int .i64 0] 31)).alloc (.cells #[.string s, .int .i64 0] 74)) (w.heap.size + 1) s (some (bl s)) by
    have q := heap_alloc_new (w.alloc (.cells #[.int .i64 0, .int .i64 0, .int .i64 0, .int .i64 0, .int .i64 0, .int .i64 0, .int .i64 0, .int .i64 0, .slice none 0 0, .string ⟨#[]⟩, .slice none 0 0, .int .i64 0, .int .i64 0, .int .i64 0] 31)) (.cells #[.string s, .int .i64 0] 74)
    rw [World.size_alloc] at q
    exact FRL.mk (a := 0) (Nat.zero_le _) q)
  have HZ1 := hide (HZ0.out.alloc (.cells #[.string s, .int .i64 0] 74))
  have HB0 := hide hb0
  have HS0 := hide (show ((w.alloc (.cells #[.int .i64 0, .int .i64 0, .int .i64 0, .int .i64 0, .int .i64 0, .int .i64 0, .int .i64 0, .int .i64 0, .slice none 0 0, .string ⟨#[]⟩, .slice none 0 0, .int .i64 0, .int .i64 0, .int .i64 0] 31)).alloc (.cells #[.string s, .int .i64 0] 74)).heap.size = w.heap.size + 1 + 1 by simp)
  have HWL := hide hwl
  have HWP := hide hwp
  clear hb0 hwl hwp HZ0
  go_enter Tryz.func14, Tryz.ntmps14
  go_wp2_with fail
  generalize ((w.alloc (.cells #[.int .i64 0, .int .i64 0, .int .i64 0, .int .i64 0, .int .i64 0, .int .i64 0, .int .i64 0, .int .i64 0, .slice none 0 0, .string ⟨#[]⟩, .slice none 0 0, .int .i64 0, .int .i64 0, .int .i64 0] 31)).alloc (.cells #[.string s, .int .i64 0] 74)) = w0 at HFR HZ1 HB0 HS0 ⊢
  refine (HCM.out _ _ HFR.out).mono ?_
  rintro e w1 ⟨vl, vp, rfl, hc1, ho1, hg1⟩
  obtain ⟨oa, cl, hvl⟩ := row_form ho1.l
  obtain ⟨ob, cp, hvp⟩ := row_form ho1.p
  subst hvl
  subst hvp
  have hs0 := HS0.out
  have HZ2 := hide (HZ1.out.kept hg1 (fun q => by have := Option.some.inj q; omega))
  have HB1 := hide (HB0.out.grown hg1 HB0.out.size (fun j hj => by cases hj; omega))
  have HC1 := hide hc1
  have HO1 := hide ho1
  have hs1 := hg1.size
  clear hc1 ho1 hg1 HZ1 HB0
  go_wp2_with fail
  have hbA := (Below.refl w1.heap.size w1).alloc (Nat.le_refl _) (.cells #[.int .i64 (op : Int), .int .i64 (tk : Int), .int .i64 (sq : Int), .int .i64 id, .int .i64 kd, .int .i64 sn, .int .i64 us, .int .i64 mb, .slice oa NL cl, .string ⟨tx.toArray⟩, .slice ob NP cp, .int .i64 dp, .int .i64 ds, .int .i64 up] 31)
  have HE2 := hide (XS.new w1 #[.int .i64 (op : Int), .int .i64 (tk : Int), .int .i64 (sq : Int), .int .i64 id, .int .i64 kd, .int .i64 sn, .int .i64 us, .int .i64 mb, .slice oa NL cl, .string ⟨tx.toArray⟩, .slice ob NP cp, .int .i64 dp, .int .i64 ds, .int .i64 up] 31)
  have HZ3 := hide (HZ2.out.on hbA)
  have HB2 := hide (HB1.out.trans (hbA.mono HB1.out.size))
  have HC2 := hide (HC1.out.kept (hbA.block _ HC1.out.lt))
  have HO2 := hide (HO1.out.on hbA)
  clear hbA HZ2 HB1 HC1 HO1
  generalize w1.alloc (.cells #[.int .i64 (op : Int), .int .i64 (tk : Int), .int .i64 (sq : Int), .int .i64 id, .int .i64 kd, .int .i64 sn, .int .i64 us, .int .i64 mb, .slice oa NL cl, .string ⟨tx.toArray⟩, .slice ob NP cp, .int .i64 dp, .int .i64 ds, .int .i64 up] 31) = w2 at HE2 HZ3 HB2 HC2 HO2 ⊢
  refine (ended_any _ s hs _ _ HC2.out).mono ?_
  by_cases c9 : r4 = some []
  · rw [decide_eq_true c9]
    rintro e w3 ⟨rfl, hd3⟩
    have hb3 := hd3.below
    have HE4 := hide (HE2.out.on hb3)
    have HZ4 := hide (HZ3.out.on hb3)
    have HB3 := hide (HB2.out.trans (hb3.mono HB2.out.size))
    have HO3 := hide (HO2.out.on hb3)
    clear hb3 hd3 HE2 HZ3 HB2 HC2 HO2
    have e0 := XS.cell HE4.out 0 rfl
    have e1 := XS.cell HE4.out 1 rfl
    have e2 := XS.cell HE4.out 2 rfl
    have e3 := XS.cell HE4.out 3 rfl
    have e4 := XS.cell HE4.out 4 rfl
    have e5 := XS.cell HE4.out 5 rfl
    have e6 := XS.cell HE4.out 6 rfl
    have e7 := XS.cell HE4.out 7 rfl
    have e8 := XS.cell HE4.out 8 rfl
    have e9 := XS.cell HE4.out 9 rfl
    have e10 := XS.cell HE4.out 10 rfl
    have e11 := XS.cell HE4.out 11 rfl
    have e12 := XS.cell HE4.out 12 rfl
    have e13 := XS.cell HE4.out 13 rfl
    go_wp2_with fail
    clear e0 e1 e2 e3 e4 e5 e6 e7 e8 e9 e10 e11 e12 e13
    obtain ⟨_, _, he, hat⟩ := intsAt_of_own HO3.out.l HWL.out
    cases he
    obtain ⟨_, _, he, hbt⟩ := intsAt_of_own HO3.out.p HWP.out
    cases he
    refine (implCommandOk_any (op : Int) (tk : Int) (sq : Int) id kd sn us mb dp oa NL cl tx ob NP cp ds up zl zp (by omega) _ hat hbt).mono ?_
    clear hat hbt
    cases cok : cmdOk (⟨op, tk, sq, ⟨id, kd, sn, us, mb, zl, tx, zp, dp⟩, ds, up⟩ : CmdV) with
    | true =>
      have HF := hide (HRC2.out.trans (if_pos ⟨c9, cok⟩))
      rintro e w4 ⟨rfl, hb4⟩
      have HE5 := hide (HE4.out.on hb4)
      have HZ5 := hide (HZ4.out.on hb4)
      have HB4 := hide (HB3.out.trans (hb4.mono HB3.out.size))
      have HO4 := hide (HO3.out.on hb4)
      clear hb4 HE4 HZ4 HB3 HO3 cok
      have e0 := XS.cell HE5.out 0 rfl
      have e1 := XS.cell HE5.out 1 rfl
      have e2 := XS.cell HE5.out 2 rfl
      have e3 := XS.cell HE5.out 3 rfl
      have e4 := XS.cell HE5.out 4 rfl
      have e5 := XS.cell HE5.out 5 rfl
      have e6 := XS.cell HE5.out 6 rfl
      have e7 := XS.cell HE5.out 7 rfl
      have e8 := XS.cell HE5.out 8 rfl
      have e9 := XS.cell HE5.out 9 rfl
      have e10 := XS.cell HE5.out 10 rfl
      have e11 := XS.cell HE5.out 11 rfl
      have e12 := XS.cell HE5.out 12 rfl
      have e13 := XS.cell HE5.out 13 rfl
      have y0 := blk_free HZ5.out 0
      have p0 := XS.cell HZ5.out 0 rfl
      have y1 := blk_free HZ5.out 1
      have p1 := XS.cell HZ5.out 1 rfl
      have y2 := blk_free HZ5.out 2
      have p2 := XS.cell HZ5.out 2 rfl
      have y3 := blk_free HZ5.out 3
      have p3 := XS.cell HZ5.out 3 rfl
      have y4 := blk_free HZ5.out 4
      have p4 := XS.cell HZ5.out 4 rfl
      have y5 := blk_free HZ5.out 5
      have p5 := XS.cell HZ5.out 5 rfl
      have y6 := blk_free HZ5.out 6
      have p6 := XS.cell HZ5.out 6 rfl
      have y7 := blk_free HZ5.out 7
      have p7 := XS.cell HZ5.out 7 rfl
      have y8 := blk_free HZ5.out 8
      have p8 := XS.cell HZ5.out 8 rfl
      have y9 := blk_free HZ5.out 9
      have p9 := XS.cell HZ5.out 9 rfl
      have y10 := blk_free HZ5.out 10
      have p10 := XS.cell HZ5.out 10 rfl
      have y11 := blk_free HZ5.out 11
      have p11 := XS.cell HZ5.out 11 rfl
      have y12 := blk_free HZ5.out 12
      have p12 := XS.cell HZ5.out 12 rfl
      have y13 := blk_free HZ5.out 13
      have p13 := XS.cell HZ5.out 13 rfl
      go_wp2_with fail
      clear y0 p0 y1 p1 y2 p2 y3 p3 y4 p4 y5 p5 y6 p6 y7 p7 y8 p8 y9 p9 y10 p10 y11 p11 y12 p12 y13 p13
      obtain ⟨w6, hw6, hX6, hg6⟩ := sets14 HZ5.out (.int .i64 (op : Int)) (.int .i64 (tk : Int)) (.int .i64 (sq : Int)) (.int .i64 id) (.int .i64 kd) (.int .i64 sn) (.int .i64 us) (.int .i64 mb) (.slice oa NL cl) (.string ⟨tx.toArray⟩) (.slice ob NP cp) (.int .i64 dp) (.int .i64 ds) (.int .i64 up)
      rw [hw6]
      have c0 := XS.cell hX6 0 rfl
      have c1 := XS.cell hX6 1 rfl
      have c2 := XS.cell hX6 2 rfl
      have c3 := XS.cell hX6 3 rfl
      have c4 := XS.cell hX6 4 rfl
      have c5 := XS.cell hX6 5 rfl
      have c6 := XS.cell hX6 6 rfl
      have c7 := XS.cell hX6 7 rfl
      have c8 := XS.cell hX6 8 rfl
      have c9 := XS.cell hX6 9 rfl
      have c10 := XS.cell hX6 10 rfl
      have c11 := XS.cell hX6 11 rfl
      have c12 := XS.cell hX6 12 rfl
      have c13 := XS.cell hX6 13 rfl
      refine bodyPost_ret (v := .tuple #[cmval (op : Int) (tk : Int) (sq : Int) id kd sn us mb dp (.slice oa NL cl) (.slice ob NP cp) tx ds up, .bool true]) (by simp [results, Tryz.results14, go_sem, c0, c1, c2, c3, c4, c5, c6, c7, c8, c9, c10, c11, c12, c13]) rfl ?_
      refine RcrPost.found HF.out ?_ (HB4.out.grown hg6 HB4.out.size (fun j hj => by cases hj; exact Nat.le_refl _))
      simp only
      rw [HNL.out, HNP.out]
      exact (HO4.out.kept hg6 (by omega)).down (by omega)
    | false =>
      have HF := hide (HRC2.out.trans (if_neg (fun q => by rw [cok] at q; cases q.2)))
      rintro e w4 ⟨rfl, hb4⟩
      have HZ5 := hide (HZ4.out.on hb4)
      have HB4 := hide (HB3.out.trans (hb4.mono HB3.out.size))
      clear hb4 HE4 HZ4 HB3 HO3 cok
      have y0 := blk_free HZ5.out 0
      have p0 := XS.cell HZ5.out 0 rfl
      have y1 := blk_free HZ5.out 1
      have p1 := XS.cell HZ5.out 1 rfl
      have y2 := blk_free HZ5.out 2
      have p2 := XS.cell HZ5.out 2 rfl
      have y3 := blk_free HZ5.out 3
      have p3 := XS.cell HZ5.out 3 rfl
      have y4 := blk_free HZ5.out 4
      have p4 := XS.cell HZ5.out 4 rfl
      have y5 := blk_free HZ5.out 5
      have p5 := XS.cell HZ5.out 5 rfl
      have y6 := blk_free HZ5.out 6
      have p6 := XS.cell HZ5.out 6 rfl
      have y7 := blk_free HZ5.out 7
      have p7 := XS.cell HZ5.out 7 rfl
      have y8 := blk_free HZ5.out 8
      have p8 := XS.cell HZ5.out 8 rfl
      have y9 := blk_free HZ5.out 9
      have p9 := XS.cell HZ5.out 9 rfl
      have y10 := blk_free HZ5.out 10
      have p10 := XS.cell HZ5.out 10 rfl
      have y11 := blk_free HZ5.out 11
      have p11 := XS.cell HZ5.out 11 rfl
      have y12 := blk_free HZ5.out 12
      have p12 := XS.cell HZ5.out 12 rfl
      have y13 := blk_free HZ5.out 13
      have p13 := XS.cell HZ5.out 13 rfl
      go_wp2_with fail
      clear y0 p0 y1 p1 y2 p2 y3 p3 y4 p4 y5 p5 y6 p6 y7 p7 y8 p8 y9 p9 y10 p10 y11 p11 y12 p12 y13 p13
      obtain ⟨w6, hw6, hX6, hg6⟩ := sets14 HZ5.out (.int .i64 0) (.int .i64 0) (.int .i64 0) (.int .i64 0) (.int .i64 0) (.int .i64 0) (.int .i64 0) (.int .i64 0) (.slice none 0 0) (.string ⟨#[]⟩) (.slice none 0 0) (.int .i64 0) (.int .i64 0) (.int .i64 0)
      rw [hw6]
      have c0 := XS.cell hX6 0 rfl
      have c1 := XS.cell hX6 1 rfl
      have c2 := XS.cell hX6 2 rfl
      have c3 := XS.cell hX6 3 rfl
      have c4 := XS.cell hX6 4 rfl
      have c5 := XS.cell hX6 5 rfl
      have c6 := XS.cell hX6 6 rfl
      have c7 := XS.cell hX6 7 rfl
      have c8 := XS.cell hX6 8 rfl
      have c9 := XS.cell hX6 9 rfl
      have c10 := XS.cell hX6 10 rfl
      have c11 := XS.cell hX6 11 rfl
      have c12 := XS.cell hX6 12 rfl
      have c13 := XS.cell hX6 13 rfl
      refine bodyPost_ret (v := .tuple #[cmval 0 0 0 0 0 0 0 0 0 (.slice none 0 0) (.slice none 0 0) [] 0 0, .bool false]) (by simp [results, Tryz.results14, go_sem, c0, c1, c2, c3, c4, c5, c6, c7, c8, c9, c10, c11, c12, c13]) rfl ?_
      exact RcrPost.zero HF.out (HB4.out.grown hg6 HB4.out.size (fun j hj => by cases hj; exact Nat.le_refl _))
  · rw [decide_eq_false c9]
    have HF := hide (HRC2.out.trans (if_neg (fun q => c9 q.1)))
    rintro e w3 ⟨rfl, hd3⟩
    have hb3 := hd3.below
    have HZ5 := hide (HZ3.out.on hb3)
    have HB4 := hide (HB2.out.trans (hb3.mono HB2.out.size))
    clear hb3 hd3 HE2 HZ3 HB2 HC2 HO2
    have y0 := blk_free HZ5.out 0
    have p0 := XS.cell HZ5.out 0 rfl
    have y1 := blk_free HZ5.out 1
    have p1 := XS.cell HZ5.out 1 rfl
    have y2 := blk_free HZ5.out 2
    have p2 := XS.cell HZ5.out 2 rfl
    have y3 := blk_free HZ5.out 3
    have p3 := XS.cell HZ5.out 3 rfl
    have y4 := blk_free HZ5.out 4
    have p4 := XS.cell HZ5.out 4 rfl
    have y5 := blk_free HZ5.out 5
    have p5 := XS.cell HZ5.out 5 rfl
    have y6 := blk_free HZ5.out 6
    have p6 := XS.cell HZ5.out 6 rfl
    have y7 := blk_free HZ5.out 7
    have p7 := XS.cell HZ5.out 7 rfl
    have y8 := blk_free HZ5.out 8
    have p8 := XS.cell HZ5.out 8 rfl
    have y9 := blk_free HZ5.out 9
    have p9 := XS.cell HZ5.out 9 rfl
    have y10 := blk_free HZ5.out 10
    have p10 := XS.cell HZ5.out 10 rfl
    have y11 := blk_free HZ5.out 11
    have p11 := XS.cell HZ5.out 11 rfl
    have y12 := blk_free HZ5.out 12
    have p12 := XS.cell HZ5.out 12 rfl
    have y13 := blk_free HZ5.out 13
    have p13 := XS.cell HZ5.out 13 rfl
    go_wp2_with fail
    clear y0 p0 y1 p1 y2 p2 y3 p3 y4 p4 y5 p5 y6 p6 y7 p7 y8 p8 y9 p9 y10 p10 y11 p11 y12 p12 y13 p13
    obtain ⟨w6, hw6, hX6, hg6⟩ := sets14 HZ5.out (.int .i64 0) (.int .i64 0) (.int .i64 0) (.int .i64 0) (.int .i64 0) (.int .i64 0) (.int .i64 0) (.int .i64 0) (.slice none 0 0) (.string ⟨#[]⟩) (.slice none 0 0) (.int .i64 0) (.int .i64 0) (.int .i64 0)
    rw [hw6]
    have c0 := XS.cell hX6 0 rfl
    have c1 := XS.cell hX6 1 rfl
    have c2 := XS.cell hX6 2 rfl
    have c3 := XS.cell hX6 3 rfl
    have c4 := XS.cell hX6 4 rfl
    have c5 := XS.cell hX6 5 rfl
    have c6 := XS.cell hX6 6 rfl
    have c7 := XS.cell hX6 7 rfl
    have c8 := XS.cell hX6 8 rfl
    have c9 := XS.cell hX6 9 rfl
    have c10 := XS.cell hX6 10 rfl
    have c11 := XS.cell hX6 11 rfl
    have c12 := XS.cell hX6 12 rfl
    have c13 := XS.cell hX6 13 rfl
    refine bodyPost_ret (v := .tuple #[cmval 0 0 0 0 0 0 0 0 0 (.slice none 0 0) (.slice none 0 0) [] 0 0, .bool false]) (by simp [results, Tryz.results14, go_sem, c0, c1, c2, c3, c4, c5, c6, c7, c8, c9, c10, c11, c12, c13]) rfl ?_
    exact RcrPost.zero HF.out (HB4.out.grown hg6 HB4.out.size (fun j hj => by cases hj; exact Nat.le_refl _))

end Go.Proofs.YtckkfjmjcknjdaaGreatDoor
