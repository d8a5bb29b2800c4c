/-
  Walks and mathematics of Msg12b.
-/
import Derived.Test.YtmllcomppjkhhaaDoorQdMsg12
import Derived.Test.YtmllcomppjkhhaaDoorQdMsg5
namespace Go.Proofs.YtmllcomppjkhhaaDoor.P18
end Go.Proofs.YtmllcomppjkhhaaDoor.P18
namespace Go.Proofs.YtmllcomppjkhhaaDoor.P3
end Go.Proofs.YtmllcomppjkhhaaDoor.P3
namespace Go.Proofs.YtmllcomppjkhhaaDoor
open Go.RowKit P1 P3 P9 P11 P12 P18 K
set_option linter.unusedVariables false
set_option linter.unusedSimpArgs false

def MdPost (x : MsgV × Bool) (w : World) (e : Ending) (w' : World) : Prop :=
  ∃ ve vc, e = .returned (.tuple #[mgval x.1.kd x.1.fr x.1.to x.1.tm x.1.ix x.1.lt x.1.cm x.1.ok ve vc x.1.da x.1.la, .bool x.2]) ∧ MgOwn w' w.heap.size ve vc x.1.es.length x.1.cf.length x.1.es x.1.cf ∧ Below w.heap.size w w'

theorem MdPost.zero {x : MsgV × Bool} {w w' : World} (h : x = (zeroMsg, false)) (hb : Below w.heap.size w w') : MdPost x w (.returned (.tuple #[mgval 0 0 0 0 0 0 0 false (.slice none 0 0) (.slice none 0 0) [] false, .bool false])) w' := by
  subst h
  exact ⟨_, _, rfl, ⟨World.ownsRow_nil _ _ _ _, World.ownsRow_nil _ _ _ _⟩, hb⟩

theorem MdPost.found {x : MsgV × Bool} {m : MsgV} {w w' : World} {ve vc : Value} (h : x = (m, true)) (ho : MgOwn w' w.heap.size ve vc m.es.length m.cf.length m.es m.cf) (hb : Below w.heap.size w w') : MdPost x w (.returned (.tuple #[mgval m.kd m.fr m.to m.tm m.ix m.lt m.cm m.ok ve vc m.da m.la, .bool true])) w' := by
  subst h
  exact ⟨_, _, rfl, ho, hb⟩

set_option maxRecDepth 100000 in
set_option maxHeartbeats 8000000 in
theorem implDecode_any (s : ByteArray) (hs : s.size ≤ 1048576) (w : World) (hL : LimIs w) :
    Calls Tryd.prog 14 #[.string s] w fun e w' => MdPost (mdR (bl s)) w e w' := by
  obtain ⟨k, r1, h1⟩ : ∃ i q, byteL (some (bl s)) = (i, q) := ⟨_, _, rfl⟩
  obtain ⟨f, r2, h2⟩ : ∃ i q, byteL r1 = (i, q) := ⟨_, _, rfl⟩
  obtain ⟨t, r3, h3⟩ : ∃ i q, byteL r2 = (i, q) := ⟨_, _, rfl⟩
  obtain ⟨tm, r4, h4⟩ : ∃ i q, numL r3 = (i, q) := ⟨_, _, rfl⟩
  obtain ⟨ix, r5, h5⟩ : ∃ i q, numL r4 = (i, q) := ⟨_, _, rfl⟩
  obtain ⟨lt, r6, h6⟩ : ∃ i q, numL r5 = (i, q) := ⟨_, _, rfl⟩
  obtain ⟨cm, r7, h7⟩ : ∃ i q, numL r6 = (i, q) := ⟨_, _, rfl⟩
  obtain ⟨ok, r8, h8⟩ : ∃ i q, flagI r7 = (i, q) := ⟨_, _, rfl⟩
  obtain ⟨la, r9, h9⟩ : ∃ i q, flagI r8 = (i, q) := ⟨_, _, rfl⟩
  obtain ⟨es, r10, h10⟩ : ∃ i q, entriesI r9 = (i, q) := ⟨_, _, rfl⟩
  obtain ⟨zs, r11, h11⟩ : ∃ i q, confI r10 = (i, q) := ⟨_, _, rfl⟩
  obtain ⟨da, r12, h12⟩ : ∃ i q, shL 20000 r11 = (i, q) := ⟨_, _, rfl⟩
  have hmd : msgI (bl s) = (⟨k, f, t, tm, ix, lt, cm, ok, es, zs, da, la⟩, r12) := by
    unfold msgI
    simp only [h1, h2, h3, h4, h5, h6, h7, h8, h9, h10, h11, h12]
  have hen : es.length ≤ 4 := by
    have : (entriesI r9).1.length ≤ 4 := by unfold entriesI; rw [itE_len]; unfold countI; split <;> omega
    rw [h10] at this; exact this
  have hed : ∀ e ∈ es, e.data.size ≤ 1048576 := by
    have : ∀ e ∈ (entriesI r9).1, e.data.size ≤ 120 := itE_small _ _
    rw [h10] at this
    exact fun e he => Nat.le_trans (this e he) (by omega)
  have hzn : zs.length ≤ 4 ∧ ∀ z ∈ zs, (Lit.int .i64 z).wf = true := by
    have : (confI r10).1.length ≤ 4 ∧ ∀ z ∈ (confI r10).1, (Lit.int .i64 z).wf = true := by
      unfold confI
      split
      · simp
      · split
        · rename_i hc
          exact ⟨(confOk_len hc).2, confZ_wf _⟩
        · simp
    rw [h11] at this; exact this
  have hdl : da.length ≤ 20000 := by have := shL_len15 (most := 20000) r11; rw [h12] at this; exact this
  have HM := hide (fun g w h => messageR_any15 g s hs (some (bl s)) h1 h2 h3 h4 h5 h6 h7 h8 h9 h10 h11 h12 w h)
  have HMD := hide hmd
  have HED := hide hed
  have HZW := hide hzn.2
  have hzl := hzn.1
  clear h1 h2 h3 h4 h5 h6 h7 h8 h9 h10 h11 h12 hmd hed hzn
  have hb0 := ((Below.refl w.heap.size w).alloc (Nat.le_refl _) (.cells #[.int .i64 0, .int .i64 0, .int .i64 0, .int .i64 0, .int .i64 0, .int .i64 0, .int .i64 0, .bool false, .slice none 0 0, .slice none 0 0, .string ⟨#[]⟩, .bool false] 30)).alloc (by simp) (.cells #[.string s, .int .i64 0] 86)
  have HZ0 := hide ((XS.new w #[.int .i64 0, .int .i64 0, .int .i64 0, .int .i64 0, .int .i64 0, .int .i64 0, .int .i64 0, .bool false, .slice none 0 0, .slice none 0 0, .string ⟨#[]⟩, .bool false] 30).alloc (.cells #[.string s, .int .i64 0] 86))
  have HFR := hide (show FRL ((w.alloc (.cells #[.int .i64 0, .int .i64 0, .int .i64 0, .int .i64 0, .int .i64 0, .int .i64 0, .int .i64 0, .bool false, .slice none 0 0, .slice none 0 0, .string ⟨#[]⟩, .bool false] 30)).alloc (.cells #[.string s, .int .i64 0] 86)) (w.heap.size + 1) s (some (bl s)) by
    have q := heap_alloc_new (w.alloc (.cells #[.int .i64 0, .int .i64 0, .int .i64 0, .int .i64 0, .int .i64 0, .int .i64 0, .int .i64 0, .bool false, .slice none 0 0, .slice none 0 0, .string ⟨#[]⟩, .bool false] 30)) (.cells #[.string s, .int .i64 0] 86)
    rw [World.size_alloc] at q
    exact FRL.mk (a := 0) (Nat.zero_le _) q)
  have HB0 := hide hb0
  have HS0 := hide (show ((w.alloc (.cells #[.int .i64 0, .int .i64 0, .int .i64 0, .int .i64 0, .int .i64 0, .int .i64 0, .int .i64 0, .bool false, .slice none 0 0, .slice none 0 0, .string ⟨#[]⟩, .bool false] 30)).alloc (.cells #[.string s, .int .i64 0] 86)).heap.size = w.heap.size + 1 + 1 by simp)
  have HLI := hide hL
  clear hb0 hL
  go_enter Tryd.func14, Tryd.ntmps14
  go_wp2_with fail
  generalize (w.alloc (.cells #[.int .i64 0, .int .i64 0, .int .i64 0, .int .i64 0, .int .i64 0, .int .i64 0, .int .i64 0, .bool false, .slice none 0 0, .slice none 0 0, .string ⟨#[]⟩, .bool false] 30)).alloc (.cells #[.string s, .int .i64 0] 86) = w0 at HZ0 HFR HB0 HS0 ⊢
  refine (HM.out _ _ HFR.out).mono ?_
  rintro e w1 ⟨ve, vc, rfl, hc1, ho1, hg1⟩
  obtain ⟨oa, cl, hve⟩ := row_form ho1.l
  obtain ⟨ob, cp, hvc⟩ := row_form ho1.p
  subst hve
  subst hvc
  have hs0 := HS0.out
  have HZ1 := hide (HZ0.out.kept hg1 (fun q => by have := Option.some.inj q; omega))
  have HB1 := hide (HB0.out.grown hg1 HB0.out.size (fun j hj => by cases hj; omega))
  have HO1 := hide ho1
  have HC1 := hide hc1
  have hs1 := hg1.size
  clear hc1 ho1 hg1 HZ0 HFR HB0 HM
  have hnb := (Below.refl w1.heap.size w1).alloc (Nat.le_refl _) (.cells #[.int .i64 (k : Int), .int .i64 (f : Int), .int .i64 (t : Int), .int .i64 (tm : Int), .int .i64 (ix : Int), .int .i64 (lt : Int), .int .i64 (cm : Int), .bool ok, .slice oa es.length cl, .slice ob zs.length cp, .string ⟨da.toArray⟩, .bool la] 30)
  have HX2 := hide (XS.new w1 #[.int .i64 (k : Int), .int .i64 (f : Int), .int .i64 (t : Int), .int .i64 (tm : Int), .int .i64 (ix : Int), .int .i64 (lt : Int), .int .i64 (cm : Int), .bool ok, .slice oa es.length cl, .slice ob zs.length cp, .string ⟨da.toArray⟩, .bool la] 30)
  have HZ2 := hide (HZ1.out.alloc (.cells #[.int .i64 (k : Int), .int .i64 (f : Int), .int .i64 (t : Int), .int .i64 (tm : Int), .int .i64 (ix : Int), .int .i64 (lt : Int), .int .i64 (cm : Int), .bool ok, .slice oa es.length cl, .slice ob zs.length cp, .string ⟨da.toArray⟩, .bool la] 30))
  have HO2 := hide (HO1.out.on hnb)
  have HC2 := hide (HC1.out.kept (hnb.block _ HC1.out.lt))
  have HB2 := hide (HB1.out.trans (hnb.mono HB1.out.size))
  clear hnb HZ1 HO1 HC1 HB1
  go_wp2_with fail
  generalize w1.alloc (.cells #[.int .i64 (k : Int), .int .i64 (f : Int), .int .i64 (t : Int), .int .i64 (tm : Int), .int .i64 (ix : Int), .int .i64 (lt : Int), .int .i64 (cm : Int), .bool ok, .slice oa es.length cl, .slice ob zs.length cp, .string ⟨da.toArray⟩, .bool la] 30) = w2 at HX2 HZ2 HO2 HC2 HB2 ⊢
  have hp1 : w.heap.size + 1 + 1 ≤ w1.heap.size := by omega
  generalize w1.heap.size = p at HX2 hp1 ⊢
  refine (ended_any _ s hs r12 _ HC2.out).mono ?_
  rintro e w3 ⟨rfl, hdr⟩
  have HX3 := hide (HX2.out.on hdr.below)
  have HZ3 := hide (HZ2.out.on hdr.below)
  have HO3 := hide (HO2.out.on hdr.below)
  have HB3 := hide (HB2.out.trans (hdr.below.mono HB2.out.size))
  clear hdr HX2 HZ2 HO2 HC2 HB2
  have HMO := hide (fun w ht hat hbt => implMessageOk_any k f t tm ix lt cm ok oa es.length cl ob zs.length cp da la es zs (by omega) w ht hat hbt HED.out (by omega) (by omega))
  by_cases hr : r12 = some []
  · rw [decide_eq_true hr]
    obtain ⟨b, hb⟩ : ∃ b, msgOk ⟨k, f, t, tm, ix, lt, cm, ok, es, zs, da, la⟩ = b := ⟨_, rfl⟩
    rw [hb] at HMO
    obtain ⟨k0, k1, k2, k3, k4, k5, k6, k7, k8, k9, k10, k11⟩ := xs12 HX3.out
    obtain ⟨_, _, he, hat3⟩ := entsAt_own HO3.out.l
    cases he
    obtain ⟨_, _, he, hbt3⟩ := intsAt_of_own HO3.out.p HZW.out
    cases he
    have HA3 := hide hat3
    have HI3 := hide hbt3
    clear hat3 hbt3
    cases b with
    | false =>
      have HR := hide (show mdR (bl s) = (zeroMsg, false) by unfold mdR; rw [HMD.out, if_neg (by simp [hb])])
      clear hb
      go_wp2_with fail
      refine (HMO.out _ (HLI.out.on HB3.out) HA3.out HI3.out).mono ?_
      rintro e w4 ⟨rfl, hb4⟩
      have HZ4 := hide (HZ3.out.on hb4)
      have HB4 := hide (HB3.out.trans (hb4.mono HB3.out.size))
      clear hb4 k0 k1 k2 k3 k4 k5 k6 k7 k8 k9 k10 k11
      have y0 := HZ4.out.free 0
      have y1 := HZ4.out.free 1
      have y2 := HZ4.out.free 2
      have y3 := HZ4.out.free 3
      have y4 := HZ4.out.free 4
      have y5 := HZ4.out.free 5
      have y6 := HZ4.out.free 6
      have y7 := HZ4.out.free 7
      have y8 := HZ4.out.free 8
      have y9 := HZ4.out.free 9
      have y10 := HZ4.out.free 10
      have y11 := HZ4.out.free 11
      obtain ⟨zz0, zz1, zz2, zz3, zz4, zz5, zz6, zz7, zz8, zz9, zz10, zz11⟩ := xs12 HZ4.out
      go_wp2_with fail
      obtain ⟨w6, hw6, hR6, hg6⟩ := sets12 HZ4.out (.int .i64 0) (.int .i64 0) (.int .i64 0) (.int .i64 0) (.int .i64 0) (.int .i64 0) (.int .i64 0) (.bool false) (.slice none 0 0) (.slice none 0 0) (.string ⟨#[]⟩) (.bool false)
      rw [hw6]
      clear hw6
      obtain ⟨q0, q1, q2, q3, q4, q5, q6, q7, q8, q9, q10, q11⟩ := xs12 hR6
      refine bodyPost_ret (v := .tuple #[mgval 0 0 0 0 0 0 0 false (.slice none 0 0) (.slice none 0 0) [] false, .bool false]) (by simp [results, Tryd.results14, go_sem, q0, q1, q2, q3, q4, q5, q6, q7, q8, q9, q10, q11]) rfl ?_
      exact MdPost.zero HR.out (HB4.out.grown hg6 HB4.out.size (fun q hq => by cases hq; omega))
    | true =>
      have HR := hide (show mdR (bl s) = (⟨k, f, t, tm, ix, lt, cm, ok, es, zs, da, la⟩, true) by unfold mdR; rw [HMD.out, if_pos ⟨hr, hb⟩])
      clear hb
      go_wp2_with fail
      refine (HMO.out _ (HLI.out.on HB3.out) HA3.out HI3.out).mono ?_
      rintro e w4 ⟨rfl, hb4⟩
      have HZ4 := hide (HZ3.out.on hb4)
      have HX4 := hide (HX3.out.on hb4)
      have HO4 := hide (HO3.out.on hb4)
      have HB4 := hide (HB3.out.trans (hb4.mono HB3.out.size))
      clear hb4 k0 k1 k2 k3 k4 k5 k6 k7 k8 k9 k10 k11
      obtain ⟨k0, k1, k2, k3, k4, k5, k6, k7, k8, k9, k10, k11⟩ := xs12 HX4.out
      have y0 := HZ4.out.free 0
      have y1 := HZ4.out.free 1
      have y2 := HZ4.out.free 2
      have y3 := HZ4.out.free 3
      have y4 := HZ4.out.free 4
      have y5 := HZ4.out.free 5
      have y6 := HZ4.out.free 6
      have y7 := HZ4.out.free 7
      have y8 := HZ4.out.free 8
      have y9 := HZ4.out.free 9
      have y10 := HZ4.out.free 10
      have y11 := HZ4.out.free 11
      obtain ⟨zz0, zz1, zz2, zz3, zz4, zz5, zz6, zz7, zz8, zz9, zz10, zz11⟩ := xs12 HZ4.out
      go_wp2_with fail
      obtain ⟨w6, hw6, hR6, hg6⟩ := sets12 HZ4.out (.int .i64 (k : Int)) (.int .i64 (f : Int)) (.int .i64 (t : Int)) (.int .i64 (tm : Int)) (.int .i64 (ix : Int)) (.int .i64 (lt : Int)) (.int .i64 (cm : Int)) (.bool ok) (.slice oa es.length cl) (.slice ob zs.length cp) (.string ⟨da.toArray⟩) (.bool la)
      rw [hw6]
      clear hw6
      obtain ⟨q0, q1, q2, q3, q4, q5, q6, q7, q8, q9, q10, q11⟩ := xs12 hR6
      refine bodyPost_ret (v := .tuple #[mgval k f t tm ix lt cm ok (.slice oa es.length cl) (.slice ob zs.length cp) da la, .bool true]) (by simp [results, Tryd.results14, go_sem, q0, q1, q2, q3, q4, q5, q6, q7, q8, q9, q10, q11]) rfl ?_
      exact MdPost.found HR.out ((HO4.out.kept hg6 (by omega)).down (by omega)) (HB4.out.grown hg6 HB4.out.size (fun q hq => by cases hq; omega))
  · rw [decide_eq_false hr]
    have HR := hide (show mdR (bl s) = (zeroMsg, false) by unfold mdR; rw [HMD.out, if_neg (by simp [hr])])
    have HZ4 := hide HZ3.out
    have HB4 := hide HB3.out
    have y0 := HZ4.out.free 0
    have y1 := HZ4.out.free 1
    have y2 := HZ4.out.free 2
    have y3 := HZ4.out.free 3
    have y4 := HZ4.out.free 4
    have y5 := HZ4.out.free 5
    have y6 := HZ4.out.free 6
    have y7 := HZ4.out.free 7
    have y8 := HZ4.out.free 8
    have y9 := HZ4.out.free 9
    have y10 := HZ4.out.free 10
    have y11 := HZ4.out.free 11
    obtain ⟨zz0, zz1, zz2, zz3, zz4, zz5, zz6, zz7, zz8, zz9, zz10, zz11⟩ := xs12 HZ4.out
    go_wp2_with fail
    obtain ⟨w6, hw6, hR6, hg6⟩ := sets12 HZ4.out (.int .i64 0) (.int .i64 0) (.int .i64 0) (.int .i64 0) (.int .i64 0) (.int .i64 0) (.int .i64 0) (.bool false) (.slice none 0 0) (.slice none 0 0) (.string ⟨#[]⟩) (.bool false)
    rw [hw6]
    clear hw6
    obtain ⟨q0, q1, q2, q3, q4, q5, q6, q7, q8, q9, q10, q11⟩ := xs12 hR6
    refine bodyPost_ret (v := .tuple #[mgval 0 0 0 0 0 0 0 false (.slice none 0 0) (.slice none 0 0) [] false, .bool false]) (by simp [results, Tryd.results14, go_sem, q0, q1, q2, q3, q4, q5, q6, q7, q8, q9, q10, q11]) rfl ?_
    exact MdPost.zero HR.out (HB4.out.grown hg6 HB4.out.size (fun q hq => by cases hq; omega))

end Go.Proofs.YtmllcomppjkhhaaDoor
