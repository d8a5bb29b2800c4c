/-
  Walks and mathematics of Walk9n.
-/
import Derived.Test.YtckkfjmjcknjdaaGreatDoorRCWalk9k
import Derived.Test.YtckkfjmjcknjdaaGreatDoorRCWalk9b
namespace Go.Proofs.YtckkfjmjcknjdaaGreatDoor.P3
end Go.Proofs.YtckkfjmjcknjdaaGreatDoor.P3
namespace Go.Proofs.YtckkfjmjcknjdaaGreatDoor
open Go.RowKit P1 P3 P9 P11 P12 K
set_option linter.unusedVariables false
set_option linter.unusedSimpArgs false

theorem impl_read {l : List UInt8} {r1 r2 r3 r4 r5 r6 r7 r8 r9 : Lf} {i k sn u m d : Nat} {zl zp : List Int} {tx : List UInt8}
    (h1 : numL (some l) = (i, r1)) (h2 : byteL r1 = (k, r2)) (h3 : byteL r2 = (sn, r3)) (h4 : byteL r3 = (u, r4)) (h5 : byteL r4 = (m, r5)) (h6 : lsL byteL 5 r5 = (zl, r6)) (h7 : shL 20000 r6 = (tx, r7)) (h8 : lsL numL 3 r7 = (zp, r8)) (h9 : numL r8 = (d, r9)) :
    (r9 = some [] → evOk ⟨i, k, sn, u, m, zl, tx, zp, d⟩ = true → rdEvent l = some ⟨i, k, sn, u, m, zl, tx, zp, d⟩) ∧ (¬ (r9 = some [] ∧ evOk ⟨i, k, sn, u, m, zl, tx, zp, d⟩ = true) → rdEvent l = none) := by
  obtain ⟨nl, q6, hq6⟩ : ∃ nl q6, numL r5 = (nl, q6) := ⟨_, _, rfl⟩
  obtain ⟨np, q8, hq8⟩ : ∃ np q8, numL r7 = (np, q8) := ⟨_, _, rfl⟩
  unfold lsL at h6 h8
  rw [hq6] at h6
  rw [hq8] at h8
  simp only at h6 h8
  constructor
  · intro hr hok
    subst hr
    by_cases c8 : np > 3
    · rw [if_pos c8] at h8
      cases h8
      cases h9
    · rw [if_neg c8] at h8
      by_cases c6 : nl > 5
      · rw [if_pos c6] at h6
        cases h6
        cases h7
        cases hq8
        simp only [itL] at h8
        cases h8
        cases h9
      · rw [if_neg c6] at h6
        have ht := read_text (J := 0) (K := 0) h1 h2 h3 h4 h5 hq6 h6 h7 hq8 h8 h9
        rw [rdEvent_iff]
        unfold evText
        rw [if_pos hok, ← ht]
  · intro hno
    cases hr : rdEvent l with
    | none => rfl
    | some e =>
      exfalso
      have ht := rdEvent_iff.1 hr
      unfold evText at ht
      split at ht
      · rename_i hok
        have hl := Option.some.inj ht
        have hin := evOk_in hok
        obtain ⟨he, hr9⟩ := text_read hin hl.symm (J := 0) (K := 0) (by omega : 24 ≤ 20000) (by omega) h1 h2 h3 h4 h5 hq6
          (fun hn _ => by have := hin.many; rw [if_neg (by omega)] at h6; exact h6) h7 hq8 (fun hn _ => by have := hin.prevs; rw [if_neg (by omega)] at h8; exact h8) h9
        exact hno ⟨hr9, he ▸ hok⟩
      · cases ht

def zeroEv : EvV := ⟨0, 0, 0, 0, 0, [], [], [], 0⟩

def reR (l : List UInt8) : EvV × Bool := match rdEvent l with | some e => (e, true) | none => (zeroEv, false)

def RePost (r : EvV × Bool) (w : World) (e : Ending) (w' : World) : Prop :=
  ∃ vl vp, e = .returned (.tuple #[evval r.1.id r.1.kind r.1.sender r.1.user r.1.member r.1.depth vl vp r.1.text, .bool r.2]) ∧ EvOwn w' w.heap.size vl vp r.1.levels.length r.1.prev.length r.1.levels r.1.prev ∧ Below w.heap.size w w'

theorem RePost.zero {l : List UInt8} {w w' : World} (h : rdEvent l = none) (hb : Below w.heap.size w w') : RePost (reR l) w (.returned (.tuple #[evval 0 0 0 0 0 0 (.slice none 0 0) (.slice none 0 0) [], .bool false])) w' := by
  unfold reR
  rw [h]
  exact ⟨.slice none 0 0, .slice none 0 0, rfl, ⟨World.ownsRow_nil _ _ _ _, World.ownsRow_nil _ _ _ _, fun j hj => by cases hj⟩, hb⟩

theorem RePost.found {l : List UInt8} {ev : EvV} {w w' : World} {vl vp : Value} (h : rdEvent l = some ev) (ho : EvOwn w' w.heap.size vl vp ev.levels.length ev.prev.length ev.levels ev.prev) (hb : Below w.heap.size w w') : RePost (reR l) w (.returned (.tuple #[evval ev.id ev.kind ev.sender ev.user ev.member ev.depth vl vp ev.text, .bool true])) w' := by
  unfold reR
  rw [h]
  exact ⟨vl, vp, rfl, ho, hb⟩

theorem itL_wf (f : Lf → Nat × Lf) (hf : ∀ st, (f st).1 ≤ 1000000000) : ∀ (j : Nat) (st : Lf), ∀ z ∈ (itL f j st).1, (Lit.int .i64 z).wf = true
  | 0, _, z, hz => by simp [itL] at hz
  | j + 1, st, z, hz => by
    simp only [itL, List.mem_append, List.mem_singleton] at hz
    rcases hz with hz | rfl
    · exact itL_wf f hf j st z hz
    · have := hf (itL f j st).2
      exact wf_small (by omega) (by omega)

theorem lsL_wf (f : Lf → Nat × Lf) (hf : ∀ st, (f st).1 ≤ 1000000000) (most : Nat) (st : Lf) : ∀ z ∈ (lsL f most st).1, (Lit.int .i64 z).wf = true := by
  unfold lsL
  split
  · intro z hz; simp at hz
  · exact itL_wf f hf _ _

theorem shL_len {most : Nat} {l : List UInt8} : ∀ (st : Lf), (shL most st).1.length ≤ most
  | none => Nat.zero_le _
  | some l => by
    unfold shL
    simp only
    split
    · split
      · assumption
      · exact Nat.zero_le _
    · exact Nat.zero_le _

set_option maxHeartbeats 4000000 in
theorem implReadEvent_any (s : ByteArray) (hs : s.size ≤ 1048576) (w : World) :
    Calls Tryz.prog 91 #[.string s] w fun e w' => RePost (reR (bl s)) w e w' := by
  obtain ⟨i, r1, h1⟩ : ∃ i r1, numL (some (bl s)) = (i, r1) := ⟨_, _, rfl⟩
  obtain ⟨k, r2, h2⟩ : ∃ i q, byteL r1 = (i, q) := ⟨_, _, rfl⟩
  obtain ⟨sn, r3, h3⟩ : ∃ i q, byteL r2 = (i, q) := ⟨_, _, rfl⟩
  obtain ⟨u, r4, h4⟩ : ∃ i q, byteL r3 = (i, q) := ⟨_, _, rfl⟩
  obtain ⟨mb, r5, h5⟩ : ∃ i q, byteL r4 = (i, q) := ⟨_, _, rfl⟩
  obtain ⟨zl, r6, h6⟩ : ∃ i q, lsL byteL 5 r5 = (i, q) := ⟨_, _, rfl⟩
  obtain ⟨tx, r7, h7⟩ : ∃ i q, shL 20000 r6 = (i, q) := ⟨_, _, rfl⟩
  obtain ⟨zp, r8, h8⟩ : ∃ i q, lsL numL 3 r7 = (i, q) := ⟨_, _, rfl⟩
  obtain ⟨d, r9, h9⟩ : ∃ i q, numL r8 = (i, q) := ⟨_, _, rfl⟩
  obtain ⟨HYES, HNO⟩ := impl_read h1 h2 h3 h4 h5 h6 h7 h8 h9
  have hwl := lsL_wf byteL (fun st => Nat.le_trans (byteL_le st) (by omega)) 5 r5
  have hwp := lsL_wf numL numL_le 3 r7
  have hxl := shL_len (most := 20000) (l := []) r6
  rw [h6] at hwl
  rw [h8] at hwp
  rw [h7] at hxl
  simp only at hwl hwp hxl
  have HEV := hide (fun g w h => event_any g s hs (some (bl s)) w h h1 h2 h3 h4 h5 h6 h7 h8 h9)
  have HR0 := hide (EB.new w 0 0 0 0 0 0 (.slice none 0 0) (.slice none 0 0) [])
  have hb0 := ((Below.refl w.heap.size w).alloc (Nat.le_refl _) (.cells #[.int .i64 0, .int .i64 0, .int .i64 0, .int .i64 0, .int .i64 0, .slice none 0 0, .string ⟨#[]⟩, .slice none 0 0, .int .i64 0] 29)).alloc (by simp) (.cells #[.string s, .int .i64 0] 72)
  have HFR := hide (show FRL ((w.alloc (.cells #[.int .i64 0, .int .i64 0, .int .i64 0, .int .i64 0, .int .i64 0, .slice none 0 0, .string ⟨#[]⟩, .slice none 0 0, .int .i64 0] 29)).alloc (.cells #[.string s, .int .i64 0] 72)) (w.heap.size + 1) s (some (bl s)) by
    have q := heap_alloc_new (w.alloc (.cells #[.int .i64 0, .int .i64 0, .int .i64 0, .int .i64 0, .int .i64 0, .slice none 0 0, .string ⟨#[]⟩, .slice none 0 0, .int .i64 0] 29)) (.cells #[.string s, .int .i64 0] 72)
    rw [World.size_alloc] at q
    exact FRL.mk (a := 0) (Nat.zero_le _) q)
  have HR1 := hide (HR0.out.on ((Below.refl _ _).alloc (Nat.le_refl _) (.cells #[.string s, .int .i64 0] 72)) HR0.out.lt)
  have HB0 := hide hb0
  have HWL := hide hwl
  have HWP := hide hwp
  have HY := hide HYES
  have HN := hide HNO
  clear hb0 hwl hwp HYES HNO h1 h2 h3 h4 h5 h6 h7 h8 h9 HR0
  go_enter Tryz.func91, Tryz.ntmps91
  go_wp2_with fail
  have hsz0 : ((w.alloc (.cells #[.int .i64 0, .int .i64 0, .int .i64 0, .int .i64 0, .int .i64 0, .slice none 0 0, .string ⟨#[]⟩, .slice none 0 0, .int .i64 0] 29)).alloc (.cells #[.string s, .int .i64 0] 72)).heap.size = w.heap.size + 1 + 1 := by simp
  have HS0 := hide hsz0
  clear hsz0
  generalize (w.alloc (.cells #[.int .i64 0, .int .i64 0, .int .i64 0, .int .i64 0, .int .i64 0, .slice none 0 0, .string ⟨#[]⟩, .slice none 0 0, .int .i64 0] 29)).alloc (.cells #[.string s, .int .i64 0] 72) = w0 at HFR HR1 HB0 HS0 ⊢
  refine (HEV.out _ _ HFR.out).mono ?_
  rintro e w1 ⟨vl, vp, rfl, hc1, ho1, hg1⟩
  obtain ⟨oa, cl, hvl⟩ := row_form ho1.l
  obtain ⟨ob, cp, hvp⟩ := row_form ho1.p
  subst hvl
  subst hvp
  have hs0 := HS0.out
  have HR2 := hide (HR1.out.kept hg1 (fun q => by have := Option.some.inj q; omega))
  have HB1 := hide (HB0.out.grown hg1 HB0.out.size (fun j hj => by cases hj; omega))
  have HC1 := hide hc1
  have HO1 := hide ho1
  have hs1 := hg1.size
  clear hc1 ho1 hg1 HR1 HB0
  go_wp2_with fail
  have hbA := (Below.refl w1.heap.size w1).alloc (Nat.le_refl _) (.cells #[.int .i64 (i : Int), .int .i64 (k : Int), .int .i64 (sn : Int), .int .i64 (u : Int), .int .i64 (mb : Int), .slice oa zl.length cl, .string ⟨tx.toArray⟩, .slice ob zp.length cp, .int .i64 (d : Int)] 29)
  have HE2 := hide (EB.new w1 (i : Int) (k : Int) (sn : Int) (u : Int) (mb : Int) (d : Int) (.slice oa zl.length cl) (.slice ob zp.length cp) tx)
  have HR3 := hide (HR2.out.on hbA HR2.out.lt)
  have HB2 := hide (HB1.out.trans (hbA.mono HB1.out.size))
  have HC2 := hide (HC1.out.kept (hbA.block _ HC1.out.lt))
  have HO2 := hide (HO1.out.on hbA)
  clear hbA HR2 HB1 HC1 HO1
  generalize w1.alloc (.cells #[.int .i64 (i : Int), .int .i64 (k : Int), .int .i64 (sn : Int), .int .i64 (u : Int), .int .i64 (mb : Int), .slice oa zl.length cl, .string ⟨tx.toArray⟩, .slice ob zp.length cp, .int .i64 (d : Int)] 29) = w2 at HE2 HR3 HB2 HC2 HO2 ⊢
  refine (ended_any _ s hs _ _ HC2.out).mono ?_
  by_cases c9 : r9 = some []
  · rw [decide_eq_true c9]
    rintro e w3 ⟨rfl, hd3⟩
    have hb3 := hd3.below
    have HE4 := hide (HE2.out.on hb3 HE2.out.lt)
    have HR4 := hide (HR3.out.on hb3 HR3.out.lt)
    have HB3 := hide (HB2.out.trans (hb3.mono HB2.out.size))
    have HO3 := hide (HO2.out.on hb3)
    clear hb3 hd3 HE2 HR3 HB2 HC2 HO2
    obtain ⟨e0, e1, e2, e3, e4, e5, e6, e7, e8⟩ := HE4.out.ev
    go_wp2_with fail
    clear e0 e1 e2 e3 e4 e5 e6 e7 e8
    obtain ⟨_, _, he, hat⟩ := intsAt_of_own HO3.out.l HWL.out
    cases he
    obtain ⟨_, _, he, hbt⟩ := intsAt_of_own HO3.out.p HWP.out
    cases he
    refine (implEventOk_any (i : Int) (k : Int) (sn : Int) (u : Int) (mb : Int) (d : Int) oa zl.length cl tx ob zp.length cp zl zp (by omega) _ hat hbt).mono ?_
    clear hat hbt
    cases cok : evOk (⟨i, k, sn, u, mb, zl, tx, zp, d⟩ : EvV) with
    | true =>
      have HF := hide (HY.out c9 cok)
      rintro e w4 ⟨rfl, hb4⟩
      have HE5 := hide (HE4.out.on hb4 HE4.out.lt)
      have HR5 := hide (HR4.out.on hb4 HR4.out.lt)
      have HB4 := hide (HB3.out.trans (hb4.mono HB3.out.size))
      have HO4 := hide (HO3.out.on hb4)
      clear hb4 HE4 HR4 HB3 HO3 cok
      obtain ⟨e0, e1, e2, e3, e4, e5, e6, e7, e8⟩ := HE5.out.ev
      have y0 := HR5.out.free 0
      have y1 := HR5.out.free 1
      have y2 := HR5.out.free 2
      have y3 := HR5.out.free 3
      have y4 := HR5.out.free 4
      have y5 := HR5.out.free 5
      have y6 := HR5.out.free 6
      have y7 := HR5.out.free 7
      have y8 := HR5.out.free 8
      obtain ⟨s0, s1, s2, s3, s4, s5, s6, s7, s8⟩ := HR5.out.ev
      go_wp2_with fail
      clear e0 e1 e2 e3 e4 e5 e6 e7 e8 y0 y1 y2 y3 y4 y5 y6 y7 y8 s0 s1 s2 s3 s4 s5 s6 s7 s8
      obtain ⟨w6, hw6, hE6, hg6⟩ := HR5.out.all (i : Int) (k : Int) (sn : Int) (u : Int) (mb : Int) (d : Int) (.slice oa zl.length cl) (.slice ob zp.length cp) tx
      rw [hw6]
      obtain ⟨c0, c1, c2, c3, c4, c5, c6, c7, c8⟩ := hE6.ev
      refine bodyPost_ret (v := .tuple #[evval (i : Int) (k : Int) (sn : Int) (u : Int) (mb : Int) (d : Int) (.slice oa zl.length cl) (.slice ob zp.length cp) tx, .bool true]) (by simp [results, Tryz.results91, go_sem, c0, c1, c2, c3, c4, c5, c6, c7, c8]) rfl ?_
      exact RePost.found HF.out ((HO4.out.kept hg6 (by omega)).down (by omega)) (HB4.out.grown hg6 HB4.out.size (fun j hj => by cases hj; exact Nat.le_refl _))
    | false =>
      have HF := hide (HN.out (fun q => by rw [cok] at q; cases q.2))
      rintro e w4 ⟨rfl, hb4⟩
      have HR5 := hide (HR4.out.on hb4 HR4.out.lt)
      have HB4 := hide (HB3.out.trans (hb4.mono HB3.out.size))
      clear hb4 HE4 HR4 HB3 HO3 cok
      have y0 := HR5.out.free 0
      have y1 := HR5.out.free 1
      have y2 := HR5.out.free 2
      have y3 := HR5.out.free 3
      have y4 := HR5.out.free 4
      have y5 := HR5.out.free 5
      have y6 := HR5.out.free 6
      have y7 := HR5.out.free 7
      have y8 := HR5.out.free 8
      obtain ⟨s0, s1, s2, s3, s4, s5, s6, s7, s8⟩ := HR5.out.ev
      go_wp2_with fail
      clear y0 y1 y2 y3 y4 y5 y6 y7 y8 s0 s1 s2 s3 s4 s5 s6 s7 s8
      obtain ⟨w6, hw6, hE6, hg6⟩ := HR5.out.all 0 0 0 0 0 0 (.slice none 0 0) (.slice none 0 0) []
      rw [show ((#[] : Array UInt8)) = ([] : List UInt8).toArray from rfl, hw6]
      obtain ⟨c0, c1, c2, c3, c4, c5, c6, c7, c8⟩ := hE6.ev
      refine bodyPost_ret (v := .tuple #[evval 0 0 0 0 0 0 (.slice none 0 0) (.slice none 0 0) [], .bool false]) (by simp [results, Tryz.results91, go_sem, c0, c1, c2, c3, c4, c5, c6, c7, c8]) rfl ?_
      exact RePost.zero (HF.out) (HB4.out.grown hg6 HB4.out.size (fun j hj => by cases hj; exact Nat.le_refl _))
  · rw [decide_eq_false c9]
    have HF := hide (HN.out (fun q => c9 q.1))
    rintro e w3 ⟨rfl, hd3⟩
    have hb3 := hd3.below
    have HR4 := hide (HR3.out.on hb3 HR3.out.lt)
    have HB3 := hide (HB2.out.trans (hb3.mono HB2.out.size))
    clear hb3 hd3 HE2 HR3 HB2 HC2 HO2
    have y0 := HR4.out.free 0
    have y1 := HR4.out.free 1
    have y2 := HR4.out.free 2
    have y3 := HR4.out.free 3
    have y4 := HR4.out.free 4
    have y5 := HR4.out.free 5
    have y6 := HR4.out.free 6
    have y7 := HR4.out.free 7
    have y8 := HR4.out.free 8
    obtain ⟨s0, s1, s2, s3, s4, s5, s6, s7, s8⟩ := HR4.out.ev
    go_wp2_with fail
    clear y0 y1 y2 y3 y4 y5 y6 y7 y8 s0 s1 s2 s3 s4 s5 s6 s7 s8
    obtain ⟨w6, hw6, hE6, hg6⟩ := HR4.out.all 0 0 0 0 0 0 (.slice none 0 0) (.slice none 0 0) []
    rw [show ((#[] : Array UInt8)) = ([] : List UInt8).toArray from rfl, hw6]
    obtain ⟨c0, c1, c2, c3, c4, c5, c6, c7, c8⟩ := hE6.ev
    refine bodyPost_ret (v := .tuple #[evval 0 0 0 0 0 0 (.slice none 0 0) (.slice none 0 0) [], .bool false]) (by simp [results, Tryz.results91, go_sem, c0, c1, c2, c3, c4, c5, c6, c7, c8]) rfl ?_
    exact RePost.zero (HF.out) (HB3.out.grown hg6 HB3.out.size (fun j hj => by cases hj; exact Nat.le_refl _))

end Go.Proofs.YtckkfjmjcknjdaaGreatDoor
