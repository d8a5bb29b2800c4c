/-
  Walks of chapter 9: a list of fields, read (made by wip/tools/gen9l.py).
-/
import Derived.Test.YtnamneagkjmimaaWalk9k
import Derived.Test.YtnamneagkjmimaaInts
namespace Go.Proofs.Ytnamneagkjmimaa
open Go.RowKit P1 P3 P9 P11 P12 K
set_option linter.unusedVariables false
set_option linter.unusedSimpArgs false

theorem grown_low {a b c : World} {r : Option Nat} (h : a.grownBy b r) (k : Below a.heap.size b c) : a.grownBy c r :=
  ⟨k.os.trans h.os, k.tape.trans h.tape, k.output.trans h.output, Nat.le_trans h.size k.size, fun i hi hne => (k.block i hi).trans (h.block i hi hne)⟩

def lsL (f : Lf → Nat × Lf) (most : Nat) (r : Lf) : List Int × Lf := if (numL r).1 > most then ([], none) else itL f (numL r).1 (numL r).2

/-- What list gives: a row of its own, and the reader behind it. -/
def LsPost (f : Lf → Nat × Lf) (most : Nat) (r : Lf) (g : Nat) (s : ByteArray) (w : World) (e : Ending) (w' : World) : Prop :=
  ∃ v, e = .returned v ∧ w'.ownsRow w.heap.size 3 1 v (lsL f most r).1.length ((lsL f most r).1.map icell) ∧ FRL w' g s (lsL f most r).2 ∧ w.grownBy w' (some g)

set_option maxHeartbeats 2000000 in
theorem list_byte (g : Nat) (s : ByteArray) (hs : s.size ≤ 1048576) (most : Nat) (hm : most ≤ 1000) (r : Lf) (w : World) (h : FRL w g s r) :
    Calls Try.prog 57 #[.pointer (some ⟨g, 0, none⟩), .int .i64 (most : Int), .func (.func 56) #[.pointer (some ⟨g, 0, none⟩)] #[]] w fun e w' => LsPost byteL most r g s w e w' := by
  have hgl := h.lt
  have HN := hide (number_any g s hs r w h)
  unfold LsPost lsL
  have hcl := numL_le r
  generalize numL r = q at HN hcl ⊢
  obtain ⟨c, r1⟩ := q
  simp only at HN hcl ⊢
  clear h
  by_cases hc : c > most
  · rw [if_pos hc]
    have g1 : (most : Int) < (c : Int) := by omega
    go_enter Try.func57, Try.ntmps57
    go_wp2_with fail
    refine HN.out.mono ?_
    rintro e w1 ⟨rfl, hc1, hg1⟩
    obtain ⟨p, ⟨hp, hblk⟩, hr1⟩ := hc1
    have HB := hide hblk
    have HG := hide hg1
    clear hp hblk hr1 hg1
    go_wp2_with fail
    refine (goTo_no g s _ 0 _ HB.out).mono ?_
    rintro e w2 ⟨rfl, hb2, hg2⟩
    have HB2 := hide hb2
    have HG2 := hide (grown_trans HG.out hg2)
    clear hb2 hg2
    go_wp2_with fail
    refine bodyPost_ret (v := .slice none 0 0) (by simp [results, Try.results57, go_sem]) rfl ?_
    exact ⟨.slice none 0 0, rfl, World.ownsRow_nil _ _ _ _, FRL.off HB2.out, HG2.out⟩
  · rw [if_neg hc]
    have g1 : ¬ (most : Int) < (c : Int) := by omega
    have g2 : decide (most < c) = false := by simp; omega
    have hc20 : c ≤ 1000 := by omega
    clear hc hcl
    go_enter Try.func57, Try.ntmps57
    go_wp2_with fail
    refine HN.out.mono ?_
    rintro e w1 ⟨rfl, hc1, hg1⟩
    have HC1 := hide hc1
    have HG1 := hide hg1
    clear hc1 hg1
    go_wp2_with fail
    go_loopw [7, 18] (fun v i wr => ∃ (j : Nat), i = .int .i64 (j : Int) ∧ j ≤ c ∧ FRL wr g s (itL byteL j r1).2 ∧ wr.ownsRow w.heap.size 3 1 v j ((itL byteL j r1).1.map icell) ∧ w.grownBy wr (some g)) (fun _ i _ => c - (intOf i).toNat)
    case atStart => exact ⟨0, rfl, Nat.zero_le _, HC1.out, World.ownsRow_nil _ _ _ _, HG1.out⟩
    case round =>
      obtain ⟨j, rfl, hj, hcur, hown, hgr⟩ := hrel
      have HCU := hide hcur
      have HOW := hide hown
      have HGR := hide hgr
      clear hcur hown hgr
      by_cases hlt : j < c
      · have j0 : (j : Int) < (c : Int) := by omega
        have HE := hide (oneByte_any g s hs _ wr HCU.out)
        have e1 : (itL byteL (j + 1) r1).1.map icell = (itL byteL j r1).1.map icell ++ [.int .i64 (((byteL (itL byteL j r1).2).1 : Nat) : Int)] := by simp [itL, icell]
        have e2 : (itL byteL (j + 1) r1).2 = (byteL (itL byteL j r1).2).2 := rfl
        rw [← e2] at HE
        have E1 := hide e1
        generalize (byteL (itL byteL j r1).2).1 = bv at HE E1
        clear e1 e2
        go_wp2_with fail
        refine HE.out.mono ?_
        rintro e w2 ⟨rfl, hc2, hg2⟩
        have HC2 := hide hc2
        have HG2 := hide (grown_trans HGR.out hg2)
        have hown2 := HOW.out.kept hg2 (Or.inr (fun q => by have := HOW.out.lt g q; omega))
        have hsz := HG2.out.size
        have hbel := Below.refl w.heap.size w2
        clear hc2 hg2
        go_wp2_with (at_builtin; refine wpList_push rfl _ _ 24 rfl Try.underlying24 infoIz rfl rfl hown2 rfl rfl hbel hsz (by unfold maxLen; omega) (by omega) ?_)
        intro v' w3 hown' hbel' hsz'
        have HO3 := hide (show w3.ownsRow w.heap.size 3 1 v' (j + 1) ((itL byteL (j + 1) r1).1.map icell) by rw [E1.out]; exact hown')
        have HC3 := hide (HC2.out.kept (hbel'.block g hgl))
        have HG3 := hide (grown_low HG2.out hbel')
        clear hown' hbel' hsz' hown2 hbel hsz
        go_wp2_with fail
        go_roundw
        case rel => exact ⟨j + 1, by go_num, by omega, HC3.out, HO3.out, HG3.out⟩
        case measure => simp [intOf]; omega
      · have hjn : j = c := by omega
        subst hjn
        have HLN := hide (itL_len byteL j r1)
        go_wp2_with fail
        obtain ⟨ov, cv, hv⟩ := row_form HOW.out
        subst hv
        refine bodyPost_ret (v := .slice ov j cv) (by simp [results, Try.results57, go_sem]) rfl ?_
        exact ⟨.slice ov j cv, rfl, by rw [HLN.out]; exact HOW.out, HCU.out, HGR.out⟩

set_option maxHeartbeats 2000000 in
theorem list_num (g : Nat) (s : ByteArray) (hs : s.size ≤ 1048576) (most : Nat) (hm : most ≤ 1000) (r : Lf) (w : World) (h : FRL w g s r) :
    Calls Try.prog 57 #[.pointer (some ⟨g, 0, none⟩), .int .i64 (most : Int), .func (.func 55) #[.pointer (some ⟨g, 0, none⟩)] #[]] w fun e w' => LsPost numL most r g s w e w' := by
  have hgl := h.lt
  have HN := hide (number_any g s hs r w h)
  unfold LsPost lsL
  have hcl := numL_le r
  generalize numL r = q at HN hcl ⊢
  obtain ⟨c, r1⟩ := q
  simp only at HN hcl ⊢
  clear h
  by_cases hc : c > most
  · rw [if_pos hc]
    have g1 : (most : Int) < (c : Int) := by omega
    go_enter Try.func57, Try.ntmps57
    go_wp2_with fail
    refine HN.out.mono ?_
    rintro e w1 ⟨rfl, hc1, hg1⟩
    obtain ⟨p, ⟨hp, hblk⟩, hr1⟩ := hc1
    have HB := hide hblk
    have HG := hide hg1
    clear hp hblk hr1 hg1
    go_wp2_with fail
    refine (goTo_no g s _ 0 _ HB.out).mono ?_
    rintro e w2 ⟨rfl, hb2, hg2⟩
    have HB2 := hide hb2
    have HG2 := hide (grown_trans HG.out hg2)
    clear hb2 hg2
    go_wp2_with fail
    refine bodyPost_ret (v := .slice none 0 0) (by simp [results, Try.results57, go_sem]) rfl ?_
    exact ⟨.slice none 0 0, rfl, World.ownsRow_nil _ _ _ _, FRL.off HB2.out, HG2.out⟩
  · rw [if_neg hc]
    have g1 : ¬ (most : Int) < (c : Int) := by omega
    have g2 : decide (most < c) = false := by simp; omega
    have hc20 : c ≤ 1000 := by omega
    clear hc hcl
    go_enter Try.func57, Try.ntmps57
    go_wp2_with fail
    refine HN.out.mono ?_
    rintro e w1 ⟨rfl, hc1, hg1⟩
    have HC1 := hide hc1
    have HG1 := hide hg1
    clear hc1 hg1
    go_wp2_with fail
    go_loopw [7, 18] (fun v i wr => ∃ (j : Nat), i = .int .i64 (j : Int) ∧ j ≤ c ∧ FRL wr g s (itL numL j r1).2 ∧ wr.ownsRow w.heap.size 3 1 v j ((itL numL j r1).1.map icell) ∧ w.grownBy wr (some g)) (fun _ i _ => c - (intOf i).toNat)
    case atStart => exact ⟨0, rfl, Nat.zero_le _, HC1.out, World.ownsRow_nil _ _ _ _, HG1.out⟩
    case round =>
      obtain ⟨j, rfl, hj, hcur, hown, hgr⟩ := hrel
      have HCU := hide hcur
      have HOW := hide hown
      have HGR := hide hgr
      clear hcur hown hgr
      by_cases hlt : j < c
      · have j0 : (j : Int) < (c : Int) := by omega
        have HE := hide (number_any g s hs _ wr HCU.out)
        have e1 : (itL numL (j + 1) r1).1.map icell = (itL numL j r1).1.map icell ++ [.int .i64 (((numL (itL numL j r1).2).1 : Nat) : Int)] := by simp [itL, icell]
        have e2 : (itL numL (j + 1) r1).2 = (numL (itL numL j r1).2).2 := rfl
        rw [← e2] at HE
        have E1 := hide e1
        generalize (numL (itL numL j r1).2).1 = bv at HE E1
        clear e1 e2
        go_wp2_with fail
        refine HE.out.mono ?_
        rintro e w2 ⟨rfl, hc2, hg2⟩
        have HC2 := hide hc2
        have HG2 := hide (grown_trans HGR.out hg2)
        have hown2 := HOW.out.kept hg2 (Or.inr (fun q => by have := HOW.out.lt g q; omega))
        have hsz := HG2.out.size
        have hbel := Below.refl w.heap.size w2
        clear hc2 hg2
        go_wp2_with (at_builtin; refine wpList_push rfl _ _ 24 rfl Try.underlying24 infoIz rfl rfl hown2 rfl rfl hbel hsz (by unfold maxLen; omega) (by omega) ?_)
        intro v' w3 hown' hbel' hsz'
        have HO3 := hide (show w3.ownsRow w.heap.size 3 1 v' (j + 1) ((itL numL (j + 1) r1).1.map icell) by rw [E1.out]; exact hown')
        have HC3 := hide (HC2.out.kept (hbel'.block g hgl))
        have HG3 := hide (grown_low HG2.out hbel')
        clear hown' hbel' hsz' hown2 hbel hsz
        go_wp2_with fail
        go_roundw
        case rel => exact ⟨j + 1, by go_num, by omega, HC3.out, HO3.out, HG3.out⟩
        case measure => simp [intOf]; omega
      · have hjn : j = c := by omega
        subst hjn
        have HLN := hide (itL_len numL j r1)
        go_wp2_with fail
        obtain ⟨ov, cv, hv⟩ := row_form HOW.out
        subst hv
        refine bodyPost_ret (v := .slice ov j cv) (by simp [results, Try.results57, go_sem]) rfl ?_
        exact ⟨.slice ov j cv, rfl, by rw [HLN.out]; exact HOW.out, HCU.out, HGR.out⟩

end Go.Proofs.Ytnamneagkjmimaa
