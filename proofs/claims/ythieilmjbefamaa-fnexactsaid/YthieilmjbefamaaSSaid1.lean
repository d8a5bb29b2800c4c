/-
  Walks and mathematics of Said1.
-/
import Derived.Test.YthieilmjbefamaaSRoomW3
import Derived.Test.YthieilmjbefamaaSLawStr
import Derived.Test.YthieilmjbefamaaSWalkClone
namespace Go.Proofs.Ythieilmjbefamaa.P11
end Go.Proofs.Ythieilmjbefamaa.P11
namespace Go.Proofs.Ythieilmjbefamaa.P14
end Go.Proofs.Ythieilmjbefamaa.P14
namespace Go.Proofs.Ythieilmjbefamaa.P3
end Go.Proofs.Ythieilmjbefamaa.P3
namespace Go.Proofs.Ythieilmjbefamaa.P9
end Go.Proofs.Ythieilmjbefamaa.P9
namespace Go.Proofs.Ythieilmjbefamaa
open Go.RowKit P1 P3 P5 P9 P11 P12 P14 K
set_option linter.unusedVariables false
set_option linter.unusedSimpArgs false

def saidP (x : EvV × Bool) : Option (List UInt8) := if x.1.kind = 5 ∧ x.2 = true then some x.1.text else none
def saidTo (es : List EvV) (gs : List Bool) (j : Nat) : List (List UInt8) := ((es.zip gs).take j).filterMap saidP
def saidL (es : List EvV) (gs : List Bool) : List (List UInt8) := (es.zip gs).filterMap saidP

theorem saidTo_len (es : List EvV) (gs : List Bool) (j : Nat) : (saidTo es gs j).length ≤ j := by
  unfold saidTo
  have h1 := List.length_filterMap_le saidP ((es.zip gs).take j)
  rw [List.length_take] at h1
  omega

theorem saidL_len (es : List EvV) (gs : List Bool) : (saidL es gs).length ≤ es.length := by
  unfold saidL
  have h1 := List.length_filterMap_le saidP (es.zip gs)
  rw [List.length_zip] at h1
  omega

theorem zip_at {es : List EvV} {gs : List Bool} {j : Nat} {e : EvV} {t : Bool} (he : es[j]? = some e) (hg : gs[j]? = some t) : (es.zip gs)[j]? = some (e, t) := List.getElem?_zip_eq_some.2 ⟨he, hg⟩

theorem saidTo_yes {es : List EvV} {gs : List Bool} {j : Nat} {e : EvV} (he : es[j]? = some e) (hg : gs[j]? = some true) (hk : e.kind = 5) : saidTo es gs (j + 1) = saidTo es gs j ++ [e.text] := by
  unfold saidTo
  rw [List.take_add_one, zip_at he hg, List.filterMap_append]
  simp [saidP, hk]

theorem saidTo_no {es : List EvV} {gs : List Bool} {j : Nat} {e : EvV} {t : Bool} (he : es[j]? = some e) (hg : gs[j]? = some t) (hn : ¬ (e.kind = 5 ∧ t = true)) : saidTo es gs (j + 1) = saidTo es gs j := by
  unfold saidTo
  rw [List.take_add_one, zip_at he hg, List.filterMap_append]
  simp [saidP, hn]

theorem saidTo_over {es : List EvV} {gs : List Bool} {j : Nat} (h : gs.length ≤ j) : saidTo es gs (j + 1) = saidTo es gs j := by
  unfold saidTo
  rw [List.take_of_length_le (by rw [List.length_zip]; omega), List.take_of_length_le (by rw [List.length_zip]; omega)]

theorem saidTo_all {es : List EvV} {gs : List Bool} {j : Nat} (h : es.length ≤ j ∨ gs.length ≤ j) : saidTo es gs j = saidL es gs := by
  unfold saidTo saidL
  rw [List.take_of_length_le (by rw [List.length_zip]; omega)]

theorem row_empty {w0 w : World} {e : TypeId} (hb : Below w0.heap.size w0 w) : (w.alloc (.cells #[] e)).ownsRow w0.heap.size e 1 (.slice (some ⟨w.heap.size, 0, none⟩) 0 0) 0 [] ∧ Below w0.heap.size w0 (w.alloc (.cells #[] e)) :=
  ⟨World.ownsRow_made (w := w) #[] 0 hb.size (by decide) rfl, hb.alloc hb.size _⟩

def TxtOut (xs : List (List UInt8)) (w : World) (v : Value) (w' : World) : Prop := (∃ g cap, v = .slice (some ⟨g, 0, none⟩) xs.length cap) ∧ w'.ownsRow w.heap.size 9 1 v xs.length (strs xs) ∧ Below w.heap.size w w'

theorem TxtOut.next {xs : List (List UInt8)} {w : World} {v : Value} {w' : World} {t : List UInt8} (ho : w'.ownsRow w.heap.size 9 1 v (xs.length + 1) (strs xs ++ [.string ⟨t.toArray⟩])) (hb : Below w.heap.size w w') : TxtOut (xs ++ [t]) w v w' := by
  have ho2 : w'.ownsRow w.heap.size 9 1 v (xs ++ [t]).length (strs (xs ++ [t])) := by
    rw [strs_append, List.length_append]; exact ho
  obtain ⟨g', cap', e1, _⟩ := ho2.form (by simp)
  exact ⟨⟨g', cap', e1⟩, ho2, hb⟩

theorem TxtOut.done {es : List EvV} {gs : List Bool} {j : Nat} {w W : World} {g cap : Nat} {w' : World} (h : saidTo es gs j = saidL es gs) (hb : Below w.heap.size w W) (ho : w'.ownsRow W.heap.size 9 1 (.slice (some ⟨g, 0, none⟩) (saidTo es gs j).length cap) (saidTo es gs j).length (strs (saidTo es gs j))) (hb' : Below W.heap.size W w') :
    w'.ownsRow w.heap.size 9 1 (.slice (some ⟨g, 0, none⟩) (saidL es gs).length cap) (saidL es gs).length (strs (saidL es gs)) ∧ Below w.heap.size w w' := by
  rw [h] at ho
  exact ⟨own_base ho hb.size, hb.trans (hb'.mono hb.size)⟩

def SaidPost (es : List EvV) (gs : List Bool) (w : World) (r : Ending) (w' : World) : Prop := ∃ g cap, r = .returned (.slice (some ⟨g, 0, none⟩) (saidL es gs).length cap) ∧ w'.ownsRow w.heap.size 9 1 (.slice (some ⟨g, 0, none⟩) (saidL es gs).length cap) (saidL es gs).length (strs (saidL es gs)) ∧ Below w.heap.size w w'

set_option maxRecDepth 100000 in
set_option maxHeartbeats 4000000 in
theorem specSaid_any (oa : Option Addr) (n cap : Nat) (es : List EvV) (so : Option Addr) (sn sc : Nat) (go : Option Addr) (gn gc : Nat) (gs : List Bool) (hn20 : n ≤ 1048576) (w : World) (hev : EvsAt w oa n cap es) (hgs : BoolsAt w go gn gc gs) :
    Calls Try.prog 12 #[roomv oa n cap so sn sc go gn gc] w (SaidPost es gs w) := by
  have hgm := Nat.le_trans hgs.room hgs.most
  unfold maxLen at hgm
  obtain ⟨W0, hW0⟩ : ∃ W0, w.alloc (.cells #[.slice oa n cap, .slice so sn sc, .slice go gn gc] 33) = W0 := ⟨_, rfl⟩
  have hb0 : Below w.heap.size w W0 := by rw [← hW0]; exact (Below.refl _ _).alloc (Nat.le_refl _) _
  have hA0 : W0.heap[w.heap.size]? = some (.cells #[.slice oa n cap, .slice so sn sc, .slice go gn gc] 33 (0, 0)) := by rw [← hW0]; exact heap_alloc_new _ _
  have HEV := hide (hev.below hb0)
  have HGS := hide (hgs.below hb0)
  have HEL := hide hev.len
  have HGL := hide hgs.len
  have HW0 := hide hW0
  have HB0 := hide hb0
  have HE := hide (row_empty (e := 9) (Below.refl W0.heap.size W0))
  have HA := hide (fun (W : World) (h : Below W0.heap.size W0 W) => (h.block _ (blk_lt hA0)).trans hA0)
  clear hb0 hA0 hW0 hev hgs
  go_enter Try.func12, Try.ntmps12
  go_upto_region 1 with fail
  rw [HW0.out]
  clear HW0
  go_wp2_with fail
  go_loopw [3, 4] (fun v x wr => ∃ (j : Nat), x = .int .i64 (j : Int) ∧ j ≤ n ∧ TxtOut (saidTo es gs j) W0 v wr) (fun _ x _ => n - (intOf x).toNat)
  case atStart => exact ⟨0, rfl, Nat.zero_le _, ⟨_, _, rfl⟩, HE.out.1, HE.out.2⟩
  case round =>
    obtain ⟨j, rfl, hj, ⟨g, c, rfl⟩, hown, hbel⟩ := hrel
    have hA := HA.out wr hbel
    have c0 := blk_cell hA 0 rfl
    have c2 := blk_cell hA 2 rfl
    have HO := hide hown
    have HB := hide hbel
    have hbl := blk_lt hA
    clear hA hown hbel HE
    by_cases hlt : j < n
    · have j0 : (j : Int) < (n : Int) := by omega
      by_cases hlg : j < gn
      · have j1 : (j : Int) < (gn : Int) := by omega
        obtain ⟨x, bx, qx, xa, xc, ya, yc, hx, hidx, hev0⟩ := (HEV.out.below HB.out).get Try.underlying30 infoIV j hlt
        obtain ⟨t, bg, qg, ht, hidg, hcg⟩ := (HGS.out.below HB.out).get Try.underlying24 infoB1 j hlg
        have k1 := hev0.cell 1 _ rfl
        have k6 := hev0.cell 6 _ rfl
        have HX := hide hx
        have HT := hide ht
        clear hev0 hx ht
        by_cases hk : x.kind = 5
        · have q : (x.kind == 5) = true := by rw [hk]; rfl
          cases t with
          | true =>
            have HF := hide (saidTo_yes HX.out HT.out hk)
            have hown := HO.out
            have hbel := HB.out
            have hsz := hbel.size
            have hxl := saidTo_len es gs j
            clear hk
            go_wp2_with (at_builtin; refine wpList_push rfl _ _ 39 rfl Try.underlying39 infoStr rfl rfl hown rfl rfl hbel hsz (by unfold maxLen; omega) (by omega) ?_; intro v' w1 hown' hbel' hsz')
            have HN := hide (TxtOut.next hown' hbel')
            rw [← HF.out] at HN
            clear hown' hbel' hown hbel
            go_roundw
            case rel => exact ⟨j + 1, by go_num, by omega, HN.out⟩
            case measure => simp [intOf]; omega
          | false =>
            have HF := hide (saidTo_no HX.out HT.out (by simp))
            clear hk
            go_wp2_with fail
            go_roundw
            case rel => exact ⟨j + 1, by go_num, by omega, by rw [HF.out]; exact ⟨⟨_, _, rfl⟩, HO.out, HB.out⟩⟩
            case measure => simp [intOf]; omega
        · have q : (x.kind == 5) = false := by simpa using hk
          have HF := hide (saidTo_no HX.out HT.out (fun h => hk h.1))
          clear hk
          go_wp2_with fail
          go_roundw
          case rel => exact ⟨j + 1, by go_num, by omega, by rw [HF.out]; exact ⟨⟨_, _, rfl⟩, HO.out, HB.out⟩⟩
          case measure => simp [intOf]; omega
      · have j1 : ¬ ((j : Int) < (gn : Int)) := by omega
        have HF := hide (saidTo_all (es := es) (gs := gs) (j := j) (.inr (by rw [HGL.out]; omega)))
        go_wp2_with fail
        go_ret
        exact ⟨g, c, by rw [HF.out]; rfl, TxtOut.done HF.out HB0.out HO.out HB.out⟩
    · have j0 : ¬ ((j : Int) < (n : Int)) := by omega
      have HF := hide (saidTo_all (es := es) (gs := gs) (j := j) (.inl (by rw [HEL.out]; omega)))
      go_wp2_with fail
      go_ret
      exact ⟨g, c, by rw [HF.out]; rfl, TxtOut.done HF.out HB0.out HO.out HB.out⟩

end Go.Proofs.Ythieilmjbefamaa
