/-
  Walks and mathematics of Said2.
-/
import Derived.Test.YthieilmjbefamaaSSaid1
namespace Go.Proofs.Ythieilmjbefamaa.P11
end Go.Proofs.Ythieilmjbefamaa.P11
namespace Go.Proofs.Ythieilmjbefamaa.P14
end Go.Proofs.Ythieilmjbefamaa.P14
namespace Go.Proofs.Ythieilmjbefamaa.P3
end Go.Proofs.Ythieilmjbefamaa.P3
namespace Go.Proofs.Ythieilmjbefamaa.P9
end Go.Proofs.Ythieilmjbefamaa.P9
namespace Go.Proofs.Ythieilmjbefamaa
open Go.RowKit P1 P3 P5 P9 P11 P12 P14 K
set_option linter.unusedVariables false
set_option linter.unusedSimpArgs false

set_option maxRecDepth 100000 in
set_option maxHeartbeats 8000000 in
theorem implSaid_any (oa : Option Addr) (n cap : Nat) (es : List EvV) (so : Option Addr) (sn sc : Nat) (go : Option Addr) (gn gc : Nat) (gs : List Bool) (hf : FineE es) (w : World) (hev : EvsAt w oa n cap es) (hgs : BoolsAt w go gn gc gs) :
    Calls Try.prog 13 #[roomv oa n cap so sn sc go gn gc] w (SaidPost es gs w) := by
  have hn20 : n ≤ 1048576 := by rw [← hev.len]; exact hf.len
  have hgm := Nat.le_trans hgs.room hgs.most
  unfold maxLen at hgm
  obtain ⟨W0, hW0⟩ : ∃ W0, w.alloc (.cells #[.slice oa n cap, .slice so sn sc, .slice go gn gc] 33) = W0 := ⟨_, rfl⟩
  have hb0 : Below w.heap.size w W0 := by rw [← hW0]; exact (Below.refl _ _).alloc (Nat.le_refl _) _
  have hA0 : W0.heap[w.heap.size]? = some (.cells #[.slice oa n cap, .slice so sn sc, .slice go gn gc] 33 (0, 0)) := by rw [← hW0]; exact heap_alloc_new _ _
  obtain ⟨W1, hW1⟩ : ∃ W1, W0.alloc (.cells #[] 9) = W1 := ⟨_, rfl⟩
  have he := row_empty (e := 9) (Below.refl W0.heap.size W0)
  rw [hW1] at he
  have HEV := hide (hev.below hb0)
  have HGS := hide (hgs.below hb0)
  have HEL := hide hev.len
  have HGL := hide hgs.len
  have HFI := hide hf
  have HW0 := hide hW0
  have HW1 := hide hW1
  have HB0 := hide hb0
  have HE := hide he
  have HA := hide (fun (W : World) (h : Below W0.heap.size W0 W) => (h.block _ (blk_lt hA0)).trans hA0)
  have c00 := blk_cell (HA.out W1 he.2) 0 rfl
  clear hb0 hA0 hW0 hW1 hev hgs he hf
  go_enter Try.func13, Try.ntmps13
  go_upto_region 1 with fail
  rw [HW0.out]
  clear HW0
  go_upto_region 2 with fail
  rw [HW1.out]
  clear HW1
  go_wp2_with fail
  clear c00
  go_loopw [3, 11] (fun v x wr => ∃ (j : Nat), x = .int .i64 (j : Int) ∧ j ≤ n ∧ TxtOut (saidTo es gs j) W0 v wr) (fun _ x _ => n - (intOf x).toNat)
  case atStart => exact ⟨0, rfl, Nat.zero_le _, ⟨_, _, rfl⟩, HE.out.1, HE.out.2⟩
  case round =>
    obtain ⟨j, rfl, hj, ⟨g, c, rfl⟩, hown, hbel⟩ := hrel
    have HO := hide hown
    have HB := hide hbel
    clear hown hbel HE
    by_cases hlt : j < n
    · have j0 : (j : Int) < (n : Int) := by omega
      obtain ⟨x, bx, qx, xa, xc, ya, yc, hx, hidx, hev0⟩ := (HEV.out.below HB.out).get Try.underlying30 infoIV j hlt
      obtain ⟨c0, c1, c2, c3, c4, c5, c6, c7, c8⟩ := hev0.cs
      obtain ⟨Wa, hWa⟩ : ∃ Wa, wr.alloc (.cells (evcells x.id x.kind x.sender x.user x.member x.depth (.slice xa x.levels.length xc) (.slice ya x.prev.length yc) x.text) 49) = Wa := ⟨_, rfl⟩
      have hba : Below wr.heap.size wr Wa := by rw [← hWa]; exact (Below.refl _ _).alloc (Nat.le_refl _) _
      have hEa : EB Wa wr.heap.size x.id x.kind x.sender x.user x.member x.depth (.slice xa x.levels.length xc) (.slice ya x.prev.length yc) x.text := by rw [← hWa]; exact EB.new _ _ _ _ _ _ _ _ _ _
      have HWA := hide hWa
      have hb2 := HB.out.trans (hba.mono HB.out.size)
      have HO2 := hide (own_below HO.out hba)
      have HB2 := hide hb2
      have hA := HA.out Wa hb2
      have r2 := blk_cell hA 2 rfl
      have HX := hide hx
      have htx := (HFI.out.one (List.mem_of_getElem? hx)).2.1
      obtain ⟨a0, a1, a2, a3, a4, a5, a6, a7, a8⟩ := hEa.ev
      have hla := hEa.lt
      have hlb := blk_lt hA
      clear hx hev0 hba hEa hWa hA hb2 HO HB a0 a2 a3 a4 a5 a7 a8
      go_upto_region 5 with fail
      rw [HWA.out]
      clear HWA c0 c1 c2 c3 c4 c5 c6 c7 c8 hidx
      by_cases hlg : j < gn
      · have j1 : (j : Int) < (gn : Int) := by omega
        obtain ⟨t, bg, qg, ht, hidg, hcg⟩ := (HGS.out.below HB2.out).get Try.underlying24 infoB1 j hlg
        have HT := hide ht
        clear ht
        cases t with
        | true =>
          by_cases hk : x.kind = 5
          · have q : (x.kind == 5) = true := by rw [hk]; rfl
            have HF := hide (saidTo_yes HX.out HT.out hk)
            have hxl := saidTo_len es gs j
            have hts : (⟨x.text.toArray⟩ : ByteArray).size ≤ 281474976710656 := by
              show x.text.toArray.size ≤ _
              rw [List.size_toArray]
              omega
            clear hk
            go_wp2_with (first
              | (go_at_call 31; (with_reducible refine (stringsClone_any ⟨x.text.toArray⟩ hts Wa).mono ?_); rintro r w3 ⟨rfl, hb3⟩; have hown := own_below HO2.out hb3; have hbel := HB2.out.trans (hb3.mono HB2.out.size); have hsz := hbel.size)
              | (at_builtin; refine wpList_push rfl _ _ 39 rfl Try.underlying39 infoStr rfl rfl hown rfl rfl hbel hsz (by unfold maxLen; omega) (by omega) ?_; intro v' w1 hown' hbel' hsz'))
            have HN := hide (TxtOut.next hown' hbel')
            rw [← HF.out] at HN
            clear hown' hbel' hown hbel
            go_roundw
            case rel => exact ⟨j + 1, by go_num, by omega, HN.out⟩
            case measure => simp [intOf]; omega
          · have q : (x.kind == 5) = false := by simpa using hk
            have HF := hide (saidTo_no HX.out HT.out (fun h => hk h.1))
            clear hk
            go_wp2_with fail
            go_roundw
            case rel => exact ⟨j + 1, by go_num, by omega, by rw [HF.out]; exact ⟨⟨_, _, rfl⟩, HO2.out, HB2.out⟩⟩
            case measure => simp [intOf]; omega
        | false =>
          have HF := hide (saidTo_no HX.out HT.out (by simp))
          go_wp2_with fail
          go_roundw
          case rel => exact ⟨j + 1, by go_num, by omega, by rw [HF.out]; exact ⟨⟨_, _, rfl⟩, HO2.out, HB2.out⟩⟩
          case measure => simp [intOf]; omega
      · have j1 : ¬ ((j : Int) < (gn : Int)) := by omega
        have HF := hide (saidTo_over (es := es) (gs := gs) (j := j) (by rw [HGL.out]; omega))
        go_wp2_with fail
        go_roundw
        case rel => exact ⟨j + 1, by go_num, by omega, by rw [HF.out]; exact ⟨⟨_, _, rfl⟩, HO2.out, HB2.out⟩⟩
        case measure => simp [intOf]; omega
    · have j0 : ¬ ((j : Int) < (n : Int)) := by omega
      have HF := hide (saidTo_all (es := es) (gs := gs) (j := j) (.inl (by rw [HEL.out]; omega)))
      go_wp2_with fail
      go_ret
      exact ⟨g, c, by rw [HF.out]; rfl, TxtOut.done HF.out HB0.out HO.out HB.out⟩

end Go.Proofs.Ythieilmjbefamaa
