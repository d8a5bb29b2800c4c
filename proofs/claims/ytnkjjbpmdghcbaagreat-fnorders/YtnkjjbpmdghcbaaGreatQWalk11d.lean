/-
  Walks and mathematics of Walk11d.
-/
import Derived.Test.YtnkjjbpmdghcbaaGreatQWalk11b
import Derived.Deep.Cut
import Derived.Deep.RegionLaw
namespace Go.Proofs.YtnkjjbpmdghcbaaGreat.P11
end Go.Proofs.YtnkjjbpmdghcbaaGreat.P11
namespace Go.Proofs.YtnkjjbpmdghcbaaGreat
open Go.RowKit P1 P5 P9 P11 P12 P14 P15 K
set_option linter.unusedVariables false
set_option linter.unusedSimpArgs false

def agreedOf (ss : List St) (ks : List Int) : St := (ks.filter (alike ss)).map (fun k => (k, stAt (ss.headD []) k))

theorem agreedOf_snoc {ss : List St} {ks : List Int} {j : Nat} {z : Int} (h : ks[j]? = some z) : agreedOf ss (ks.take (j + 1)) = agreedOf ss (ks.take j) ++ (if alike ss z then [(z, stAt (ss.headD []) z)] else []) := by
 unfold agreedOf
 rw [filter_take h, List.map_append]
 split <;> simp

set_option maxRecDepth 100000 in
set_option maxHeartbeats 8000000 in
theorem specAgreed_any (oa : Option Addr) (n cap : Nat) (ss : List St) (w : World) (hat : StsAt w oa n cap ss) :
  Calls Tryz.prog 20 #[.slice oa n cap] w (PutPost w (agreed ss)) := by
 have hb0 := (Below.refl w.heap.size w).alloc (Nat.le_refl _) (.cells #[] 36)
 have HK := hide (l11Keys_any oa n cap ss _ (hat.below hb0))
 have HAL := hide (fun k w hat => l11Alike_any oa n cap ss k w hat)
 have HAT := hide hat
 have HB0 := hide hb0
 have HO0 := hide (World.ownsRow_made (w := w) (e := 36) (size := 2) #[] 0 (Nat.le_refl _) (by decide) rfl)
 have hsm := keysOf_small ss
 have HWF := hide (keys_wf ss)
 have HKI := hide (fun z (hz : z ∈ keysOf ss) => keysOf_in hz)
 obtain ⟨ks, hks⟩ : ∃ ks, keysOf ss = ks := ⟨_, rfl⟩
 have HCL := hide (show agreed ss = agreedOf ss ks by rw [← hks]; rfl)
 rw [hks] at HK hsm HWF HKI
 clear hat hb0 hks
 go_enter Tryz.func20, Tryz.ntmps20
 go_wp2_with fail
 refine HK.out.mono ?_
 rintro e w1 ⟨v1, rfl, ho1, hb1⟩
 obtain ⟨o1, c1, rfl⟩ := row_form ho1
 have HK1 := hide ho1
 have HN1 := hide (own_below HO0.out hb1)
 have HB1 := hide (HB0.out.trans (hb1.mono HB0.out.size))
 clear ho1 hb1 HO0 HK
 go_wp2_with fail
 go_loopw [3, 5] (fun v x wr => ∃ (j : Nat) (oo : Option Addr) (m co : Nat), x = .int .i64 (j : Int) ∧ v = .slice oo m co ∧ j ≤ ks.length ∧ wr.ownsRow w.heap.size 36 2 (.slice oo m co) (agreedOf ss (ks.take j)).length ((agreedOf ss (ks.take j)).flatMap icells) ∧ wr.ownsRow (w.alloc (.cells #[] 36)).heap.size 3 1 (.slice o1 ks.length c1) ks.length (ks.map icell) ∧ Below w.heap.size w wr) (fun _ x _ => ks.length - (intOf x).toNat)
 case atStart => exact ⟨0, _, _, _, rfl, rfl, Nat.zero_le _, HN1.out, HK1.out, HB1.out⟩
 case round =>
  obtain ⟨j, oo, m, co, rfl, rfl, hj, hown, hkey, hbel⟩ := hrel
  have HO := hide hown
  have HKY := hide hkey
  have hsz := hbel.size
  clear HN1 HK1 HB1
  by_cases hlt : j < ks.length
  ·have j0 : (j : Int) < (ks.length : Int) := by omega
   obtain ⟨_, _, he, hki⟩ := intsAt_of_own hkey HWF.out
   cases he
   obtain ⟨z, b, q, hz, hidx, hb, c0, hwz⟩ := hki.get Tryz.underlying32 infoI j hlt
   have HF := hide (agreedOf_snoc (ss := ss) hz)
   have hfl : (agreedOf ss (ks.take j)).length ≤ 16 := by
    unfold agreedOf
    rw [List.length_map]
    exact Nat.le_trans (List.length_filter_le _ _) (by rw [List.length_take]; omega)
   have HL := hide (HAL.out z wr (HAT.out.below hbel))
   have hhas := (HKI.out z (List.mem_of_getElem? hz)).2.2
   clear hz hki hkey
   cases hA : alike ss z
   ·rw [hA] at HL HF
    have HF2 := hide (show agreedOf ss (ks.take (j + 1)) = agreedOf ss (ks.take j) from by rw [HF.out]; simp)
    clear hown
    go_wp2_with (go_at_call 66; refine HL.out.mono ?_; rintro e w2 ⟨rfl, hd2⟩)
    have HO3 := hide (own_below HO.out hd2.below)
    have HK3 := hide (own_below HKY.out hd2.below)
    have HB3 := hide (hbel.trans (hd2.below.mono hsz))
    go_roundw
    case rel => exact ⟨j + 1, _, _, _, by go_num, rfl, by omega, by rw [HF2.out]; exact HO3.out, HK3.out, HB3.out⟩
    case measure => simp [intOf]; omega
   ·rw [hA] at HL HF
    have hn0 : 0 < n := by
     rw [← HAT.out.len]
     cases ss with
     | nil => simp [hasKey] at hhas
     | cons a r => simp
    obtain ⟨s0, b0, q0, xa0, xc0, hs0, hidx0, hc0, hits0⟩ := (HAT.out.below hbel).get Tryz.underlying25 infoSt 0 hn0
    have hidx0' : ∀ wx, (Instr.indexAt 25 (.slice oa n cap) (.int .i64 0)).run Tryz.prog wx = .ok (.pointer (some ⟨b0, q0, none⟩)) wx := hidx0
    have HF2 := hide (show agreedOf ss (ks.take (j + 1)) = agreedOf ss (ks.take j) ++ [(z, stAt s0 z)] from by rw [HF.out, head_at hs0]; simp)
    have HAT0 := hide (fun wx (hb : Below wr.heap.size wr wx) => specAt_any xa0 s0.length xc0 s0 z wx (hits0.below hb))
    generalize stAt s0 z = x0 at HF2 HAT0
    have hlt0 := cell_lt hc0
    clear hs0 hits0 hidx0 HF
    obtain ⟨L, hL⟩ : ∃ L, agreedOf ss (ks.take j) = L := ⟨_, rfl⟩
    rw [hL] at HF2 HO hfl hown
    clear hL
    go_upto_region 7 with (go_at_call 66; refine HL.out.mono ?_; rintro e w2 ⟨rfl, hd2⟩; have hO2 := own_below hown hd2.below; have hK2 := own_below HKY.out hd2.below; have hB2 := hbel.trans (hd2.below.mono hsz); have hsz2 := hB2.size; have c02 := (hd2.below.cell hb).trans c0; have c00 := (hd2.below.cell hlt0).trans hc0; have hb2 := Nat.lt_of_lt_of_le hb hd2.below.size; have HO2 := hide hO2; have HK2 := hide hK2; clear hO2 hK2 hown)
    go_region_law (first
     | (refine step_push2 (by rfl) _ _ 28 (by rfl) Tryz.underlying28 infoIIz (by rfl) (cs := #[.int .i64 z, .int .i64 x0]) (by rfl) ((own_below HO2.out (Below.refl _ _).drew).alloc _) (by rfl) (by rfl) (by exact heap_alloc_new _ _) (by simp [Value.oneCell']) (by simp; omega) (by unfold maxLen; omega) (by omega) ?_; intro v' w3 hown3 hg3; obtain ⟨o3, c3, rfl⟩ := row_form hown3)
     | (rw [if_pos (by rfl)]; go_simp; go_at_call 55; refine (HAT0.out _ (hd2.below.trans ((Below.refl w2.heap.size w2).drew.mono hd2.below.size))).mono ?_; rintro e w4 ⟨rfl, rfl⟩))
    all_goals
     have hko := own_stays ((own_below HK2.out (Below.refl _ _).drew).alloc (.cells #[.int .i64 z, .int .i64 x0] 36)) ((own_below HO2.out (Below.refl _ _).drew).alloc (.cells #[.int .i64 z, .int .i64 x0] 36)) (by decide) hg3
     have hB3 := grown_up (hB2.trans ((Below.refl w2.heap.size w2).drew.mono hsz2)) hsz2 (own_below HO2.out (Below.refl _ _).drew) (Nat.le_refl _) hg3
     have HO3 := hide (show w3.ownsRow w.heap.size 36 2 (.slice o3 (L.length + 1) c3) (agreedOf ss (ks.take (j + 1))).length ((agreedOf ss (ks.take (j + 1))).flatMap icells) by rw [HF2.out, len_snoc, List.flatMap_append]; simpa [icells] using hown3)
     have HK3 := hide hko
     have HB3 := hide hB3
     clear hko hB3 hown3 hg3
     go_wp2_with fail
     go_roundw
     case rel => exact ⟨j + 1, _, _, _, by go_num, rfl, by omega, HO3.out, HK3.out, HB3.out⟩
     case measure => simp [intOf]; omega
  ·have hjn : ks.take j = ks := List.take_of_length_le (by omega)
   rw [hjn] at HO
   clear hjn hown hkey
   go_wp2_with fail
   go_ret
   exact ⟨_, rfl, by rw [HCL.out]; exact HO.out, hbel⟩

end Go.Proofs.YtnkjjbpmdghcbaaGreat
