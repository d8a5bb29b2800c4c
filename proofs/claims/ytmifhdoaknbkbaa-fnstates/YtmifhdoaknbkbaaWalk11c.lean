/-
  Walks of chapter 11 of the specification: Clash, Agreed, and a number put into an ascending list.
-/
import Derived.Test.YtmifhdoaknbkbaaWalk11b
import Derived.Test.YtmifhdoaknbkbaaApart2
namespace Go.Proofs.Ytmifhdoaknbkbaa
open Go.RowKit P1 P5 P9 P11 P12 P14 P15 K
set_option linter.unusedVariables false
set_option linter.unusedSimpArgs false

theorem keys_wf (ss : List St) : ∀ z ∈ keysOf ss, (Lit.int .i64 z).wf = true := fun z hz => by
  have := keysOf_in hz
  exact wf_small (by omega) (by omega)

set_option maxHeartbeats 4000000 in
theorem specClash_any (oa : Option Addr) (n cap : Nat) (ss : List St) (w : World) (hat : StsAt w oa n cap ss) :
    Calls Try.prog 96 #[.slice oa n cap] w (IntPost w (clash ss)) := by
  have hb0 := (Below.refl w.heap.size w).alloc (Nat.le_refl _) (.cells #[] 3)
  have HK := hide (l11Keys_any oa n cap ss _ (hat.below hb0))
  have HAL := hide (fun k w hat => l11Alike_any oa n cap ss k w hat)
  have HAT := hide hat
  have HB0 := hide hb0
  have HO0 := hide (OutN.new w)
  have hsm := keysOf_small ss
  have HWF := hide (keys_wf ss)
  obtain ⟨ks, hks⟩ : ∃ ks, keysOf ss = ks := ⟨_, rfl⟩
  have HCL := hide (show clash ss = ks.filter (fun k => !alike ss k) by rw [← hks]; rfl)
  rw [hks] at HK hsm HWF
  clear hat hb0 hks
  go_enter Try.func96, Try.ntmps96
  go_wp2_with fail
  refine HK.out.mono ?_
  rintro e w1 ⟨v1, rfl, ho1, hb1⟩
  obtain ⟨o1, c1, rfl⟩ := row_form ho1
  have HK1 := hide ho1
  have HN1 := hide (own_below HO0.out.own hb1)
  have HA1 := hide (aside_new HO0.out.own ho1 (Nat.le_refl _)).symm
  have HB1 := hide (HB0.out.trans (hb1.mono HB0.out.size))
  have hle1 : w.heap.size ≤ (w.alloc (.cells #[] 3)).heap.size := HB0.out.size
  clear ho1 hb1 HO0 HK
  go_wp2_with fail
  go_loopw [3, 5] (fun v x wr => ∃ (j : Nat) (oo : Option Addr) (m co : Nat), x = .int .i64 (j : Int) ∧ v = .slice oo m co ∧ j ≤ ks.length ∧ wr.ownsRow w.heap.size 3 1 (.slice oo m co) ((ks.take j).filter (fun k => !alike ss k)).length (((ks.take j).filter (fun k => !alike ss k)).map icell) ∧ wr.ownsRow (w.alloc (.cells #[] 3)).heap.size 3 1 (.slice o1 ks.length c1) ks.length (ks.map icell) ∧ Aside2 (.slice o1 ks.length c1) (.slice oo m co) ∧ Below w.heap.size w wr) (fun _ x _ => ks.length - (intOf x).toNat)
  case atStart => exact ⟨0, _, _, _, rfl, rfl, Nat.zero_le _, HN1.out, HK1.out, HA1.out, HB1.out⟩
  case round =>
    obtain ⟨j, oo, m, co, rfl, rfl, hj, hown, hkey, hap, hbel⟩ := hrel
    have HO := hide hown
    have HKY := hide hkey
    have HAP := hide hap
    have hsz := hbel.size
    clear hap HN1 HK1 HA1 HB1
    by_cases hlt : j < ks.length
    · have j0 : (j : Int) < (ks.length : Int) := by omega
      obtain ⟨_, _, he, hki⟩ := intsAt_of_own hkey HWF.out
      cases he
      obtain ⟨z, b, q, hz, hidx, hb, c0, hwz⟩ := hki.get Try.underlying38 infoI j hlt
      have HF := hide (filter_take (P := fun k => !alike ss k) hz)
      have hfl : ((ks.take j).filter (fun k => !alike ss k)).length ≤ 16 := Nat.le_trans (List.length_filter_le _ _) (by rw [List.length_take]; omega)
      have HL := hide (HAL.out z wr (HAT.out.below hbel))
      clear hz hki hkey
      cases hA : alike ss z
      · rw [hA] at HL HF
        have HF2 := hide (show (ks.take (j + 1)).filter (fun k => !alike ss k) = (ks.take j).filter (fun k => !alike ss k) ++ [z] from HF.out)
        generalize (ks.take j).filter (fun k => !alike ss k) = L at HF2 HO hfl hown
        go_wp2_with (first
          | (go_at_call 113; refine HL.out.mono ?_; rintro e w2 ⟨rfl, hd2⟩; have hown2 := own_below hown hd2.below; have hkey2 := own_below HKY.out hd2.below; have hB2 := hbel.trans (hd2.below.mono hsz); have hsz2 := hB2.size; have c02 := (hd2.below.cell hb).trans c0; have hb2 := Nat.lt_of_lt_of_le hb hd2.below.size)
          | (at_builtin; refine wpList_pushL (cs := #[.int .i64 z]) rfl _ _ 38 rfl (by decide) Try.underlying38 infoIz rfl rfl hown2 rfl rfl (by simp [Value.oneCell']) hsz2 (by unfold maxLen; omega) (by omega) ?_; intro v' w3 hown3 hg3 hl3; obtain ⟨o3, c3, rfl⟩ := row_form hown3))
        obtain ⟨hk3, ha3⟩ := beside hkey2 HAP.out hg3 hl3
        have HB3 := hide (grown_up hB2 hsz2 hown2 (Nat.le_refl _) hg3)
        have HO3 := hide (show w3.ownsRow w.heap.size 3 1 (.slice o3 (L.length + 1) c3) ((ks.take (j + 1)).filter (fun k => !alike ss k)).length (((ks.take (j + 1)).filter (fun k => !alike ss k)).map icell) by rw [HF2.out, len_snoc, map_snoc]; exact hown3)
        have HK3 := hide hk3
        have HA3 := hide ha3
        clear hk3 ha3 hown3 hg3 hl3 hown2 hkey2 hown
        go_wp2_with fail
        go_roundw
        case rel => exact ⟨j + 1, _, _, _, by go_num, rfl, by omega, HO3.out, HK3.out, HA3.out, HB3.out⟩
        case measure => simp [intOf]; omega
      · rw [hA] at HL HF
        have HF2 := hide (show (ks.take (j + 1)).filter (fun k => !alike ss k) = (ks.take j).filter (fun k => !alike ss k) from by rw [HF.out]; simp)
        generalize (ks.take j).filter (fun k => !alike ss k) = L at HF2 HO hfl hown
        clear hown
        go_wp2_with (go_at_call 113; refine HL.out.mono ?_; rintro e w2 ⟨rfl, hd2⟩)
        have HO3 := hide (own_below HO.out hd2.below)
        have HK3 := hide (own_below HKY.out hd2.below)
        have HB3 := hide (hbel.trans (hd2.below.mono hsz))
        go_roundw
        case rel => exact ⟨j + 1, _, _, _, by go_num, rfl, by omega, by rw [HF2.out]; exact HO3.out, HK3.out, HAP.out, HB3.out⟩
        case measure => simp [intOf]; omega
    · have hjn : ks.take j = ks := List.take_of_length_le (by omega)
      rw [hjn] at HO
      clear hjn hown hkey
      go_wp2_with fail
      go_ret
      exact ⟨_, rfl, by rw [HCL.out]; exact HO.out, hbel⟩

end Go.Proofs.Ytmifhdoaknbkbaa
