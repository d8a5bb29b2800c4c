/-
  Walks and mathematics of Text2.
-/
import Derived.Test.YtckkfjmjcknjdaaGreatDoorCTText1
import Derived.Test.YtckkfjmjcknjdaaGreatDoorCTComm6
namespace Go.Proofs.YtckkfjmjcknjdaaGreatDoor.P3
end Go.Proofs.YtckkfjmjcknjdaaGreatDoor.P3
namespace Go.Proofs.YtckkfjmjcknjdaaGreatDoor
open Go.RowKit P1 P3 P9 P11 P12 P18 K
set_option linter.unusedVariables false
set_option linter.unusedSimpArgs false

theorem evBody_cat (id kd sn us mb dp : Int) (zl zp : List Int) (tx : List UInt8) (l : List UInt8) : (((l ++ [kd, sn, us, mb].map byB) ++ [(zl.length : Int)].flatMap varZ) ++ zl.map byB) ++ shortB tx = l ++ evBody (⟨id, kd, sn, us, mb, zl, tx, zp, dp⟩ : EvV) := by
  simp [evBody, varZ]

set_option maxRecDepth 100000 in
set_option maxHeartbeats 8000000 in
theorem placelessEvent_any14 (W0 : World) (g : Nat) (l : List UInt8) (id kd sn us mb dp : Int) (oa : Option Addr) (n cl : Nat) (tx : List UInt8) (ob : Option Addr) (m cp : Nat) (zl zp : List Int) {id' dp' : Int} {zp' : List Int} (he : EvIn (⟨id', kd, sn, us, mb, zl, tx, zp', dp'⟩ : EvV)) (hl : l.length ≤ 500000) (w : World) (hT : Tw W0.heap.size g l w) (hb : Below W0.heap.size W0 w) (hat : IntsAt W0 oa n cl zl) :
    Calls Tryz.prog 59 #[.pointer (some ⟨g, 0, none⟩), evval id kd sn us mb dp (.slice oa n cl) (.slice ob m cp) tx] w fun e w' => e = .returned (.tuple #[]) ∧ Tw W0.heap.size g (l ++ evBody (⟨id, kd, sn, us, mb, zl, tx, zp, dp⟩ : EvV)) w' ∧ Below W0.heap.size W0 w' := by
  have hn := hat.len
  have hkd := he.kind
  have hsn := he.sender
  have hus := he.user
  have hmb := he.member
  have hmany := he.many
  have htx := he.text
  have HLV := hide he.levels
  simp only at hkd hsn hus hmb hmany htx HLV
  rw [hn] at hmany
  have HN := hide hn
  have HZ4 := hide (show ∀ z ∈ [kd, sn, us, mb], 0 ≤ z ∧ z ≤ 255 by intro z hz; simp at hz; rcases hz with rfl | rfl | rfl | rfl <;> omega)
  have HZ1 := hide (show ∀ z ∈ [(n : Int)], 0 ≤ z ∧ z ≤ 1000000000 by intro z hz; simp at hz; subst hz; omega)
  have HZL := hide (show ∀ z ∈ zl, 0 ≤ z ∧ z ≤ 255 from fun z hz => by have := HLV.out z hz; omega)
  have HWF4 := hide (wf_four (a := kd) (b := sn) (c := us) (d := mb) (by omega) (by omega) (by omega) (by omega))
  have HWF1 := hide (wf_one (z := (n : Int)) (by omega) (by omega))
  have HL1 := hide (show (l ++ [kd, sn, us, mb].map byB).length ≤ 600000 by simp; omega)
  have hvl := varB_length n
  have HL2 := hide (show ((l ++ [kd, sn, us, mb].map byB) ++ [(n : Int)].flatMap varZ).length ≤ 600100 by have := HL1.out; rw [List.length_append]; simp only [List.flatMap_cons, List.flatMap_nil, List.append_nil]; rw [show varZ (n : Int) = varB n from rfl]; omega)
  have HL3 := hide (show (((l ++ [kd, sn, us, mb].map byB) ++ [(n : Int)].flatMap varZ) ++ zl.map byB).length ≤ 600200 by have := HL2.out; have := HN.out; rw [List.length_append, List.length_map]; omega)
  have HCAT := hide (evBody_cat id kd sn us mb dp zl zp tx l)
  rw [hn] at HCAT
  rw [← HCAT.out]
  have HNE := hide (show w.heap.size ≠ g by have := hT.glt; omega)
  have HX0 := hide (XS.new w #[.int .i64 id, .int .i64 kd, .int .i64 sn, .int .i64 us, .int .i64 mb, .slice oa n cl, .string ⟨tx.toArray⟩, .slice ob m cp, .int .i64 dp] 29)
  have HT0 := hide (hT.alloc (.cells #[.int .i64 id, .int .i64 kd, .int .i64 sn, .int .i64 us, .int .i64 mb, .slice oa n cl, .string ⟨tx.toArray⟩, .slice ob m cp, .int .i64 dp] 29))
  have HB0 := hide (hb.alloc hb.size (.cells #[.int .i64 id, .int .i64 kd, .int .i64 sn, .int .i64 us, .int .i64 mb, .slice oa n cl, .string ⟨tx.toArray⟩, .slice ob m cp, .int .i64 dp] 29))
  have HAT := hide hat
  clear hat hT hb he hn
  generalize hM1 : l ++ [kd, sn, us, mb].map byB = M1 at HL1 HL2 HL3 ⊢
  generalize hM2 : M1 ++ [(n : Int)].flatMap varZ = M2 at HL2 HL3 ⊢
  generalize hM3 : M2 ++ zl.map byB = M3 at HL3 ⊢
  have HM1 := hide hM1
  have HM2 := hide hM2
  have HM3 := hide hM3
  clear hM1 hM2 hM3
  go_enter Tryz.func59, Tryz.ntmps59
  go_wp2_with fail
  generalize w.alloc (.cells #[.int .i64 id, .int .i64 kd, .int .i64 sn, .int .i64 us, .int .i64 mb, .slice oa n cl, .string ⟨tx.toArray⟩, .slice ob m cp, .int .i64 dp] 29) = x0 at HX0 HT0 HB0 ⊢
  refine wp_region_held_drew (S := XS w.heap.size #[.int .i64 id, .int .i64 kd, .int .i64 sn, .int .i64 us, .int .i64 mb, .slice oa n cl, .string ⟨tx.toArray⟩, .slice ob m cp, .int .i64 dp] 29) (by kernel_rfl) HX0.out.drew (fun hHeld => ?_)
  refine wpAnyH_take (i := 0) (v := ?_) rfl (by kernel_rfl) (by kernel_rfl) (by kernel_rfl) (fun _ _ _ h => h) (Or.inl ⟨by rfl, ?_⟩) (by assumption) ?_; rotate_left
  · (intro wz hSw; have z1 := XS.cell hSw 1 rfl; have z2 := XS.cell hSw 2 rfl; have z3 := XS.cell hSw 3 rfl; have z4 := XS.cell hSw 4 rfl; clear hSw; go_simp; first | done | with_reducible rfl)
  try simp only [Act.put, List.getElem_toArray, List.getElem_cons_zero, List.getElem_cons_succ, List.setIfInBounds_toArray, List.set_cons_zero, List.set_cons_succ]
  refine wpAnyH_take (i := 1) (v := ?_) rfl (by kernel_rfl) (by kernel_rfl) (by kernel_rfl) (fun _ _ _ h => h) (Or.inl ⟨by rfl, ?_⟩) (by assumption) ?_; rotate_left
  · (intro wz hSw; have z1 := XS.cell hSw 1 rfl; have z2 := XS.cell hSw 2 rfl; have z3 := XS.cell hSw 3 rfl; have z4 := XS.cell hSw 4 rfl; clear hSw; go_simp; first | done | with_reducible rfl)
  try simp only [Act.put, List.getElem_toArray, List.getElem_cons_zero, List.getElem_cons_succ, List.setIfInBounds_toArray, List.set_cons_zero, List.set_cons_succ]
  refine wpAnyH_take (i := 2) (v := ?_) rfl (by kernel_rfl) (by kernel_rfl) (by kernel_rfl) (fun _ _ _ h => h) (Or.inl ⟨by rfl, ?_⟩) (by assumption) ?_; rotate_left
  · (intro wz hSw; have z1 := XS.cell hSw 1 rfl; have z2 := XS.cell hSw 2 rfl; have z3 := XS.cell hSw 3 rfl; have z4 := XS.cell hSw 4 rfl; clear hSw; go_simp; first | done | with_reducible rfl)
  try simp only [Act.put, List.getElem_toArray, List.getElem_cons_zero, List.getElem_cons_succ, List.setIfInBounds_toArray, List.set_cons_zero, List.set_cons_succ]
  refine wpAnyH_take (i := 3) (v := ?_) rfl (by kernel_rfl) (by kernel_rfl) (by kernel_rfl) (fun _ _ _ h => h) (Or.inl ⟨by rfl, ?_⟩) (by assumption) ?_; rotate_left
  · (intro wz hSw; have z1 := XS.cell hSw 1 rfl; have z2 := XS.cell hSw 2 rfl; have z3 := XS.cell hSw 3 rfl; have z4 := XS.cell hSw 4 rfl; clear hSw; go_simp; first | done | with_reducible rfl)
  try simp only [Act.put, List.getElem_toArray, List.getElem_cons_zero, List.getElem_cons_succ, List.setIfInBounds_toArray, List.set_cons_zero, List.set_cons_succ]
  refine wpAnyH_take (i := 4) (v := ?_) rfl (by kernel_rfl) (by kernel_rfl) (by kernel_rfl) (fun _ _ _ h => h) (Or.inl ⟨by rfl, ?_⟩) (by assumption) ?_; rotate_left
  · (intro wz hSw; have z1 := XS.cell hSw 1 rfl; have z2 := XS.cell hSw 2 rfl; have z3 := XS.cell hSw 3 rfl; have z4 := XS.cell hSw 4 rfl; clear hSw; go_simp; first | done | with_reducible rfl)
  try simp only [Act.put, List.getElem_toArray, List.getElem_cons_zero, List.getElem_cons_succ, List.setIfInBounds_toArray, List.set_cons_zero, List.set_cons_succ]
  refine wpAnyH_take (i := 5) (v := ?_) rfl (by kernel_rfl) (by kernel_rfl) (by kernel_rfl) (fun _ _ _ h => h) (Or.inl ⟨by rfl, ?_⟩) (by assumption) ?_; rotate_left
  · (intro wz hSw; have z1 := XS.cell hSw 1 rfl; have z2 := XS.cell hSw 2 rfl; have z3 := XS.cell hSw 3 rfl; have z4 := XS.cell hSw 4 rfl; clear hSw; go_simp; first | done | with_reducible rfl)
  try simp only [Act.put, List.getElem_toArray, List.getElem_cons_zero, List.getElem_cons_succ, List.setIfInBounds_toArray, List.set_cons_zero, List.set_cons_succ]
  refine wpAnyH_take (i := 6) (v := ?_) rfl (by kernel_rfl) (by kernel_rfl) (by kernel_rfl) (fun _ _ _ h => h) (Or.inl ⟨by rfl, ?_⟩) (by assumption) ?_; rotate_left
  · (intro wz hSw; have z1 := XS.cell hSw 1 rfl; have z2 := XS.cell hSw 2 rfl; have z3 := XS.cell hSw 3 rfl; have z4 := XS.cell hSw 4 rfl; clear hSw; go_simp; first | done | with_reducible rfl)
  try simp only [Act.put, List.getElem_toArray, List.getElem_cons_zero, List.getElem_cons_succ, List.setIfInBounds_toArray, List.set_cons_zero, List.set_cons_succ]
  refine wpAnyH_take (i := 7) (v := ?_) rfl (by kernel_rfl) (by kernel_rfl) (by kernel_rfl) (fun _ _ _ h => h) (Or.inl ⟨by rfl, ?_⟩) (by assumption) ?_; rotate_left
  · (intro wz hSw; have z1 := XS.cell hSw 1 rfl; have z2 := XS.cell hSw 2 rfl; have z3 := XS.cell hSw 3 rfl; have z4 := XS.cell hSw 4 rfl; clear hSw; go_simp; first | done | with_reducible rfl)
  try simp only [Act.put, List.getElem_toArray, List.getElem_cons_zero, List.getElem_cons_succ, List.setIfInBounds_toArray, List.set_cons_zero, List.set_cons_succ]
  refine wpAnyH_take (i := 8) (v := ?_) rfl (by kernel_rfl) (by kernel_rfl) (by kernel_rfl) (fun _ _ _ h => h) (Or.inl ⟨by rfl, ?_⟩) (by assumption) ?_; rotate_left
  · (intro wz hSw; have z1 := XS.cell hSw 1 rfl; have z2 := XS.cell hSw 2 rfl; have z3 := XS.cell hSw 3 rfl; have z4 := XS.cell hSw 4 rfl; clear hSw; go_simp; first | done | with_reducible rfl)
  try simp only [Act.put, List.getElem_toArray, List.getElem_cons_zero, List.getElem_cons_succ, List.setIfInBounds_toArray, List.set_cons_zero, List.set_cons_succ]
  refine wpAnyH_take (i := 9) (v := ?_) rfl (by kernel_rfl) (by kernel_rfl) (by kernel_rfl) (fun _ _ _ h => h) (Or.inl ⟨by rfl, ?_⟩) (by assumption) ?_; rotate_left
  · (intro wz hSw; have z1 := XS.cell hSw 1 rfl; have z2 := XS.cell hSw 2 rfl; have z3 := XS.cell hSw 3 rfl; have z4 := XS.cell hSw 4 rfl; clear hSw; go_simp; first | done | with_reducible rfl)
  try simp only [Act.put, List.getElem_toArray, List.getElem_cons_zero, List.getElem_cons_succ, List.setIfInBounds_toArray, List.set_cons_zero, List.set_cons_succ]
  refine wpAnyH_take (i := 10) (v := ?_) rfl (by kernel_rfl) (by kernel_rfl) (by kernel_rfl) (fun _ _ _ h => h) (Or.inl ⟨by rfl, ?_⟩) (by assumption) ?_; rotate_left
  · (intro wz hSw; have z1 := XS.cell hSw 1 rfl; have z2 := XS.cell hSw 2 rfl; have z3 := XS.cell hSw 3 rfl; have z4 := XS.cell hSw 4 rfl; clear hSw; go_simp; first | done | with_reducible rfl)
  try simp only [Act.put, List.getElem_toArray, List.getElem_cons_zero, List.getElem_cons_succ, List.setIfInBounds_toArray, List.set_cons_zero, List.set_cons_succ]
  refine wpAnyH_ready (rs := [11]) (by kernel_rfl) (by simp) ?_
  refine AllReadyH.cons rfl (fun K hK => ?_) AllReadyH.nil
  rw [if_pos (by rfl)]
  go_simp
  refine hK.out _ _ ?_ (fun hHeld => ?_)
  · first | exact XS.alloc hHeld _ | exact (XS.alloc HX0.out _).drew
  clear hK K
  try simp only [Act.put, List.getElem_toArray, List.getElem_cons_zero, List.getElem_cons_succ, List.setIfInBounds_toArray, List.set_cons_zero, List.set_cons_succ]
  refine wpAnyH_ready (rs := [12]) (by kernel_rfl) (by simp) ?_
  refine AllReadyH.cons rfl (fun K hK => ?_) AllReadyH.nil
  rw [if_pos (by rfl)]
  go_simp
  go_at_call 57
  refine (oneBytes_any14 W0.heap.size g l (some ⟨x0.heap.size, 0, none⟩) 4 4 [kd, sn, us, mb] (by omega) HZ4.out (by omega) _ (by first | exact (HT0.out.alloc _).drew | exact HT0.out.drew.alloc _ | exact HT0.out.drew) (by first | exact ints_litd (zs := [kd, sn, us, mb]) (G := x0.heap.size) (by first | rfl | simp) rfl HWF4.out | exact ints_lit (zs := [kd, sn, us, mb]) (G := x0.heap.size) (by first | rfl | simp) rfl HWF4.out)).mono ?_
  rintro r x1 ⟨rfl, hT, hF⟩
  have hF2 : TwFr W0.heap.size g x0 x1 := (TwFr.low HT0.out.bsz (by first | exact ((Below.refl _ _).alloc (Nat.le_refl _) _).drew | exact (Below.refl _ _).drew.alloc (by simp) _ | exact (Below.refl _ _).drew)).trans hF
  try go_simp
  refine hK.out _ _ ?_ (fun hHeld => ?_)
  · exact XS.tw HX0.out hF2 HNE.out (by decide)
  clear hK K
  try simp only [Act.put, List.getElem_toArray, List.getElem_cons_zero, List.getElem_cons_succ, List.setIfInBounds_toArray, List.set_cons_zero, List.set_cons_succ]
  refine wpAnyH_done (by kernel_rfl) ?_ _
  have HT1 := hide hT
  have HB1 := hide (HB0.out.trans hF2.bel)
  have HX1 := hide hHeld
  clear hT hF hF2 hHeld HT0 HB0 HX0
  go_wp2_with fail
  rw [HM1.out] at HT1
  refine wp_region_held_drew (S := XS w.heap.size #[.int .i64 id, .int .i64 kd, .int .i64 sn, .int .i64 us, .int .i64 mb, .slice oa n cl, .string ⟨tx.toArray⟩, .slice ob m cp, .int .i64 dp] 29) (by kernel_rfl) HX1.out.drew (fun hHeld => ?_)
  refine wpAnyH_take (i := 0) (v := ?_) rfl (by kernel_rfl) (by kernel_rfl) (by kernel_rfl) (fun _ _ _ h => h) (Or.inl ⟨by rfl, ?_⟩) (by assumption) ?_; rotate_left
  · (intro wz hSw; have z5 := XS.cell hSw 5 rfl; clear hSw; go_simp; first | done | with_reducible rfl)
  try simp only [Act.put, List.getElem_toArray, List.getElem_cons_zero, List.getElem_cons_succ, List.setIfInBounds_toArray, List.set_cons_zero, List.set_cons_succ]
  refine wpAnyH_take (i := 1) (v := ?_) rfl (by kernel_rfl) (by kernel_rfl) (by kernel_rfl) (fun _ _ _ h => h) (Or.inl ⟨by rfl, ?_⟩) (by assumption) ?_; rotate_left
  · (intro wz hSw; have z5 := XS.cell hSw 5 rfl; clear hSw; go_simp; first | done | with_reducible rfl)
  try simp only [Act.put, List.getElem_toArray, List.getElem_cons_zero, List.getElem_cons_succ, List.setIfInBounds_toArray, List.set_cons_zero, List.set_cons_succ]
  refine wpAnyH_take (i := 2) (v := ?_) rfl (by kernel_rfl) (by kernel_rfl) (by kernel_rfl) (fun _ _ _ h => h) (Or.inl ⟨by rfl, ?_⟩) (by assumption) ?_; rotate_left
  · (intro wz hSw; have z5 := XS.cell hSw 5 rfl; clear hSw; go_simp; first | done | with_reducible rfl)
  try simp only [Act.put, List.getElem_toArray, List.getElem_cons_zero, List.getElem_cons_succ, List.setIfInBounds_toArray, List.set_cons_zero, List.set_cons_succ]
  refine wpAnyH_take (i := 3) (v := ?_) rfl (by kernel_rfl) (by kernel_rfl) (by kernel_rfl) (fun _ _ _ h => h) (Or.inl ⟨by rfl, ?_⟩) (by assumption) ?_; rotate_left
  · (intro wz hSw; have z5 := XS.cell hSw 5 rfl; clear hSw; go_simp; first | done | with_reducible rfl)
  try simp only [Act.put, List.getElem_toArray, List.getElem_cons_zero, List.getElem_cons_succ, List.setIfInBounds_toArray, List.set_cons_zero, List.set_cons_succ]
  refine wpAnyH_take (i := 4) (v := ?_) rfl (by kernel_rfl) (by kernel_rfl) (by kernel_rfl) (fun _ _ _ h => h) (Or.inl ⟨by rfl, ?_⟩) (by assumption) ?_; rotate_left
  · (intro wz hSw; have z5 := XS.cell hSw 5 rfl; clear hSw; go_simp; first | done | with_reducible rfl)
  try simp only [Act.put, List.getElem_toArray, List.getElem_cons_zero, List.getElem_cons_succ, List.setIfInBounds_toArray, List.set_cons_zero, List.set_cons_succ]
  refine wpAnyH_take (i := 5) (v := ?_) rfl (by kernel_rfl) (by kernel_rfl) (by kernel_rfl) (fun _ _ _ h => h) (Or.inl ⟨by rfl, ?_⟩) (by assumption) ?_; rotate_left
  · (intro wz hSw; have z5 := XS.cell hSw 5 rfl; clear hSw; go_simp; first | done | with_reducible rfl)
  try simp only [Act.put, List.getElem_toArray, List.getElem_cons_zero, List.getElem_cons_succ, List.setIfInBounds_toArray, List.set_cons_zero, List.set_cons_succ]
  refine wpAnyH_ready (rs := [6]) (by kernel_rfl) (by simp) ?_
  refine AllReadyH.cons rfl (fun K hK => ?_) AllReadyH.nil
  rw [if_pos (by rfl)]
  go_simp
  refine hK.out _ _ ?_ (fun hHeld => ?_)
  · first | exact XS.alloc hHeld _ | exact (XS.alloc HX1.out _).drew
  clear hK K
  try simp only [Act.put, List.getElem_toArray, List.getElem_cons_zero, List.getElem_cons_succ, List.setIfInBounds_toArray, List.set_cons_zero, List.set_cons_succ]
  refine wpAnyH_ready (rs := [7]) (by kernel_rfl) (by simp) ?_
  refine AllReadyH.cons rfl (fun K hK => ?_) AllReadyH.nil
  rw [if_pos (by rfl)]
  go_simp
  go_at_call 58
  refine (numbers_any14 W0.heap.size g M1 (some ⟨x1.heap.size, 0, none⟩) 1 1 [(n : Int)] (by omega) HZ1.out (by have := HL1.out; omega) _ (by first | exact (HT1.out.alloc _).drew | exact HT1.out.drew.alloc _ | exact HT1.out.drew) (by first | exact ints_litd (zs := [(n : Int)]) (G := x1.heap.size) (by first | rfl | simp) rfl HWF1.out | exact ints_lit (zs := [(n : Int)]) (G := x1.heap.size) (by first | rfl | simp) rfl HWF1.out)).mono ?_
  rintro r x2 ⟨rfl, hT, hF⟩
  have hF2 : TwFr W0.heap.size g x1 x2 := (TwFr.low HT1.out.bsz (by first | exact ((Below.refl _ _).alloc (Nat.le_refl _) _).drew | exact (Below.refl _ _).drew.alloc (by simp) _ | exact (Below.refl _ _).drew)).trans hF
  try go_simp
  refine hK.out _ _ ?_ (fun hHeld => ?_)
  · exact XS.tw HX1.out hF2 HNE.out (by decide)
  clear hK K
  try simp only [Act.put, List.getElem_toArray, List.getElem_cons_zero, List.getElem_cons_succ, List.setIfInBounds_toArray, List.set_cons_zero, List.set_cons_succ]
  refine wpAnyH_done (by kernel_rfl) ?_ _
  have HT2 := hide hT
  have HB2 := hide (HB1.out.trans hF2.bel)
  have HX2 := hide hHeld
  clear hT hF hF2 hHeld HT1 HB1 HX1
  go_wp2_with fail
  rw [HM2.out] at HT2
  refine wp_region_held_drew (S := XS w.heap.size #[.int .i64 id, .int .i64 kd, .int .i64 sn, .int .i64 us, .int .i64 mb, .slice oa n cl, .string ⟨tx.toArray⟩, .slice ob m cp, .int .i64 dp] 29) (by kernel_rfl) HX2.out.drew (fun hHeld => ?_)
  refine wpAnyH_take (i := 0) (v := ?_) rfl (by kernel_rfl) (by kernel_rfl) (by kernel_rfl) (fun _ _ _ h => h) (Or.inl ⟨by rfl, ?_⟩) (by assumption) ?_; rotate_left
  · (intro wz hSw; have z5 := XS.cell hSw 5 rfl; clear hSw; go_simp; first | done | with_reducible rfl)
  try simp only [Act.put, List.getElem_toArray, List.getElem_cons_zero, List.getElem_cons_succ, List.setIfInBounds_toArray, List.set_cons_zero, List.set_cons_succ]
  refine wpAnyH_take (i := 1) (v := ?_) rfl (by kernel_rfl) (by kernel_rfl) (by kernel_rfl) (fun _ _ _ h => h) (Or.inl ⟨by rfl, ?_⟩) (by assumption) ?_; rotate_left
  · (intro wz hSw; have z5 := XS.cell hSw 5 rfl; clear hSw; go_simp; first | done | with_reducible rfl)
  try simp only [Act.put, List.getElem_toArray, List.getElem_cons_zero, List.getElem_cons_succ, List.setIfInBounds_toArray, List.set_cons_zero, List.set_cons_succ]
  refine wpAnyH_take (i := 2) (v := ?_) rfl (by kernel_rfl) (by kernel_rfl) (by kernel_rfl) (fun _ _ _ h => h) (Or.inl ⟨by rfl, ?_⟩) (by assumption) ?_; rotate_left
  · (intro wz hSw; have z5 := XS.cell hSw 5 rfl; clear hSw; go_simp; first | done | with_reducible rfl)
  try simp only [Act.put, List.getElem_toArray, List.getElem_cons_zero, List.getElem_cons_succ, List.setIfInBounds_toArray, List.set_cons_zero, List.set_cons_succ]
  refine wpAnyH_take (i := 3) (v := ?_) rfl (by kernel_rfl) (by kernel_rfl) (by kernel_rfl) (fun _ _ _ h => h) (Or.inl ⟨by rfl, ?_⟩) (by assumption) ?_; rotate_left
  · (intro wz hSw; have z5 := XS.cell hSw 5 rfl; clear hSw; go_simp; first | done | with_reducible rfl)
  try simp only [Act.put, List.getElem_toArray, List.getElem_cons_zero, List.getElem_cons_succ, List.setIfInBounds_toArray, List.set_cons_zero, List.set_cons_succ]
  refine wpAnyH_take (i := 4) (v := ?_) rfl (by kernel_rfl) (by kernel_rfl) (by kernel_rfl) (fun _ _ _ h => h) (Or.inl ⟨by rfl, ?_⟩) (by assumption) ?_; rotate_left
  · (intro wz hSw; have z5 := XS.cell hSw 5 rfl; clear hSw; go_simp; first | done | with_reducible rfl)
  try simp only [Act.put, List.getElem_toArray, List.getElem_cons_zero, List.getElem_cons_succ, List.setIfInBounds_toArray, List.set_cons_zero, List.set_cons_succ]
  refine wpAnyH_ready (rs := [5]) (by kernel_rfl) (by simp) ?_
  refine AllReadyH.cons rfl (fun K hK => ?_) AllReadyH.nil
  rw [if_pos (by rfl)]
  go_simp
  go_at_call 57
  refine (oneBytes_any14 W0.heap.size g M2 oa n cl zl (by omega) HZL.out (by have := HL2.out; omega) _ (by first | exact (HT2.out.alloc _).drew | exact HT2.out.drew.alloc _ | exact HT2.out.drew) (HAT.out.below HB2.out.drew)).mono ?_
  rintro r x3 ⟨rfl, hT, hF⟩
  have hF2 : TwFr W0.heap.size g x2 x3 := (TwFr.low HT2.out.bsz (by first | exact ((Below.refl _ _).alloc (Nat.le_refl _) _).drew | exact (Below.refl _ _).drew.alloc (by simp) _ | exact (Below.refl _ _).drew)).trans hF
  try go_simp
  refine hK.out _ _ ?_ (fun hHeld => ?_)
  · exact XS.tw HX2.out hF2 HNE.out (by decide)
  clear hK K
  try simp only [Act.put, List.getElem_toArray, List.getElem_cons_zero, List.getElem_cons_succ, List.setIfInBounds_toArray, List.set_cons_zero, List.set_cons_succ]
  refine wpAnyH_done (by kernel_rfl) ?_ _
  have HT3 := hide hT
  have HB3 := hide (HB2.out.trans hF2.bel)
  have HX3 := hide hHeld
  clear hT hF hF2 hHeld HT2 HB2 HX2
  go_wp2_with fail
  rw [HM3.out] at HT3
  refine wp_region_held_drew (S := XS w.heap.size #[.int .i64 id, .int .i64 kd, .int .i64 sn, .int .i64 us, .int .i64 mb, .slice oa n cl, .string ⟨tx.toArray⟩, .slice ob m cp, .int .i64 dp] 29) (by kernel_rfl) HX3.out.drew (fun hHeld => ?_)
  refine wpAnyH_take (i := 0) (v := ?_) rfl (by kernel_rfl) (by kernel_rfl) (by kernel_rfl) (fun _ _ _ h => h) (Or.inl ⟨by rfl, ?_⟩) (by assumption) ?_; rotate_left
  · (intro wz hSw; have z6 := XS.cell hSw 6 rfl; clear hSw; go_simp; first | done | with_reducible rfl)
  try simp only [Act.put, List.getElem_toArray, List.getElem_cons_zero, List.getElem_cons_succ, List.setIfInBounds_toArray, List.set_cons_zero, List.set_cons_succ]
  refine wpAnyH_take (i := 1) (v := ?_) rfl (by kernel_rfl) (by kernel_rfl) (by kernel_rfl) (fun _ _ _ h => h) (Or.inl ⟨by rfl, ?_⟩) (by assumption) ?_; rotate_left
  · (intro wz hSw; have z6 := XS.cell hSw 6 rfl; clear hSw; go_simp; first | done | with_reducible rfl)
  try simp only [Act.put, List.getElem_toArray, List.getElem_cons_zero, List.getElem_cons_succ, List.setIfInBounds_toArray, List.set_cons_zero, List.set_cons_succ]
  refine wpAnyH_take (i := 2) (v := ?_) rfl (by kernel_rfl) (by kernel_rfl) (by kernel_rfl) (fun _ _ _ h => h) (Or.inl ⟨by rfl, ?_⟩) (by assumption) ?_; rotate_left
  · (intro wz hSw; have z6 := XS.cell hSw 6 rfl; clear hSw; go_simp; first | done | with_reducible rfl)
  try simp only [Act.put, List.getElem_toArray, List.getElem_cons_zero, List.getElem_cons_succ, List.setIfInBounds_toArray, List.set_cons_zero, List.set_cons_succ]
  refine wpAnyH_take (i := 3) (v := ?_) rfl (by kernel_rfl) (by kernel_rfl) (by kernel_rfl) (fun _ _ _ h => h) (Or.inl ⟨by rfl, ?_⟩) (by assumption) ?_; rotate_left
  · (intro wz hSw; have z6 := XS.cell hSw 6 rfl; clear hSw; go_simp; first | done | with_reducible rfl)
  try simp only [Act.put, List.getElem_toArray, List.getElem_cons_zero, List.getElem_cons_succ, List.setIfInBounds_toArray, List.set_cons_zero, List.set_cons_succ]
  refine wpAnyH_take (i := 4) (v := ?_) rfl (by kernel_rfl) (by kernel_rfl) (by kernel_rfl) (fun _ _ _ h => h) (Or.inl ⟨by rfl, ?_⟩) (by assumption) ?_; rotate_left
  · (intro wz hSw; have z6 := XS.cell hSw 6 rfl; clear hSw; go_simp; first | done | with_reducible rfl)
  try simp only [Act.put, List.getElem_toArray, List.getElem_cons_zero, List.getElem_cons_succ, List.setIfInBounds_toArray, List.set_cons_zero, List.set_cons_succ]
  refine wpAnyH_ready (rs := [5]) (by kernel_rfl) (by simp) ?_
  refine AllReadyH.cons rfl (fun K hK => ?_) AllReadyH.nil
  rw [if_pos (by rfl)]
  go_simp
  go_at_call 85
  refine (short_any14 W0.heap.size g M3 tx (by omega) (by have := HL3.out; omega) _ (by first | exact (HT3.out.alloc _).drew | exact HT3.out.drew.alloc _ | exact HT3.out.drew)).mono ?_
  rintro r x4 ⟨rfl, hT, hF⟩
  have hF2 : TwFr W0.heap.size g x3 x4 := (TwFr.low HT3.out.bsz (by first | exact ((Below.refl _ _).alloc (Nat.le_refl _) _).drew | exact (Below.refl _ _).drew.alloc (by simp) _ | exact (Below.refl _ _).drew)).trans hF
  try go_simp
  refine hK.out _ _ ?_ (fun hHeld => ?_)
  · exact XS.tw HX3.out hF2 HNE.out (by decide)
  clear hK K
  try simp only [Act.put, List.getElem_toArray, List.getElem_cons_zero, List.getElem_cons_succ, List.setIfInBounds_toArray, List.set_cons_zero, List.set_cons_succ]
  refine wpAnyH_done (by kernel_rfl) ?_ _
  have HT4 := hide hT
  have HB4 := hide (HB3.out.trans hF2.bel)
  have HX4 := hide hHeld
  clear hT hF hF2 hHeld HT3 HB3 HX3
  go_wp2_with fail
  refine bodyPost_end (results_none rfl _ _ _) rfl ?_
  exact ⟨rfl, HT4.out, HB4.out⟩

theorem evB_small {e : EvV} (h : EvIn e) : (evB e).length ≤ 1000 := by
  have hv : ∀ z : Int, (varZ z).length ≤ 10 := varZ_len
  have h1 := hv e.id
  have h2 := evBody_len h
  have h3 := varB_length e.prev.length
  have h4 := vars_len e.prev
  have h5 := hv e.depth
  have h6 := h.prevs
  unfold evB
  simp only [List.length_append]
  omega

set_option maxRecDepth 100000 in
set_option maxHeartbeats 2000000 in
theorem wholeEvent_any14 (W0 : World) (g : Nat) (l : List UInt8) (id kd sn us mb dp : Int) (oa : Option Addr) (n cl : Nat) (tx : List UInt8) (ob : Option Addr) (m cp : Nat) (zl zp : List Int) (he : evOk (⟨id, kd, sn, us, mb, zl, tx, zp, dp⟩ : EvV) = true) (hx : tx.length ≤ 1048576) (hl : l.length ≤ 500000) (w : World) (hT : Tw W0.heap.size g l w) (hb : Below W0.heap.size W0 w) (hat : IntsAt W0 oa n cl zl) (hbt : IntsAt W0 ob m cp zp) :
    Calls Tryz.prog 60 #[.pointer (some ⟨g, 0, none⟩), evval id kd sn us mb dp (.slice oa n cl) (.slice ob m cp) tx] w fun e w' => e = .returned (.tuple #[]) ∧ Tw W0.heap.size g (l ++ shortB (evB (⟨id, kd, sn, us, mb, zl, tx, zp, dp⟩ : EvV))) w' ∧ Below W0.heap.size W0 w' := by
  have HET := hide (fun w hat hbt => implEventText_any id kd sn us mb dp oa n cl tx ob m cp zl zp hx w hat hbt)
  rw [etV_yes he] at HET
  have hln := evB_small (evOk_in he)
  have HT0 := hide (hT.alloc (.cells #[.int .i64 id, .int .i64 kd, .int .i64 sn, .int .i64 us, .int .i64 mb, .slice oa n cl, .string ⟨tx.toArray⟩, .slice ob m cp, .int .i64 dp] 29))
  have HB0 := hide (hb.alloc hb.size (.cells #[.int .i64 id, .int .i64 kd, .int .i64 sn, .int .i64 us, .int .i64 mb, .slice oa n cl, .string ⟨tx.toArray⟩, .slice ob m cp, .int .i64 dp] 29))
  have HAT := hide hat
  have HBT := hide hbt
  clear hat hbt hT hb he hx
  generalize evB (⟨id, kd, sn, us, mb, zl, tx, zp, dp⟩ : EvV) = k at HET hln ⊢
  go_enter Tryz.func60, Tryz.ntmps60
  go_wp2_with fail
  generalize w.alloc (.cells #[.int .i64 id, .int .i64 kd, .int .i64 sn, .int .i64 us, .int .i64 mb, .slice oa n cl, .string ⟨tx.toArray⟩, .slice ob m cp, .int .i64 dp] 29) = x0 at HT0 HB0 ⊢
  refine (HET.out _ (HAT.out.below HB0.out) (HBT.out.below HB0.out)).mono ?_
  rintro e x1 ⟨rfl, hb1⟩
  have HT1 := hide (HT0.out.on hb1)
  have HB1 := hide (HB0.out.trans (hb1.mono HB0.out.size))
  clear hb1 HT0 HB0
  go_wp2_with fail
  refine (short_any14 W0.heap.size g l k (by omega) (by omega) _ HT1.out).mono ?_
  rintro e x2 ⟨rfl, hT2, hF2⟩
  have HB2 := hide (HB1.out.trans hF2.bel)
  go_wp2_with fail
  refine bodyPost_end (results_none rfl _ _ _) rfl ?_
  exact ⟨rfl, hT2, HB2.out⟩

theorem wf_two {a b : Int} (h0 : 0 ≤ a ∧ a ≤ 1000000000) (h1 : 0 ≤ b ∧ b ≤ 1000000000) : ∀ y ∈ [a, b], (Lit.int .i64 y).wf = true ∧ [a, b].length ≤ 4 := by
  intro y hy
  simp at hy
  refine ⟨?_, by simp⟩
  rcases hy with rfl | rfl <;> exact wf_small (by omega) (by omega)

theorem xs_cells {h : Nat} {c0 c1 c2 c3 c4 c5 c6 c7 c8 c9 c10 c11 c12 c13 : Value} {T : TypeId} {w : World} (k : XS h #[c0, c1, c2, c3, c4, c5, c6, c7, c8, c9, c10, c11, c12, c13] T w) :
    w.cell? ⟨h, 0, none⟩ = some c0 ∧ w.cell? ⟨h, 1, none⟩ = some c1 ∧ w.cell? ⟨h, 2, none⟩ = some c2 ∧ w.cell? ⟨h, 3, none⟩ = some c3 ∧ w.cell? ⟨h, 4, none⟩ = some c4 ∧ w.cell? ⟨h, 5, none⟩ = some c5 ∧ w.cell? ⟨h, 6, none⟩ = some c6 ∧ w.cell? ⟨h, 7, none⟩ = some c7 ∧ w.cell? ⟨h, 8, none⟩ = some c8 ∧ w.cell? ⟨h, 9, none⟩ = some c9 ∧ w.cell? ⟨h, 10, none⟩ = some c10 ∧ w.cell? ⟨h, 11, none⟩ = some c11 ∧ w.cell? ⟨h, 12, none⟩ = some c12 ∧ w.cell? ⟨h, 13, none⟩ = some c13 :=
  ⟨k.cell 0 rfl, k.cell 1 rfl, k.cell 2 rfl, k.cell 3 rfl, k.cell 4 rfl, k.cell 5 rfl, k.cell 6 rfl, k.cell 7 rfl, k.cell 8 rfl, k.cell 9 rfl, k.cell 10 rfl, k.cell 11 rfl, k.cell 12 rfl, k.cell 13 rfl⟩

set_option maxRecDepth 100000 in
set_option maxHeartbeats 8000000 in
theorem command_any14 (W0 : World) (g : Nat) (op tk sq id kd sn us mb dp : Int) (oa : Option Addr) (n cl : Nat) (tx : List UInt8) (ob : Option Addr) (m cp : Nat) (ds up : Int) (zl zp : List Int) (hc : cmdOk (⟨op, tk, sq, ⟨id, kd, sn, us, mb, zl, tx, zp, dp⟩, ds, up⟩ : CmdV) = true) (hx : tx.length ≤ 1048576) (w : World) (hT : Tw W0.heap.size g [] w) (hb : Below W0.heap.size W0 w) (hat : IntsAt W0 oa n cl zl) (hbt : IntsAt W0 ob m cp zp) :
    Calls Tryz.prog 31 #[.pointer (some ⟨g, 0, none⟩), cmval op tk sq id kd sn us mb dp (.slice oa n cl) (.slice ob m cp) tx ds up] w fun e w' => e = .returned (.tuple #[]) ∧ Tw W0.heap.size g (cmdB (⟨op, tk, sq, ⟨id, kd, sn, us, mb, zl, tx, zp, dp⟩, ds, up⟩ : CmdV)) w' ∧ Below W0.heap.size W0 w' := by
  have HC := hide (cmd_in hc)
  have hop := HC.out.1
  have htk := HC.out.2.1
  have hsq := HC.out.2.2.1
  simp only at hop htk hsq
  have HZ1 := hide (show ∀ z ∈ [op], 0 ≤ z ∧ z ≤ 255 by intro z hz; simp at hz; subst hz; omega)
  have HZ2 := hide (show ∀ z ∈ [tk, sq], 0 ≤ z ∧ z ≤ 1000000000 by intro z hz; simp at hz; rcases hz with rfl | rfl <;> omega)
  have HWF1 := hide (wf_one (z := op) (by omega) (by omega))
  have HWF2 := hide (wf_two (a := tk) (b := sq) (by omega) (by omega))
  have HL1 := hide (show ([] ++ [op].map byB : List UInt8).length ≤ 10 by simp)
  have hv1 := varZ_len tk
  have hv2 := varZ_len sq
  have HL2 := hide (show (([] ++ [op].map byB : List UInt8) ++ [tk, sq].flatMap varZ).length ≤ 40 by simp; omega)
  have HCAT := hide (cmd_cat (⟨op, tk, sq, ⟨id, kd, sn, us, mb, zl, tx, zp, dp⟩, ds, up⟩ : CmdV))
  simp only at HCAT
  rw [← HCAT.out]
  have HNE := hide (show w.heap.size ≠ g by have := hT.glt; omega)
  have HX0 := hide (XS.new w #[.int .i64 op, .int .i64 tk, .int .i64 sq, .int .i64 id, .int .i64 kd, .int .i64 sn, .int .i64 us, .int .i64 mb, .slice oa n cl, .string ⟨tx.toArray⟩, .slice ob m cp, .int .i64 dp, .int .i64 ds, .int .i64 up] 31)
  have HT0 := hide (hT.alloc (.cells #[.int .i64 op, .int .i64 tk, .int .i64 sq, .int .i64 id, .int .i64 kd, .int .i64 sn, .int .i64 us, .int .i64 mb, .slice oa n cl, .string ⟨tx.toArray⟩, .slice ob m cp, .int .i64 dp, .int .i64 ds, .int .i64 up] 31))
  have HB0 := hide (hb.alloc hb.size (.cells #[.int .i64 op, .int .i64 tk, .int .i64 sq, .int .i64 id, .int .i64 kd, .int .i64 sn, .int .i64 us, .int .i64 mb, .slice oa n cl, .string ⟨tx.toArray⟩, .slice ob m cp, .int .i64 dp, .int .i64 ds, .int .i64 up] 31))
  have HAT := hide hat
  have HBT := hide hbt
  clear hat hbt hT hb hv1 hv2
  generalize hM1 : ([] ++ [op].map byB : List UInt8) = M1 at HL1 HL2 ⊢
  generalize hM2 : M1 ++ [tk, sq].flatMap varZ = M2 at HL2 ⊢
  have HM1 := hide hM1
  have HM2 := hide hM2
  have hl2 := HL2.out
  clear hM1 hM2
  go_enter Tryz.func31, Tryz.ntmps31
  go_wp2_with fail
  generalize w.alloc (.cells #[.int .i64 op, .int .i64 tk, .int .i64 sq, .int .i64 id, .int .i64 kd, .int .i64 sn, .int .i64 us, .int .i64 mb, .slice oa n cl, .string ⟨tx.toArray⟩, .slice ob m cp, .int .i64 dp, .int .i64 ds, .int .i64 up] 31) = x0 at HX0 HT0 HB0 ⊢
  refine wp_region_held_drew (S := XS w.heap.size #[.int .i64 op, .int .i64 tk, .int .i64 sq, .int .i64 id, .int .i64 kd, .int .i64 sn, .int .i64 us, .int .i64 mb, .slice oa n cl, .string ⟨tx.toArray⟩, .slice ob m cp, .int .i64 dp, .int .i64 ds, .int .i64 up] 31) (by kernel_rfl) HX0.out.drew (fun hHeld => ?_)
  refine wpAnyH_take (i := 0) (v := ?_) rfl (by kernel_rfl) (by kernel_rfl) (by kernel_rfl) (fun _ _ _ h => h) (Or.inl ⟨by rfl, ?_⟩) (by assumption) ?_; rotate_left
  · (intro wz hSw; have z0 := XS.cell hSw 0 rfl; clear hSw; go_simp; first | done | with_reducible rfl)
  try simp only [Act.put, List.getElem_toArray, List.getElem_cons_zero, List.getElem_cons_succ, List.setIfInBounds_toArray, List.set_cons_zero, List.set_cons_succ]
  refine wpAnyH_take (i := 1) (v := ?_) rfl (by kernel_rfl) (by kernel_rfl) (by kernel_rfl) (fun _ _ _ h => h) (Or.inl ⟨by rfl, ?_⟩) (by assumption) ?_; rotate_left
  · (intro wz hSw; have z0 := XS.cell hSw 0 rfl; clear hSw; go_simp; first | done | with_reducible rfl)
  try simp only [Act.put, List.getElem_toArray, List.getElem_cons_zero, List.getElem_cons_succ, List.setIfInBounds_toArray, List.set_cons_zero, List.set_cons_succ]
  refine wpAnyH_take (i := 2) (v := ?_) rfl (by kernel_rfl) (by kernel_rfl) (by kernel_rfl) (fun _ _ _ h => h) (Or.inl ⟨by rfl, ?_⟩) (by assumption) ?_; rotate_left
  · (intro wz hSw; have z0 := XS.cell hSw 0 rfl; clear hSw; go_simp; first | done | with_reducible rfl)
  try simp only [Act.put, List.getElem_toArray, List.getElem_cons_zero, List.getElem_cons_succ, List.setIfInBounds_toArray, List.set_cons_zero, List.set_cons_succ]
  refine wpAnyH_take (i := 3) (v := ?_) rfl (by kernel_rfl) (by kernel_rfl) (by kernel_rfl) (fun _ _ _ h => h) (Or.inl ⟨by rfl, ?_⟩) (by assumption) ?_; rotate_left
  · (intro wz hSw; have z0 := XS.cell hSw 0 rfl; clear hSw; go_simp; first | done | with_reducible rfl)
  try simp only [Act.put, List.getElem_toArray, List.getElem_cons_zero, List.getElem_cons_succ, List.setIfInBounds_toArray, List.set_cons_zero, List.set_cons_succ]
  refine wpAnyH_take (i := 4) (v := ?_) rfl (by kernel_rfl) (by kernel_rfl) (by kernel_rfl) (fun _ _ _ h => h) (Or.inl ⟨by rfl, ?_⟩) (by assumption) ?_; rotate_left
  · (intro wz hSw; have z0 := XS.cell hSw 0 rfl; clear hSw; go_simp; first | done | with_reducible rfl)
  try simp only [Act.put, List.getElem_toArray, List.getElem_cons_zero, List.getElem_cons_succ, List.setIfInBounds_toArray, List.set_cons_zero, List.set_cons_succ]
  refine wpAnyH_ready (rs := [5]) (by kernel_rfl) (by simp) ?_
  refine AllReadyH.cons rfl (fun K hK => ?_) AllReadyH.nil
  rw [if_pos (by rfl)]
  go_simp
  refine hK.out _ _ ?_ (fun hHeld => ?_)
  · first | exact XS.alloc hHeld _ | exact (XS.alloc HX0.out _).drew
  clear hK K
  try simp only [Act.put, List.getElem_toArray, List.getElem_cons_zero, List.getElem_cons_succ, List.setIfInBounds_toArray, List.set_cons_zero, List.set_cons_succ]
  refine wpAnyH_ready (rs := [6]) (by kernel_rfl) (by simp) ?_
  refine AllReadyH.cons rfl (fun K hK => ?_) AllReadyH.nil
  rw [if_pos (by rfl)]
  go_simp
  go_at_call 57
  refine (oneBytes_any14 W0.heap.size g [] (some ⟨x0.heap.size, 0, none⟩) 1 1 [op] (by omega) HZ1.out (by simp) _ (by first | exact (HT0.out.alloc _).drew | exact HT0.out.drew.alloc _ | exact HT0.out.drew) (by first | exact ints_litd (zs := [op]) (G := x0.heap.size) (by first | rfl | simp) rfl HWF1.out | exact ints_lit (zs := [op]) (G := x0.heap.size) (by first | rfl | simp) rfl HWF1.out)).mono ?_
  rintro r x1 ⟨rfl, hT, hF⟩
  have hF2 : TwFr W0.heap.size g x0 x1 := (TwFr.low HT0.out.bsz (by first | exact ((Below.refl _ _).alloc (Nat.le_refl _) _).drew | exact (Below.refl _ _).drew.alloc (by simp) _ | exact (Below.refl _ _).drew)).trans hF
  try go_simp
  refine hK.out _ _ ?_ (fun hHeld => ?_)
  · exact XS.tw HX0.out hF2 HNE.out (by decide)
  clear hK K
  try simp only [Act.put, List.getElem_toArray, List.getElem_cons_zero, List.getElem_cons_succ, List.setIfInBounds_toArray, List.set_cons_zero, List.set_cons_succ]
  refine wpAnyH_done (by kernel_rfl) ?_ _
  have HT1 := hide hT
  have HB1 := hide (HB0.out.trans hF2.bel)
  have HX1 := hide hHeld
  clear hT hF hF2 hHeld HT0 HB0 HX0
  go_wp2_with fail
  rw [HM1.out] at HT1
  refine wp_region_held_drew (S := XS w.heap.size #[.int .i64 op, .int .i64 tk, .int .i64 sq, .int .i64 id, .int .i64 kd, .int .i64 sn, .int .i64 us, .int .i64 mb, .slice oa n cl, .string ⟨tx.toArray⟩, .slice ob m cp, .int .i64 dp, .int .i64 ds, .int .i64 up] 31) (by kernel_rfl) HX1.out.drew (fun hHeld => ?_)
  refine wpAnyH_take (i := 0) (v := ?_) rfl (by kernel_rfl) (by kernel_rfl) (by kernel_rfl) (fun _ _ _ h => h) (Or.inl ⟨by rfl, ?_⟩) (by assumption) ?_; rotate_left
  · (intro wz hSw; have z1 := XS.cell hSw 1 rfl; have z2 := XS.cell hSw 2 rfl; clear hSw; go_simp; first | done | with_reducible rfl)
  try simp only [Act.put, List.getElem_toArray, List.getElem_cons_zero, List.getElem_cons_succ, List.setIfInBounds_toArray, List.set_cons_zero, List.set_cons_succ]
  refine wpAnyH_take (i := 1) (v := ?_) rfl (by kernel_rfl) (by kernel_rfl) (by kernel_rfl) (fun _ _ _ h => h) (Or.inl ⟨by rfl, ?_⟩) (by assumption) ?_; rotate_left
  · (intro wz hSw; have z1 := XS.cell hSw 1 rfl; have z2 := XS.cell hSw 2 rfl; clear hSw; go_simp; first | done | with_reducible rfl)
  try simp only [Act.put, List.getElem_toArray, List.getElem_cons_zero, List.getElem_cons_succ, List.setIfInBounds_toArray, List.set_cons_zero, List.set_cons_succ]
  refine wpAnyH_take (i := 2) (v := ?_) rfl (by kernel_rfl) (by kernel_rfl) (by kernel_rfl) (fun _ _ _ h => h) (Or.inl ⟨by rfl, ?_⟩) (by assumption) ?_; rotate_left
  · (intro wz hSw; have z1 := XS.cell hSw 1 rfl; have z2 := XS.cell hSw 2 rfl; clear hSw; go_simp; first | done | with_reducible rfl)
  try simp only [Act.put, List.getElem_toArray, List.getElem_cons_zero, List.getElem_cons_succ, List.setIfInBounds_toArray, List.set_cons_zero, List.set_cons_succ]
  refine wpAnyH_take (i := 3) (v := ?_) rfl (by kernel_rfl) (by kernel_rfl) (by kernel_rfl) (fun _ _ _ h => h) (Or.inl ⟨by rfl, ?_⟩) (by assumption) ?_; rotate_left
  · (intro wz hSw; have z1 := XS.cell hSw 1 rfl; have z2 := XS.cell hSw 2 rfl; clear hSw; go_simp; first | done | with_reducible rfl)
  try simp only [Act.put, List.getElem_toArray, List.getElem_cons_zero, List.getElem_cons_succ, List.setIfInBounds_toArray, List.set_cons_zero, List.set_cons_succ]
  refine wpAnyH_take (i := 4) (v := ?_) rfl (by kernel_rfl) (by kernel_rfl) (by kernel_rfl) (fun _ _ _ h => h) (Or.inl ⟨by rfl, ?_⟩) (by assumption) ?_; rotate_left
  · (intro wz hSw; have z1 := XS.cell hSw 1 rfl; have z2 := XS.cell hSw 2 rfl; clear hSw; go_simp; first | done | with_reducible rfl)
  try simp only [Act.put, List.getElem_toArray, List.getElem_cons_zero, List.getElem_cons_succ, List.setIfInBounds_toArray, List.set_cons_zero, List.set_cons_succ]
  refine wpAnyH_take (i := 5) (v := ?_) rfl (by kernel_rfl) (by kernel_rfl) (by kernel_rfl) (fun _ _ _ h => h) (Or.inl ⟨by rfl, ?_⟩) (by assumption) ?_; rotate_left
  · (intro wz hSw; have z1 := XS.cell hSw 1 rfl; have z2 := XS.cell hSw 2 rfl; clear hSw; go_simp; first | done | with_reducible rfl)
  try simp only [Act.put, List.getElem_toArray, List.getElem_cons_zero, List.getElem_cons_succ, List.setIfInBounds_toArray, List.set_cons_zero, List.set_cons_succ]
  refine wpAnyH_take (i := 6) (v := ?_) rfl (by kernel_rfl) (by kernel_rfl) (by kernel_rfl) (fun _ _ _ h => h) (Or.inl ⟨by rfl, ?_⟩) (by assumption) ?_; rotate_left
  · (intro wz hSw; have z1 := XS.cell hSw 1 rfl; have z2 := XS.cell hSw 2 rfl; clear hSw; go_simp; first | done | with_reducible rfl)
  try simp only [Act.put, List.getElem_toArray, List.getElem_cons_zero, List.getElem_cons_succ, List.setIfInBounds_toArray, List.set_cons_zero, List.set_cons_succ]
  refine wpAnyH_ready (rs := [7]) (by kernel_rfl) (by simp) ?_
  refine AllReadyH.cons rfl (fun K hK => ?_) AllReadyH.nil
  rw [if_pos (by rfl)]
  go_simp
  refine hK.out _ _ ?_ (fun hHeld => ?_)
  · first | exact XS.alloc hHeld _ | exact (XS.alloc HX1.out _).drew
  clear hK K
  try simp only [Act.put, List.getElem_toArray, List.getElem_cons_zero, List.getElem_cons_succ, List.setIfInBounds_toArray, List.set_cons_zero, List.set_cons_succ]
  refine wpAnyH_ready (rs := [8]) (by kernel_rfl) (by simp) ?_
  refine AllReadyH.cons rfl (fun K hK => ?_) AllReadyH.nil
  rw [if_pos (by rfl)]
  go_simp
  go_at_call 58
  refine (numbers_any14 W0.heap.size g M1 (some ⟨x1.heap.size, 0, none⟩) 2 2 [tk, sq] (by omega) HZ2.out (by have := HL1.out; omega) _ (by first | exact (HT1.out.alloc _).drew | exact HT1.out.drew.alloc _ | exact HT1.out.drew) (by first | exact ints_litd (zs := [tk, sq]) (G := x1.heap.size) (by first | rfl | simp) rfl HWF2.out | exact ints_lit (zs := [tk, sq]) (G := x1.heap.size) (by first | rfl | simp) rfl HWF2.out)).mono ?_
  rintro r x2 ⟨rfl, hT, hF⟩
  have hF2 : TwFr W0.heap.size g x1 x2 := (TwFr.low HT1.out.bsz (by first | exact ((Below.refl _ _).alloc (Nat.le_refl _) _).drew | exact (Below.refl _ _).drew.alloc (by simp) _ | exact (Below.refl _ _).drew)).trans hF
  try go_simp
  refine hK.out _ _ ?_ (fun hHeld => ?_)
  · exact XS.tw HX1.out hF2 HNE.out (by decide)
  clear hK K
  try simp only [Act.put, List.getElem_toArray, List.getElem_cons_zero, List.getElem_cons_succ, List.setIfInBounds_toArray, List.set_cons_zero, List.set_cons_succ]
  refine wpAnyH_done (by kernel_rfl) ?_ _
  have HT2 := hide hT
  have HB2 := hide (HB1.out.trans hF2.bel)
  have HX2 := hide hHeld
  clear hT hF hF2 hHeld HT1 HB1 HX1
  rw [HM2.out] at HT2
  clear HCAT HZ1 HZ2 HWF1 HWF2 HL1 HL2 HM1 HM2
  obtain ⟨y0, y1, y2, y3, y4, y5, y6, y7, y8, y9, y10, y11, y12, y13⟩ := xs_cells HX2.out
  by_cases o2 : op = 2
  · subst o2
    have hin := HC.out.2.2.2.1 rfl
    try simp only at hin
    go_wp2_with fail
    refine (placelessEvent_any14 W0 g M2 id kd sn us mb dp oa n cl tx ob m cp zl zp hin (by omega) _ HT2.out HB2.out HAT.out).mono ?_
    rintro e x3 ⟨rfl, hT3, hB3⟩
    go_wp2_with fail
    refine bodyPost_end (results_none rfl _ _ _) rfl ?_
    exact ⟨rfl, hT3, hB3⟩
  by_cases o3 : op = 3
  · subst o3
    have hin := HC.out.2.2.2.2.1 rfl
    try simp only at hin
    go_wp2_with fail
    refine (wholeEvent_any14 W0 g M2 id kd sn us mb dp oa n cl tx ob m cp zl zp hin hx (by omega) _ HT2.out HB2.out HAT.out HBT.out).mono ?_
    rintro e x3 ⟨rfl, hT3, hB3⟩
    go_wp2_with fail
    refine bodyPost_end (results_none rfl _ _ _) rfl ?_
    exact ⟨rfl, hT3, hB3⟩
  by_cases o4 : op = 4
  · subst o4
    have hin := HC.out.2.2.2.2.2 rfl
    try simp only at hin
    have HZ3 := hide (show ∀ z ∈ [ds, up], 0 ≤ z ∧ z ≤ 1000000000 by intro z hz; simp at hz; rcases hz with rfl | rfl <;> omega)
    have HWF3 := hide (wf_two (a := ds) (b := up) (by omega) (by omega))
    go_wp2_with fail
    clear y0 y1 y2 y3 y4 y5 y6 y7 y8 y9 y10 y11 y12 y13
    refine wp_region_held_drew (S := XS w.heap.size #[.int .i64 4, .int .i64 tk, .int .i64 sq, .int .i64 id, .int .i64 kd, .int .i64 sn, .int .i64 us, .int .i64 mb, .slice oa n cl, .string ⟨tx.toArray⟩, .slice ob m cp, .int .i64 dp, .int .i64 ds, .int .i64 up] 31) (by kernel_rfl) HX2.out.drew (fun hHeld => ?_)
    refine wpAnyH_take (i := 0) (v := ?_) rfl (by kernel_rfl) (by kernel_rfl) (by kernel_rfl) (fun _ _ _ h => h) (Or.inl ⟨by rfl, ?_⟩) (by assumption) ?_; rotate_left
    · (intro wz hSw; have z12 := XS.cell hSw 12 rfl; have z13 := XS.cell hSw 13 rfl; clear hSw; go_simp; first | done | with_reducible rfl)
    try simp only [Act.put, List.getElem_toArray, List.getElem_cons_zero, List.getElem_cons_succ, List.setIfInBounds_toArray, List.set_cons_zero, List.set_cons_succ]
    refine wpAnyH_take (i := 1) (v := ?_) rfl (by kernel_rfl) (by kernel_rfl) (by kernel_rfl) (fun _ _ _ h => h) (Or.inl ⟨by rfl, ?_⟩) (by assumption) ?_; rotate_left
    · (intro wz hSw; have z12 := XS.cell hSw 12 rfl; have z13 := XS.cell hSw 13 rfl; clear hSw; go_simp; first | done | with_reducible rfl)
    try simp only [Act.put, List.getElem_toArray, List.getElem_cons_zero, List.getElem_cons_succ, List.setIfInBounds_toArray, List.set_cons_zero, List.set_cons_succ]
    refine wpAnyH_take (i := 2) (v := ?_) rfl (by kernel_rfl) (by kernel_rfl) (by kernel_rfl) (fun _ _ _ h => h) (Or.inl ⟨by rfl, ?_⟩) (by assumption) ?_; rotate_left
    · (intro wz hSw; have z12 := XS.cell hSw 12 rfl; have z13 := XS.cell hSw 13 rfl; clear hSw; go_simp; first | done | with_reducible rfl)
    try simp only [Act.put, List.getElem_toArray, List.getElem_cons_zero, List.getElem_cons_succ, List.setIfInBounds_toArray, List.set_cons_zero, List.set_cons_succ]
    refine wpAnyH_take (i := 3) (v := ?_) rfl (by kernel_rfl) (by kernel_rfl) (by kernel_rfl) (fun _ _ _ h => h) (Or.inl ⟨by rfl, ?_⟩) (by assumption) ?_; rotate_left
    · (intro wz hSw; have z12 := XS.cell hSw 12 rfl; have z13 := XS.cell hSw 13 rfl; clear hSw; go_simp; first | done | with_reducible rfl)
    try simp only [Act.put, List.getElem_toArray, List.getElem_cons_zero, List.getElem_cons_succ, List.setIfInBounds_toArray, List.set_cons_zero, List.set_cons_succ]
    refine wpAnyH_take (i := 4) (v := ?_) rfl (by kernel_rfl) (by kernel_rfl) (by kernel_rfl) (fun _ _ _ h => h) (Or.inl ⟨by rfl, ?_⟩) (by assumption) ?_; rotate_left
    · (intro wz hSw; have z12 := XS.cell hSw 12 rfl; have z13 := XS.cell hSw 13 rfl; clear hSw; go_simp; first | done | with_reducible rfl)
    try simp only [Act.put, List.getElem_toArray, List.getElem_cons_zero, List.getElem_cons_succ, List.setIfInBounds_toArray, List.set_cons_zero, List.set_cons_succ]
    refine wpAnyH_take (i := 5) (v := ?_) rfl (by kernel_rfl) (by kernel_rfl) (by kernel_rfl) (fun _ _ _ h => h) (Or.inl ⟨by rfl, ?_⟩) (by assumption) ?_; rotate_left
    · (intro wz hSw; have z12 := XS.cell hSw 12 rfl; have z13 := XS.cell hSw 13 rfl; clear hSw; go_simp; first | done | with_reducible rfl)
    try simp only [Act.put, List.getElem_toArray, List.getElem_cons_zero, List.getElem_cons_succ, List.setIfInBounds_toArray, List.set_cons_zero, List.set_cons_succ]
    refine wpAnyH_take (i := 6) (v := ?_) rfl (by kernel_rfl) (by kernel_rfl) (by kernel_rfl) (fun _ _ _ h => h) (Or.inl ⟨by rfl, ?_⟩) (by assumption) ?_; rotate_left
    · (intro wz hSw; have z12 := XS.cell hSw 12 rfl; have z13 := XS.cell hSw 13 rfl; clear hSw; go_simp; first | done | with_reducible rfl)
    try simp only [Act.put, List.getElem_toArray, List.getElem_cons_zero, List.getElem_cons_succ, List.setIfInBounds_toArray, List.set_cons_zero, List.set_cons_succ]
    refine wpAnyH_ready (rs := [7]) (by kernel_rfl) (by simp) ?_
    refine AllReadyH.cons rfl (fun K hK => ?_) AllReadyH.nil
    rw [if_pos (by rfl)]
    go_simp
    refine hK.out _ _ ?_ (fun hHeld => ?_)
    · first | exact XS.alloc hHeld _ | exact (XS.alloc HX2.out _).drew
    clear hK K
    try simp only [Act.put, List.getElem_toArray, List.getElem_cons_zero, List.getElem_cons_succ, List.setIfInBounds_toArray, List.set_cons_zero, List.set_cons_succ]
    refine wpAnyH_ready (rs := [8]) (by kernel_rfl) (by simp) ?_
    refine AllReadyH.cons rfl (fun K hK => ?_) AllReadyH.nil
    rw [if_pos (by rfl)]
    go_simp
    go_at_call 58
    refine (numbers_any14 W0.heap.size g M2 (some ⟨x2.heap.size, 0, none⟩) 2 2 [ds, up] (by omega) HZ3.out (by omega) _ (by first | exact (HT2.out.alloc _).drew | exact HT2.out.drew.alloc _ | exact HT2.out.drew) (by first | exact ints_litd (zs := [ds, up]) (G := x2.heap.size) (by first | rfl | simp) rfl HWF3.out | exact ints_lit (zs := [ds, up]) (G := x2.heap.size) (by first | rfl | simp) rfl HWF3.out)).mono ?_
    rintro r x3 ⟨rfl, hT, hF⟩
    have hF2 : TwFr W0.heap.size g x2 x3 := (TwFr.low HT2.out.bsz (by first | exact ((Below.refl _ _).alloc (Nat.le_refl _) _).drew | exact (Below.refl _ _).drew.alloc (by simp) _ | exact (Below.refl _ _).drew)).trans hF
    try go_simp
    refine hK.out _ _ ?_ (fun hHeld => ?_)
    · exact XS.tw HX2.out hF2 HNE.out (by decide)
    clear hK K
    try simp only [Act.put, List.getElem_toArray, List.getElem_cons_zero, List.getElem_cons_succ, List.setIfInBounds_toArray, List.set_cons_zero, List.set_cons_succ]
    refine wpAnyH_done (by kernel_rfl) ?_ _
    have HT3 := hide hT
    have HB3 := hide (HB2.out.trans hF2.bel)
    have HX3 := hide hHeld
    clear hT hF hF2 hHeld HT2 HB2 HX2
    go_wp2_with fail
    refine bodyPost_end (results_none rfl _ _ _) rfl ?_
    refine ⟨rfl, ?_, HB3.out⟩
    have e4 : [ds, up].flatMap varZ = varZ ds ++ varZ up := by simp
    have h3 := HT3.out
    rw [e4] at h3
    exact h3
  have b2 : (op == 2) = false := by simpa using o2
  have b3 : (op == 3) = false := by simpa using o3
  have b4 : (op == 4) = false := by simpa using o4
  go_wp2_with fail
  refine bodyPost_end (results_none rfl _ _ _) rfl ?_
  refine ⟨rfl, ?_, HB2.out⟩
  rw [cmdTail_no o2 o3 o4, List.append_nil]
  exact HT2.out

set_option maxRecDepth 100000 in
set_option maxHeartbeats 2000000 in
theorem implCommandText_any (op tk sq id kd sn us mb dp : Int) (oa : Option Addr) (n cl : Nat) (tx : List UInt8) (ob : Option Addr) (m cp : Nat) (ds up : Int) (zl zp : List Int) (hx : tx.length ≤ 1048576) (w : World) (hat : IntsAt w oa n cl zl) (hbt : IntsAt w ob m cp zp) :
    Calls Tryz.prog 12 #[cmval op tk sq id kd sn us mb dp (.slice oa n cl) (.slice ob m cp) tx ds up] w fun e w' => e = .returned (etV (cmdText (⟨op, tk, sq, ⟨id, kd, sn, us, mb, zl, tx, zp, dp⟩, ds, up⟩ : CmdV))) ∧ Below w.heap.size w w' := by
  have HOK := hide (fun w hat hbt => implCommandOk_any op tk sq id kd sn us mb dp oa n cl tx ob m cp ds up zl zp hx w hat hbt)
  have HX0 := hide (XS.new w #[.int .i64 op, .int .i64 tk, .int .i64 sq, .int .i64 id, .int .i64 kd, .int .i64 sn, .int .i64 us, .int .i64 mb, .slice oa n cl, .string ⟨tx.toArray⟩, .slice ob m cp, .int .i64 dp, .int .i64 ds, .int .i64 up] 31)
  have HB0 := hide ((Below.refl w.heap.size w).alloc (Nat.le_refl _) (.cells #[.int .i64 op, .int .i64 tk, .int .i64 sq, .int .i64 id, .int .i64 kd, .int .i64 sn, .int .i64 us, .int .i64 mb, .slice oa n cl, .string ⟨tx.toArray⟩, .slice ob m cp, .int .i64 dp, .int .i64 ds, .int .i64 up] 31))
  have HAT := hide hat
  have HBT := hide hbt
  clear hat hbt
  obtain ⟨y0, y1, y2, y3, y4, y5, y6, y7, y8, y9, y10, y11, y12, y13⟩ := xs_cells HX0.out
  unfold cmdText
  cases cok : cmdOk (⟨op, tk, sq, ⟨id, kd, sn, us, mb, zl, tx, zp, dp⟩, ds, up⟩ : CmdV) with
  | false =>
    rw [cok] at HOK
    simp only [Bool.false_eq_true, if_false, etV]
    go_enter Tryz.func12, Tryz.ntmps12
    go_wp2_with fail
    refine (HOK.out _ (HAT.out.below HB0.out) (HBT.out.below HB0.out)).mono ?_
    rintro e w1 ⟨rfl, hb1⟩
    go_wp2_with fail
    go_ret2
    exact ⟨rfl, HB0.out.trans (hb1.mono HB0.out.size)⟩
  | true =>
    rw [cok] at HOK
    simp only [if_true, etV]
    have HCM := hide (fun W0 g w hT hb hat hbt => command_any14 W0 g op tk sq id kd sn us mb dp oa n cl tx ob m cp ds up zl zp cok hx w hT hb hat hbt)
    clear cok
    generalize cmdB (⟨op, tk, sq, ⟨id, kd, sn, us, mb, zl, tx, zp, dp⟩, ds, up⟩ : CmdV) = k at HCM ⊢
    go_enter Tryz.func12, Tryz.ntmps12
    go_wp2_with fail
    refine (HOK.out _ (HAT.out.below HB0.out) (HBT.out.below HB0.out)).mono ?_
    rintro e x1 ⟨rfl, hb1⟩
    have HX1 := hide (HX0.out.on hb1)
    have HB1 := hide (HB0.out.trans (hb1.mono HB0.out.size))
    clear hb1 HX0 HB0 y0 y1 y2 y3 y4 y5 y6 y7 y8 y9 y10 y11 y12 y13
    have HX2 := hide (HX1.out.alloc (.cells #[.slice none 0 0] 59))
    obtain ⟨y0, y1, y2, y3, y4, y5, y6, y7, y8, y9, y10, y11, y12, y13⟩ := xs_cells HX2.out
    have HT2 := hide (Tw.new x1)
    have HB2 := hide (HB1.out.alloc HB1.out.size (.cells #[.slice none 0 0] 59))
    have hzl := HX1.out.lt
    go_wp2_with fail
    refine (HCM.out x1 x1.heap.size _ HT2.out ((Below.refl _ _).alloc (Nat.le_refl _) _) (HAT.out.below HB1.out) (HBT.out.below HB1.out)).mono ?_
    rintro e x3 ⟨rfl, hT3, hb3⟩
    have HB3 := hide (HB1.out.trans (hb3.mono HB1.out.size))
    clear y0 y1 y2 y3 y4 y5 y6 y7 y8 y9 y10 y11 y12 y13 hb3
    go_wp2_with fail
    refine (written_any14 _ _ _ _ hT3).mono ?_
    rintro e x4 ⟨rfl, rfl⟩
    go_wp2_with fail
    go_ret2
    exact ⟨rfl, HB3.out⟩

end Go.Proofs.YtckkfjmjcknjdaaGreatDoor
