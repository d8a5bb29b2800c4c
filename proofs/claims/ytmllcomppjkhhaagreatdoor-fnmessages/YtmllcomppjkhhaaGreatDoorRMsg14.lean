/-
  Walks and mathematics of Msg14.
-/
import Derived.Test.YtmllcomppjkhhaaGreatDoorRMsg13
namespace Go.Proofs.YtmllcomppjkhhaaGreatDoor.P18
end Go.Proofs.YtmllcomppjkhhaaGreatDoor.P18
namespace Go.Proofs.YtmllcomppjkhhaaGreatDoor.P3
end Go.Proofs.YtmllcomppjkhhaaGreatDoor.P3
namespace Go.Proofs.YtmllcomppjkhhaaGreatDoor
open Go.RowKit P1 P3 P9 P11 P12 P18 K
set_option linter.unusedVariables false
set_option linter.unusedSimpArgs false

set_option maxRecDepth 100000 in
set_option maxHeartbeats 16000000 in
theorem specDecode_any (s : ByteArray) (hs : s.size ≤ 1048576) (w : World) :
    Calls Tryz.prog 12 #[.string s] w fun e w' => MdPost (mdR (bl s)) w e w' := by
  have hb0 := ((Below.refl w.heap.size w).alloc (Nat.le_refl _) (.cells #[.int .i64 0, .int .i64 0, .int .i64 0, .int .i64 0, .int .i64 0, .int .i64 0, .int .i64 0, .bool false, .slice none 0 0, .slice none 0 0, .string ⟨#[]⟩, .bool false] 27)).alloc (by simp) (.cells #[.string s, .int .i64 0, .bool false] 69)
  have HZ0 := hide ((XS.new w #[.int .i64 0, .int .i64 0, .int .i64 0, .int .i64 0, .int .i64 0, .int .i64 0, .int .i64 0, .bool false, .slice none 0 0, .slice none 0 0, .string ⟨#[]⟩, .bool false] 27).alloc (.cells #[.string s, .int .i64 0, .bool false] 69))
  have HR0 := hide (show RdC ((w.alloc (.cells #[.int .i64 0, .int .i64 0, .int .i64 0, .int .i64 0, .int .i64 0, .int .i64 0, .int .i64 0, .bool false, .slice none 0 0, .slice none 0 0, .string ⟨#[]⟩, .bool false] 27)).alloc (.cells #[.string s, .int .i64 0, .bool false] 69)) (w.heap.size + 1) s 0 false by
    have q := heap_alloc_new (w.alloc (.cells #[.int .i64 0, .int .i64 0, .int .i64 0, .int .i64 0, .int .i64 0, .int .i64 0, .int .i64 0, .bool false, .slice none 0 0, .slice none 0 0, .string ⟨#[]⟩, .bool false] 27)) (.cells #[.string s, .int .i64 0, .bool false] 69)
    rw [World.size_alloc] at q
    exact ⟨Nat.zero_le _, q⟩)
  have HB0 := hide hb0
  have HS0 := hide (show ((w.alloc (.cells #[.int .i64 0, .int .i64 0, .int .i64 0, .int .i64 0, .int .i64 0, .int .i64 0, .int .i64 0, .bool false, .slice none 0 0, .slice none 0 0, .string ⟨#[]⟩, .bool false] 27)).alloc (.cells #[.string s, .int .i64 0, .bool false] 69)).heap.size = w.heap.size + 1 + 1 by simp)
  have HTK := hide (fun w hc => l05Take_any (w.heap.size + 0) s hs 0 false 3 (by omega) w hc)
  clear HTK
  have HT3 := hide (fun g w hc => l05Take_any g s hs 0 false 3 (by omega) w hc)
  clear hb0
  by_cases h3 : s.size < 3
  · have HR := hide (show mdR (bl s) = (zeroMsg, false) from mdR_short (by rw [bl_length]; exact h3))
    have hv : takeV s 0 false 3 = (⟨#[]⟩, 0, true) := by unfold takeV; rw [if_neg (fun q => by have := q.2; omega)]
    rw [hv] at HT3
    go_enter Tryz.func12, Tryz.ntmps12
    go_wp2_with fail
    generalize (w.alloc (.cells #[.int .i64 0, .int .i64 0, .int .i64 0, .int .i64 0, .int .i64 0, .int .i64 0, .int .i64 0, .bool false, .slice none 0 0, .slice none 0 0, .string ⟨#[]⟩, .bool false] 27)).alloc (.cells #[.string s, .int .i64 0, .bool false] 69) = w0 at HZ0 HR0 HB0 HS0 ⊢
    refine (HT3.out _ _ HR0.out).mono ?_
    rintro e w1 ⟨rfl, hc1, hg1⟩
    have hs0 := HS0.out
    have HZ4 := hide (HZ0.out.kept hg1 (fun q => by have := Option.some.inj q; omega))
    have HB4 := hide (HB0.out.grown hg1 HB0.out.size (fun j hj => by cases hj; omega))
    obtain ⟨c0, c1, c2, z0, z1, z2⟩ := rdc_cells hc1.2
    clear hc1 hg1
    have y0 := HZ4.out.free 0
    have y1 := HZ4.out.free 1
    have y2 := HZ4.out.free 2
    have y3 := HZ4.out.free 3
    have y4 := HZ4.out.free 4
    have y5 := HZ4.out.free 5
    have y6 := HZ4.out.free 6
    have y7 := HZ4.out.free 7
    have y8 := HZ4.out.free 8
    have y9 := HZ4.out.free 9
    have y10 := HZ4.out.free 10
    have y11 := HZ4.out.free 11
    obtain ⟨zz0, zz1, zz2, zz3, zz4, zz5, zz6, zz7, zz8, zz9, zz10, zz11⟩ := xs12 HZ4.out
    go_wp2_with fail
    obtain ⟨w9, hw9, hR9, hg9⟩ := sets12 HZ4.out (.int .i64 0) (.int .i64 0) (.int .i64 0) (.int .i64 0) (.int .i64 0) (.int .i64 0) (.int .i64 0) (.bool false) (.slice none 0 0) (.slice none 0 0) (.string ⟨#[]⟩) (.bool false)
    rw [hw9]
    clear hw9
    obtain ⟨q0, q1, q2, q3, q4, q5, q6, q7, q8, q9, q10, q11⟩ := xs12 hR9
    refine bodyPost_ret (v := .tuple #[mgval 0 0 0 0 0 0 0 false (.slice none 0 0) (.slice none 0 0) [] false, .bool false]) (by simp [results, Tryz.results12, go_sem, q0, q1, q2, q3, q4, q5, q6, q7, q8, q9, q10, q11]) rfl ?_
    exact MdPost.zero HR.out (HB4.out.grown hg9 HB4.out.size (fun q hq => by cases hq; omega))
  · obtain ⟨b0, b1, b2, rest, hbl, htk, hdr⟩ := str3 h3
    rw [htk] at HT3
    obtain ⟨k, hk⟩ : ∃ k : Nat, b0.toNat = k := ⟨_, rfl⟩
    obtain ⟨f, hf⟩ : ∃ k : Nat, b1.toNat = k := ⟨_, rfl⟩
    obtain ⟨t, ht⟩ : ∃ k : Nat, b2.toNat = k := ⟨_, rfl⟩
    have g1 : byteL (some (bl s)) = (k, some (b1 :: b2 :: rest)) := by rw [hbl, ← hk]; rfl
    have g2 : byteL (some (b1 :: b2 :: rest)) = (f, some (b2 :: rest)) := by rw [← hf]; rfl
    have g3 : byteL (some (b2 :: rest)) = (t, some rest) := by rw [← ht]; rfl
    obtain ⟨tm, r4, g4⟩ : ∃ i q, numL (some rest) = (i, q) := ⟨_, _, rfl⟩
    obtain ⟨ix, r5, g5⟩ : ∃ i q, numL r4 = (i, q) := ⟨_, _, rfl⟩
    obtain ⟨lt, r6, g6⟩ : ∃ i q, numL r5 = (i, q) := ⟨_, _, rfl⟩
    obtain ⟨cm, r7, g7⟩ : ∃ i q, numL r6 = (i, q) := ⟨_, _, rfl⟩
    obtain ⟨ok, r8, g8⟩ : ∃ i q, flagS r7 = (i, q) := ⟨_, _, rfl⟩
    obtain ⟨la, r9, g9⟩ : ∃ i q, flagS r8 = (i, q) := ⟨_, _, rfl⟩
    obtain ⟨n, r, g10⟩ : ∃ i q, numL r9 = (i, q) := ⟨_, _, rfl⟩
    have HSP := hide (fun J => show SpM (bl s) J k f t tm ix lt cm n ok la r from ⟨_, _, _, _, _, _, _, _, _, g1, g2, g3, g4, g5, g6, g7, g8, g9, g10⟩)
    have hnle : n ≤ 1000000000 := by have := numL_le r9; rw [g10] at this; exact this
    have HV4 := hide (fun g w hc => l05Var_L g s hs (some rest) w hc)
    have HV5 := hide (fun g w hc => l05Var_L g s hs r4 w hc)
    have HV6 := hide (fun g w hc => l05Var_L g s hs r5 w hc)
    have HV7 := hide (fun g w hc => l05Var_L g s hs r6 w hc)
    have HF8 := hide (fun g w hc => take1_L g s hs r7 w hc)
    have HF9 := hide (fun g w hc => take1_L g s hs r8 w hc)
    have HV10 := hide (fun g w hc => l05Var_L g s hs r9 w hc)
    rw [g4] at HV4
    rw [g5] at HV5
    rw [g6] at HV6
    rw [g7] at HV7
    rw [g8] at HF8
    rw [g9] at HF9
    rw [g10] at HV10
    simp only at HV4 HV5 HV6 HV7 HF8 HF9 HV10
    have HSH := hide (fun g r w hc => l05ReadShort_L g s hs r w hc)
    have i0 : ∀ wx, (Instr.index 9 (.string ⟨#[b0, b1, b2]⟩) (.int .i64 0)).run Tryz.prog wx = .ok (.int .u8 (b0.toNat : Int)) wx := fun wx => idx_any ⟨#[b0, b1, b2]⟩ .i64 0 (by show 0 < 3; omega) wx
    have i1 : ∀ wx, (Instr.index 9 (.string ⟨#[b0, b1, b2]⟩) (.int .i64 1)).run Tryz.prog wx = .ok (.int .u8 (b1.toNat : Int)) wx := fun wx => idx_any ⟨#[b0, b1, b2]⟩ .i64 1 (by show 1 < 3; omega) wx
    have i2 : ∀ wx, (Instr.index 9 (.string ⟨#[b0, b1, b2]⟩) (.int .i64 2)).run Tryz.prog wx = .ok (.int .u8 (b2.toNat : Int)) wx := fun wx => idx_any ⟨#[b0, b1, b2]⟩ .i64 2 (by show 2 < 3; omega) wx
    have k1 := b0.toNat_lt
    have k2 := b1.toNat_lt
    have k3 := b2.toNat_lt
    rw [hk] at i0 k1
    rw [hf] at i1 k2
    rw [ht] at i2 k3
    have k1' : (k : Int) < 256 := by omega
    have k2' : (f : Int) < 256 := by omega
    have k3' : (t : Int) < 256 := by omega
    have k10 : 0 ≤ (k : Int) := by omega
    have k20 : 0 ≤ (f : Int) := by omega
    have k30 : 0 ≤ (t : Int) := by omega
    have ewk : IntKind.i64.wrap (k : Int) = (k : Int) := by rw [IntKind.wrap_i64]; omega
    have ewf : IntKind.i64.wrap (f : Int) = (f : Int) := by rw [IntKind.wrap_i64]; omega
    have ewt : IntKind.i64.wrap (t : Int) = (t : Int) := by rw [IntKind.wrap_i64]; omega
    generalize (⟨#[b0, b1, b2]⟩ : ByteArray) = X3 at HT3 i0 i1 i2
    have HDR := hide hdr
    clear g1 g2 g3 g4 g5 g6 g7 g8 g9 g10 hk hf ht hbl htk hdr k1 k2 k3
    go_enter Tryz.func12, Tryz.ntmps12
    go_wp2_with fail
    generalize (w.alloc (.cells #[.int .i64 0, .int .i64 0, .int .i64 0, .int .i64 0, .int .i64 0, .int .i64 0, .int .i64 0, .bool false, .slice none 0 0, .slice none 0 0, .string ⟨#[]⟩, .bool false] 27)).alloc (.cells #[.string s, .int .i64 0, .bool false] 69) = w0 at HZ0 HR0 HB0 HS0 ⊢
    refine (HT3.out _ _ HR0.out).mono ?_
    rintro e w1 ⟨rfl, hc1, hg1⟩
    have hs0 := HS0.out
    have hs1 := hg1.size
    have HZ1 := hide (HZ0.out.kept hg1 (fun q => by have := Option.some.inj q; omega))
    have HB1 := hide (HB0.out.grown hg1 HB0.out.size (fun j hj => by cases hj; omega))
    have HC1 := hide (show RdL w1 (w.heap.size + 1) s (some rest) from ⟨3, false, hc1, by rw [HDR.out]; rfl⟩)
    obtain ⟨c0, c1, c2, z0, z1, z2⟩ := rdc_cells hc1.2
    clear hc1 hg1 HZ0 HR0 HB0 HT3
    go_upto_region 5 with fail
    clear c0 c1 c2 z0 z1 z2
    refine wp_region_held_drew (S := fun _ => True) (by kernel_rfl) trivial (fun hHeld => ?_)
    have HZd := hide HZ1.out.drew
    have HBd := hide HB1.out.drew
    have HCd := hide (HC1.out.kept (w' := w1.drew) rfl)
    have hsd : w.heap.size + 1 + 1 ≤ w1.drew.heap.size := by show _ ≤ w1.heap.size; omega
    clear HZ1 HB1 HC1
    generalize w1.drew = xd at HZd HBd HCd hsd ⊢
    refine wpAnyH_take (i := 0) (v := ?_) rfl (by kernel_rfl) (by kernel_rfl) (by kernel_rfl) (fun _ _ _ h => h) (Or.inl ⟨by rfl, ?_⟩) (by assumption) ?_; rotate_left
    · (intro wz hSw; clear hSw; go_simp; first | done | with_reducible rfl)
    try simp only [Act.put, List.getElem_toArray, List.getElem_cons_zero, List.getElem_cons_succ, List.setIfInBounds_toArray, List.set_cons_zero, List.set_cons_succ]
    refine wpAnyH_take (i := 1) (v := ?_) rfl (by kernel_rfl) (by kernel_rfl) (by kernel_rfl) (fun _ _ _ h => h) (Or.inl ⟨by rfl, ?_⟩) (by assumption) ?_; rotate_left
    · (intro wz hSw; clear hSw; go_simp; first | done | with_reducible rfl)
    try simp only [Act.put, List.getElem_toArray, List.getElem_cons_zero, List.getElem_cons_succ, List.setIfInBounds_toArray, List.set_cons_zero, List.set_cons_succ]
    refine wpAnyH_take (i := 2) (v := ?_) rfl (by kernel_rfl) (by kernel_rfl) (by kernel_rfl) (fun _ _ _ h => h) (Or.inl ⟨by rfl, ?_⟩) (by assumption) ?_; rotate_left
    · (intro wz hSw; clear hSw; go_simp; first | done | with_reducible rfl)
    try simp only [Act.put, List.getElem_toArray, List.getElem_cons_zero, List.getElem_cons_succ, List.setIfInBounds_toArray, List.set_cons_zero, List.set_cons_succ]
    refine wpAnyH_take (i := 3) (v := ?_) rfl (by kernel_rfl) (by kernel_rfl) (by kernel_rfl) (fun _ _ _ h => h) (Or.inl ⟨by rfl, ?_⟩) (by assumption) ?_; rotate_left
    · (intro wz hSw; clear hSw; go_simp; first | done | with_reducible rfl)
    try simp only [Act.put, List.getElem_toArray, List.getElem_cons_zero, List.getElem_cons_succ, List.setIfInBounds_toArray, List.set_cons_zero, List.set_cons_succ]
    refine wpAnyH_take (i := 4) (v := ?_) rfl (by kernel_rfl) (by kernel_rfl) (by kernel_rfl) (fun _ _ _ h => h) (Or.inl ⟨by rfl, ?_⟩) (by assumption) ?_; rotate_left
    · (intro wz hSw; clear hSw; go_simp; first | done | with_reducible rfl)
    try simp only [Act.put, List.getElem_toArray, List.getElem_cons_zero, List.getElem_cons_succ, List.setIfInBounds_toArray, List.set_cons_zero, List.set_cons_succ]
    refine wpAnyH_take (i := 5) (v := ?_) rfl (by kernel_rfl) (by kernel_rfl) (by kernel_rfl) (fun _ _ _ h => h) (Or.inl ⟨by rfl, ?_⟩) (by assumption) ?_; rotate_left
    · (intro wz hSw; clear hSw; go_simp; first | done | with_reducible rfl)
    try simp only [Act.put, List.getElem_toArray, List.getElem_cons_zero, List.getElem_cons_succ, List.setIfInBounds_toArray, List.set_cons_zero, List.set_cons_succ]
    refine wpAnyH_take (i := 6) (v := ?_) rfl (by kernel_rfl) (by kernel_rfl) (by kernel_rfl) (fun _ _ _ h => h) (Or.inl ⟨by rfl, ?_⟩) (by assumption) ?_; rotate_left
    · (intro wz hSw; clear hSw; go_simp; first | done | with_reducible rfl)
    try simp only [Act.put, List.getElem_toArray, List.getElem_cons_zero, List.getElem_cons_succ, List.setIfInBounds_toArray, List.set_cons_zero, List.set_cons_succ]
    refine wpAnyH_take (i := 7) (v := ?_) rfl (by kernel_rfl) (by kernel_rfl) (by kernel_rfl) (fun _ _ _ h => h) (Or.inl ⟨by rfl, ?_⟩) (by assumption) ?_; rotate_left
    · (intro wz hSw; clear hSw; go_simp; first | done | with_reducible rfl)
    try simp only [Act.put, List.getElem_toArray, List.getElem_cons_zero, List.getElem_cons_succ, List.setIfInBounds_toArray, List.set_cons_zero, List.set_cons_succ]
    refine wpAnyH_take (i := 8) (v := ?_) rfl (by kernel_rfl) (by kernel_rfl) (by kernel_rfl) (fun _ _ _ h => h) (Or.inl ⟨by rfl, ?_⟩) (by assumption) ?_; rotate_left
    · (intro wz hSw; clear hSw; go_simp; first | done | with_reducible rfl)
    try simp only [Act.put, List.getElem_toArray, List.getElem_cons_zero, List.getElem_cons_succ, List.setIfInBounds_toArray, List.set_cons_zero, List.set_cons_succ]
    refine wpAnyH_take (i := 9) (v := ?_) rfl (by kernel_rfl) (by kernel_rfl) (by kernel_rfl) (fun _ _ _ h => h) (Or.inl ⟨by rfl, ?_⟩) (by assumption) ?_; rotate_left
    · (intro wz hSw; clear hSw; go_simp; first | done | with_reducible rfl)
    try simp only [Act.put, List.getElem_toArray, List.getElem_cons_zero, List.getElem_cons_succ, List.setIfInBounds_toArray, List.set_cons_zero, List.set_cons_succ]
    try simp only [ewk, ewf, ewt]
    refine wpAnyH_ready (rs := [10]) (by kernel_rfl) (by simp) ?_
    refine AllReadyH.cons rfl (fun K hK => ?_) AllReadyH.nil
    rw [if_pos (by rfl)]
    go_simp
    refine hK.out _ _ trivial (fun hHeld => ?_)
    clear hK K
    try simp only [Act.put, List.getElem_toArray, List.getElem_cons_zero, List.getElem_cons_succ, List.setIfInBounds_toArray, List.set_cons_zero, List.set_cons_succ]
    have HXn := hide (XS.new xd #[.int .i64 0, .int .i64 0, .int .i64 0, .int .i64 0, .int .i64 0, .int .i64 0, .int .i64 0, .bool false, .slice none 0 0, .slice none 0 0, .string ⟨#[]⟩, .bool false] 27)
    have hnb := (Below.refl xd.heap.size xd).alloc (Nat.le_refl _) (.cells #[.int .i64 0, .int .i64 0, .int .i64 0, .int .i64 0, .int .i64 0, .int .i64 0, .int .i64 0, .bool false, .slice none 0 0, .slice none 0 0, .string ⟨#[]⟩, .bool false] 27)
    have HZe := hide (HZd.out.on hnb)
    have HBe := hide (HBd.out.trans (hnb.mono HBd.out.size))
    have HCe := hide (HCd.out.kept (hnb.block _ HCd.out.lt))
    clear hnb HZd HBd HCd
    generalize xd.alloc (.cells #[.int .i64 0, .int .i64 0, .int .i64 0, .int .i64 0, .int .i64 0, .int .i64 0, .int .i64 0, .bool false, .slice none 0 0, .slice none 0 0, .string ⟨#[]⟩, .bool false] 27) = xe at HXn HZe HBe HCe ⊢
    generalize xd.heap.size = p at HXn hsd ⊢
    obtain ⟨zz0, zz1, zz2, zz3, zz4, zz5, zz6, zz7, zz8, zz9, zz10, zz11⟩ := xs12 HXn.out
    have y0 := HXn.out.free 0
    have y1 := HXn.out.free 1
    have y2 := HXn.out.free 2
    have y3 := HXn.out.free 3
    have y4 := HXn.out.free 4
    have y5 := HXn.out.free 5
    have y6 := HXn.out.free 6
    have y7 := HXn.out.free 7
    have y8 := HXn.out.free 8
    have y9 := HXn.out.free 9
    have y10 := HXn.out.free 10
    have y11 := HXn.out.free 11
    refine wpAnyH_ready (rs := [11]) (by kernel_rfl) (by simp) ?_
    refine AllReadyH.cons rfl (fun K hK => ?_) AllReadyH.nil
    rw [if_pos (by rfl)]
    go_simp
    obtain ⟨xf, hxf, hRf, hgf⟩ := sets12 HXn.out (.int .i64 (k : Int)) (.int .i64 (f : Int)) (.int .i64 (t : Int)) (.int .i64 0) (.int .i64 0) (.int .i64 0) (.int .i64 0) (.bool false) (.slice none 0 0) (.slice none 0 0) (.string ⟨#[]⟩) (.bool false)
    rw [hxf]
    refine hK.out _ _ trivial (fun hHeld => ?_)
    clear hK K
    try simp only [Act.put, List.getElem_toArray, List.getElem_cons_zero, List.getElem_cons_succ, List.setIfInBounds_toArray, List.set_cons_zero, List.set_cons_succ]
    refine wpAnyH_done (by kernel_rfl) ?_ _
    clear hxf zz0 y0 zz1 y1 zz2 y2 zz3 y3 zz4 y4 zz5 y5 zz6 y6 zz7 y7 zz8 y8 zz9 y9 zz10 y10 zz11 y11
    have HK3 := hide (show SdS w xf (w.heap.size + 1) p s (some rest) #[.int .i64 (k : Int), .int .i64 (f : Int), .int .i64 (t : Int), .int .i64 0, .int .i64 0, .int .i64 0, .int .i64 0, .bool false, .slice none 0 0, .slice none 0 0, .string ⟨#[]⟩, .bool false] from ⟨HCe.out.kept (hgf.block _ HCe.out.lt (fun q => by have := Option.some.inj q; omega)), hRf, HZe.out.kept hgf (fun q => by have := Option.some.inj q; omega), HBe.out.grown hgf HBe.out.size (fun q hq => by cases hq; omega), by omega, by omega⟩)
    clear hRf hgf hHeld HXn HZe HBe HCe
    generalize w.heap.size + 1 = g at HK3 ⊢
    have HKK := HK3.out
    have hgp := HKK.h2
    have hwg := HKK.h1
    clear HKK
    generalize xf = v3 at HK3 ⊢
    go_wp2_with fail
    refine (HV4.out g _ HK3.out.c).mono ?_
    rintro e x4 ⟨rfl, hc, hg⟩
    have G4 := hide (HK3.out.step hc hg)
    have HK4 := hide (show SdS w (x4.setCell ⟨p, 3, none⟩ (.int .i64 (tm : Int))) g p s r4 #[.int .i64 (k : Int), .int .i64 (f : Int), .int .i64 (t : Int), .int .i64 (tm : Int), .int .i64 0, .int .i64 0, .int .i64 0, .bool false, .slice none 0 0, .slice none 0 0, .string ⟨#[]⟩, .bool false] from G4.out.put (G4.out.x.set 3 (.int .i64 (tm : Int))) (blk_grown _ _ _ _))
    clear hc hg HK3
    have f7 := G4.out.x.free 3
    have c7 := G4.out.x.cell 3 (u := .int .i64 0) rfl
    go_wp2_with fail
    clear f7 c7 G4
    generalize x4.setCell ⟨p, 3, none⟩ (.int .i64 (tm : Int)) = v4 at HK4 ⊢
    refine (HV5.out g _ HK4.out.c).mono ?_
    rintro e x5 ⟨rfl, hc, hg⟩
    have G5 := hide (HK4.out.step hc hg)
    have HK5 := hide (show SdS w (x5.setCell ⟨p, 4, none⟩ (.int .i64 (ix : Int))) g p s r5 #[.int .i64 (k : Int), .int .i64 (f : Int), .int .i64 (t : Int), .int .i64 (tm : Int), .int .i64 (ix : Int), .int .i64 0, .int .i64 0, .bool false, .slice none 0 0, .slice none 0 0, .string ⟨#[]⟩, .bool false] from G5.out.put (G5.out.x.set 4 (.int .i64 (ix : Int))) (blk_grown _ _ _ _))
    clear hc hg HK4
    have f7 := G5.out.x.free 4
    have c7 := G5.out.x.cell 4 (u := .int .i64 0) rfl
    go_wp2_with fail
    clear f7 c7 G5
    generalize x5.setCell ⟨p, 4, none⟩ (.int .i64 (ix : Int)) = v5 at HK5 ⊢
    refine (HV6.out g _ HK5.out.c).mono ?_
    rintro e x6 ⟨rfl, hc, hg⟩
    have G6 := hide (HK5.out.step hc hg)
    have HK6 := hide (show SdS w (x6.setCell ⟨p, 5, none⟩ (.int .i64 (lt : Int))) g p s r6 #[.int .i64 (k : Int), .int .i64 (f : Int), .int .i64 (t : Int), .int .i64 (tm : Int), .int .i64 (ix : Int), .int .i64 (lt : Int), .int .i64 0, .bool false, .slice none 0 0, .slice none 0 0, .string ⟨#[]⟩, .bool false] from G6.out.put (G6.out.x.set 5 (.int .i64 (lt : Int))) (blk_grown _ _ _ _))
    clear hc hg HK5
    have f7 := G6.out.x.free 5
    have c7 := G6.out.x.cell 5 (u := .int .i64 0) rfl
    go_wp2_with fail
    clear f7 c7 G6
    generalize x6.setCell ⟨p, 5, none⟩ (.int .i64 (lt : Int)) = v6 at HK6 ⊢
    refine (HV7.out g _ HK6.out.c).mono ?_
    rintro e x7 ⟨rfl, hc, hg⟩
    have G7 := hide (HK6.out.step hc hg)
    have HK7 := hide (show SdS w (x7.setCell ⟨p, 6, none⟩ (.int .i64 (cm : Int))) g p s r7 #[.int .i64 (k : Int), .int .i64 (f : Int), .int .i64 (t : Int), .int .i64 (tm : Int), .int .i64 (ix : Int), .int .i64 (lt : Int), .int .i64 (cm : Int), .bool false, .slice none 0 0, .slice none 0 0, .string ⟨#[]⟩, .bool false] from G7.out.put (G7.out.x.set 6 (.int .i64 (cm : Int))) (blk_grown _ _ _ _))
    clear hc hg HK6
    have f7 := G7.out.x.free 6
    have c7 := G7.out.x.cell 6 (u := .int .i64 0) rfl
    go_wp2_with fail
    clear f7 c7 G7
    generalize x7.setCell ⟨p, 6, none⟩ (.int .i64 (cm : Int)) = v7 at HK7 ⊢
    obtain ⟨X8, hx, hcall⟩ := HF8.out g _ HK7.out.c
    have HX := hide hx
    refine hcall.mono ?_
    rintro e x8 ⟨rfl, hc, hg⟩
    have G8 := hide (HK7.out.step hc hg)
    have HK8 := hide (show SdS w (x8.setCell ⟨p, 7, none⟩ (.bool ok)) g p s r8 #[.int .i64 (k : Int), .int .i64 (f : Int), .int .i64 (t : Int), .int .i64 (tm : Int), .int .i64 (ix : Int), .int .i64 (lt : Int), .int .i64 (cm : Int), .bool ok, .slice none 0 0, .slice none 0 0, .string ⟨#[]⟩, .bool false] from G8.out.put (G8.out.x.set 7 (.bool ok)) (blk_grown _ _ _ _))
    clear hc hg hcall HK7
    have f7 := G8.out.x.free 7
    have c7 := G8.out.x.cell 7 (u := .bool false) rfl
    go_wp2_with fail
    clear f7 c7 G8 hx HX
    generalize x8.setCell ⟨p, 7, none⟩ (.bool ok) = v8 at HK8 ⊢
    obtain ⟨X9, hx, hcall⟩ := HF9.out g _ HK8.out.c
    have HX := hide hx
    refine hcall.mono ?_
    rintro e x9 ⟨rfl, hc, hg⟩
    have G9 := hide (HK8.out.step hc hg)
    have HK9 := hide (show SdS w (x9.setCell ⟨p, 11, none⟩ (.bool la)) g p s r9 #[.int .i64 (k : Int), .int .i64 (f : Int), .int .i64 (t : Int), .int .i64 (tm : Int), .int .i64 (ix : Int), .int .i64 (lt : Int), .int .i64 (cm : Int), .bool ok, .slice none 0 0, .slice none 0 0, .string ⟨#[]⟩, .bool la] from G9.out.put (G9.out.x.set 11 (.bool la)) (blk_grown _ _ _ _))
    clear hc hg hcall HK8
    have f7 := G9.out.x.free 11
    have c7 := G9.out.x.cell 11 (u := .bool false) rfl
    go_wp2_with fail
    clear f7 c7 G9 hx HX
    generalize x9.setCell ⟨p, 11, none⟩ (.bool la) = v9 at HK9 ⊢
    refine (HV10.out g _ HK9.out.c).mono ?_
    rintro e x10 ⟨rfl, hc, hg⟩
    have HK10 := hide (HK9.out.step hc hg)
    clear hc hg HK9 HV4 HV5 HV6 HV7 HF8 HF9 HV10 i0 i1 i2
    go_wp2_with fail
    go_loopw [8] (fun i wr => ∃ (j : Nat) (oa : Option Addr) (cl : Nat), i = .int .i64 (j : Int) ∧ j ≤ n ∧ j ≤ 5 ∧ SdS w wr g p s (itS j r).2 #[.int .i64 (k : Int), .int .i64 (f : Int), .int .i64 (t : Int), .int .i64 (tm : Int), .int .i64 (ix : Int), .int .i64 (lt : Int), .int .i64 (cm : Int), .bool ok, .slice oa j cl, .slice none 0 0, .string ⟨#[]⟩, .bool la] ∧ wr.ownsRow (p + 1) 56 3 (.slice oa j cl) j ((itS j r).1.flatMap ecells)) (fun i _ => 5 - (intOf i).toNat)
    case atStart => exact ⟨0, none, 0, rfl, Nat.zero_le _, by omega, HK10.out, World.ownsRow_nil _ _ _ _⟩
    case round =>
      obtain ⟨j, oa, cl, rfl, hj, hj5, hk, ho⟩ := hrel
      have HK := hide hk
      have HO := hide ho
      have hbad := hk.c.bad
      clear hk ho
      by_cases hlt : j < n
      · have j0 : (j : Int) < (n : Int) := by omega
        cases hb : (itS j r).2.isNone with
        | true =>
          rw [hb] at hbad
          have HSTOP := hide (show Stop15 n r j from ⟨Or.inr (Or.inl (by simpa using hb)), fun q hq => by omega⟩)
          clear hb
          have HES := hide (fun e he => Nat.le_trans (itS_small j r e he) (by omega : (120 : Nat) ≤ 1048576))
          have hel := itS_len j r
          obtain ⟨es, hes⟩ : ∃ es, (itS j r).1 = es := ⟨_, rfl⟩
          obtain ⟨r10, hr10⟩ : ∃ q, (itS j r).2 = q := ⟨_, rfl⟩
          have hsp1 := fun hn => sp_no (HSP.out j) HSTOP.out hn
          rw [hes] at HO HES hel
          rw [hr10] at HK
          rw [hes, hr10] at hsp1
          obtain ⟨lc, r11, hc11⟩ : ∃ q z, shL 1048576 r10 = (q, z) := ⟨_, _, rfl⟩
          obtain ⟨da, r12, hd12⟩ : ∃ q z, shL 1048576 r11 = (q, z) := ⟨_, _, rfl⟩
          have hcs : confS r10 = (confR lc, r11) := by unfold confS; rw [hc11]
          rw [hcs] at hsp1
          simp only at hsp1
          rw [hd12] at hsp1
          simp only at hsp1
          have hcl : lc.length ≤ 1048576 := by have := shL_len15 (most := 1048576) r10; rw [hc11] at this; exact this
          have hdl : da.length ≤ 1048576 := by have := shL_len15 (most := 1048576) r11; rw [hd12] at this; exact this
          have HS11 := hide (fun w hc => HSH.out g r10 w hc)
          rw [hc11] at HS11
          have HS12 := hide (fun w hc => HSH.out g r11 w hc)
          rw [hd12] at HS12
          simp only at HS11 HS12
          have HRC := hide (fun w => specReadConf_any ⟨lc.toArray⟩ (by rw [size_mk8]; omega) w)
          rw [bl_mk8] at HRC
          have hzl := (confR_small lc).1
          have HZW := hide (confR_small lc).2
          have hzr := confR_eq lc
          obtain ⟨zs, hzs⟩ : ∃ zs, confR lc = zs := ⟨_, rfl⟩
          rw [hzs] at hzl HZW hzr hsp1
          obtain ⟨cb, hcb⟩ : ∃ cb, (rdConf lc).2 = cb := ⟨_, rfl⟩
          have hrc : rdConf lc = (zs, cb) := Prod.ext hzr hcb
          rw [hrc] at HRC
          have HSP1 := hide hsp1
          clear hes hr10 hc11 hd12 hcs hzs hcb hzr hrc hsp1 HSTOP
          have HEL := hide hel
          clear hel
          go_wp2_with fail
          refine (HS11.out _ HK.out.c).mono ?_
          rintro e u1 ⟨rfl, hc, hg⟩
          have HKa := hide (HK.out.step hc hg)
          have HOa := hide (own_put15 HO.out hg (by omega))
          clear hc hg HK HO hbad
          go_wp2_with fail
          refine (HRC.out _).mono ?_
          rintro e u2 ⟨gg, cp, rfl, ho2, hb2⟩
          have HKb := hide (HKa.out.low hb2)
          have HOb := hide (own_below HOa.out hb2)
          have HIb := hide (own_put15 (own_base ho2 (show p + 1 ≤ u1.heap.size from HKa.out.x.lt)) (blk_grown u2 p 9 (.slice (some ⟨gg, 0, none⟩) zs.length cp)) (by omega))
          have HOc := hide (own_put15 HOb.out (blk_grown u2 p 9 (.slice (some ⟨gg, 0, none⟩) zs.length cp)) (by omega))
          have HKc := hide (show SdS w (u2.setCell ⟨p, 9, none⟩ (.slice (some ⟨gg, 0, none⟩) zs.length cp)) g p s r11 #[.int .i64 (k : Int), .int .i64 (f : Int), .int .i64 (t : Int), .int .i64 (tm : Int), .int .i64 (ix : Int), .int .i64 (lt : Int), .int .i64 (cm : Int), .bool ok, .slice oa j cl, .slice (some ⟨gg, 0, none⟩) zs.length cp, .string ⟨#[]⟩, .bool la] from HKb.out.put (HKb.out.x.set 9 (.slice (some ⟨gg, 0, none⟩) zs.length cp)) (blk_grown _ _ _ _))
          have f7 := HKb.out.x.free 9
          have c7 := HKb.out.x.cell 9 (u := .slice none 0 0) rfl
          clear ho2 hb2 HKa HOa HOb HKb
          go_wp2_with fail
          clear f7 c7
          generalize u2.setCell ⟨p, 9, none⟩ (.slice (some ⟨gg, 0, none⟩) zs.length cp) = u3 at HKc HOc HIb ⊢
          refine (HS12.out _ HKc.out.c).mono ?_
          rintro e u4 ⟨rfl, hc, hg⟩
          have HKd := hide (HKc.out.step hc hg)
          have HOd := hide (own_put15 (own_put15 HOc.out hg (by omega)) (blk_grown u4 p 10 (.string ⟨da.toArray⟩)) (by omega))
          have HId := hide (own_put15 (own_put15 HIb.out hg (by omega)) (blk_grown u4 p 10 (.string ⟨da.toArray⟩)) (by omega))
          have HKe := hide (show SdS w (u4.setCell ⟨p, 10, none⟩ (.string ⟨da.toArray⟩)) g p s r12 #[.int .i64 (k : Int), .int .i64 (f : Int), .int .i64 (t : Int), .int .i64 (tm : Int), .int .i64 (ix : Int), .int .i64 (lt : Int), .int .i64 (cm : Int), .bool ok, .slice oa j cl, .slice (some ⟨gg, 0, none⟩) zs.length cp, .string ⟨da.toArray⟩, .bool la] from HKd.out.put (HKd.out.x.set 10 (.string ⟨da.toArray⟩)) (blk_grown _ _ _ _))
          have f7 := HKd.out.x.free 10
          have c7 := HKd.out.x.cell 10 (u := .string ⟨#[]⟩) rfl
          clear hc hg HKc HOc HIb HKd
          go_upto_region 20 with fail
          clear f7 c7
          generalize u4.setCell ⟨p, 10, none⟩ (.string ⟨da.toArray⟩) = u5 at HKe HOd HId ⊢
          obtain ⟨k0, k1, k2, k3, k4, k5, k6, k7, k8, k9, k10, k11⟩ := xs12 HKe.out.x
          obtain ⟨_, _, he, hat⟩ := entsAt_own HOd.out
          cases he
          obtain ⟨_, _, he, hbt⟩ := intsAt_of_own HId.out HZW.out
          cases he
          have HAT := hide hat
          have HBT := hide hbt
          clear hat hbt
          have HEC := hide (fun w hat hbt => specEncode_any k f t tm ix lt cm ok oa j cl (some ⟨gg, 0, none⟩) zs.length cp da la es zs hdl w hat hbt HES.out (by omega) (by omega))
          obtain ⟨mt, hmt⟩ : ∃ mt, msgText ⟨k, f, t, tm, ix, lt, cm, ok, es, zs, da, la⟩ = mt := ⟨_, rfl⟩
          rw [hmt] at HEC HSP1
          have HMT := hide hmt
          clear hmt
          cases mt with
          | none =>
            have HR := hide (HSP1.out (by simp))
            simp only [mtV] at HEC
            by_cases hrn : r12 = none
            · have hr1 : r12.isNone = true := by simp [hrn]
              go_wp2_with fail
              refine (HEC.out _ HAT.out HBT.out).mono ?_
              rintro e u6 ⟨rfl, hb6⟩
              have HK6 := hide (HKe.out.low hb6)
              have HO6 := hide (own_below HOd.out hb6)
              have HI6 := hide (own_below HId.out hb6)
              have hbad6 := HK6.out.c.bad
              have HZ4 := hide HK6.out.z
              have HB4 := hide HK6.out.b
              clear hb6 HKe HOd HId k0 k1 k2 k3 k4 k5 k6 k7 k8 k9 k10 k11
              rw [hr1] at hbad6
              have y0 := HZ4.out.free 0
              have y1 := HZ4.out.free 1
              have y2 := HZ4.out.free 2
              have y3 := HZ4.out.free 3
              have y4 := HZ4.out.free 4
              have y5 := HZ4.out.free 5
              have y6 := HZ4.out.free 6
              have y7 := HZ4.out.free 7
              have y8 := HZ4.out.free 8
              have y9 := HZ4.out.free 9
              have y10 := HZ4.out.free 10
              have y11 := HZ4.out.free 11
              obtain ⟨zz0, zz1, zz2, zz3, zz4, zz5, zz6, zz7, zz8, zz9, zz10, zz11⟩ := xs12 HZ4.out
              go_wp2_with fail
              obtain ⟨w9, hw9, hR9, hg9⟩ := sets12 HZ4.out (.int .i64 0) (.int .i64 0) (.int .i64 0) (.int .i64 0) (.int .i64 0) (.int .i64 0) (.int .i64 0) (.bool false) (.slice none 0 0) (.slice none 0 0) (.string ⟨#[]⟩) (.bool false)
              rw [hw9]
              clear hw9
              obtain ⟨q0, q1, q2, q3, q4, q5, q6, q7, q8, q9, q10, q11⟩ := xs12 hR9
              refine bodyPost_ret (v := .tuple #[mgval 0 0 0 0 0 0 0 false (.slice none 0 0) (.slice none 0 0) [] false, .bool false]) (by simp [results, Tryz.results12, go_sem, q0, q1, q2, q3, q4, q5, q6, q7, q8, q9, q10, q11]) rfl ?_
              exact MdPost.zero HR.out (HB4.out.grown hg9 HB4.out.size (fun q hq => by cases hq; omega))
            · have hr1 : r12.isNone = false := by cases r12 with | none => exact absurd rfl hrn | some q => rfl
              go_wp2_with fail
              refine (HEC.out _ HAT.out HBT.out).mono ?_
              rintro e u6 ⟨rfl, hb6⟩
              have HK6 := hide (HKe.out.low hb6)
              have HO6 := hide (own_below HOd.out hb6)
              have HI6 := hide (own_below HId.out hb6)
              have hbad6 := HK6.out.c.bad
              have HZ4 := hide HK6.out.z
              have HB4 := hide HK6.out.b
              clear hb6 HKe HOd HId k0 k1 k2 k3 k4 k5 k6 k7 k8 k9 k10 k11
              rw [hr1] at hbad6
              have y0 := HZ4.out.free 0
              have y1 := HZ4.out.free 1
              have y2 := HZ4.out.free 2
              have y3 := HZ4.out.free 3
              have y4 := HZ4.out.free 4
              have y5 := HZ4.out.free 5
              have y6 := HZ4.out.free 6
              have y7 := HZ4.out.free 7
              have y8 := HZ4.out.free 8
              have y9 := HZ4.out.free 9
              have y10 := HZ4.out.free 10
              have y11 := HZ4.out.free 11
              obtain ⟨zz0, zz1, zz2, zz3, zz4, zz5, zz6, zz7, zz8, zz9, zz10, zz11⟩ := xs12 HZ4.out
              go_wp2_with fail
              obtain ⟨w9, hw9, hR9, hg9⟩ := sets12 HZ4.out (.int .i64 0) (.int .i64 0) (.int .i64 0) (.int .i64 0) (.int .i64 0) (.int .i64 0) (.int .i64 0) (.bool false) (.slice none 0 0) (.slice none 0 0) (.string ⟨#[]⟩) (.bool false)
              rw [hw9]
              clear hw9
              obtain ⟨q0, q1, q2, q3, q4, q5, q6, q7, q8, q9, q10, q11⟩ := xs12 hR9
              refine bodyPost_ret (v := .tuple #[mgval 0 0 0 0 0 0 0 false (.slice none 0 0) (.slice none 0 0) [] false, .bool false]) (by simp [results, Tryz.results12, go_sem, q0, q1, q2, q3, q4, q5, q6, q7, q8, q9, q10, q11]) rfl ?_
              exact MdPost.zero HR.out (HB4.out.grown hg9 HB4.out.size (fun q hq => by cases hq; omega))
          | some x =>
            simp only [mtV] at HEC
            by_cases hrn : r12 = none
            · have HR := hide (HSP1.out (by simp [hrn]))
              have hr1 : r12.isNone = true := by simp [hrn]
              go_wp2_with fail
              refine (HEC.out _ HAT.out HBT.out).mono ?_
              rintro e u6 ⟨rfl, hb6⟩
              have HK6 := hide (HKe.out.low hb6)
              have HO6 := hide (own_below HOd.out hb6)
              have HI6 := hide (own_below HId.out hb6)
              have hbad6 := HK6.out.c.bad
              have HZ4 := hide HK6.out.z
              have HB4 := hide HK6.out.b
              clear hb6 HKe HOd HId k0 k1 k2 k3 k4 k5 k6 k7 k8 k9 k10 k11
              rw [hr1] at hbad6
              have y0 := HZ4.out.free 0
              have y1 := HZ4.out.free 1
              have y2 := HZ4.out.free 2
              have y3 := HZ4.out.free 3
              have y4 := HZ4.out.free 4
              have y5 := HZ4.out.free 5
              have y6 := HZ4.out.free 6
              have y7 := HZ4.out.free 7
              have y8 := HZ4.out.free 8
              have y9 := HZ4.out.free 9
              have y10 := HZ4.out.free 10
              have y11 := HZ4.out.free 11
              obtain ⟨zz0, zz1, zz2, zz3, zz4, zz5, zz6, zz7, zz8, zz9, zz10, zz11⟩ := xs12 HZ4.out
              go_wp2_with fail
              obtain ⟨w9, hw9, hR9, hg9⟩ := sets12 HZ4.out (.int .i64 0) (.int .i64 0) (.int .i64 0) (.int .i64 0) (.int .i64 0) (.int .i64 0) (.int .i64 0) (.bool false) (.slice none 0 0) (.slice none 0 0) (.string ⟨#[]⟩) (.bool false)
              rw [hw9]
              clear hw9
              obtain ⟨q0, q1, q2, q3, q4, q5, q6, q7, q8, q9, q10, q11⟩ := xs12 hR9
              refine bodyPost_ret (v := .tuple #[mgval 0 0 0 0 0 0 0 false (.slice none 0 0) (.slice none 0 0) [] false, .bool false]) (by simp [results, Tryz.results12, go_sem, q0, q1, q2, q3, q4, q5, q6, q7, q8, q9, q10, q11]) rfl ?_
              exact MdPost.zero HR.out (HB4.out.grown hg9 HB4.out.size (fun q hq => by cases hq; omega))
            · have hr1 : r12.isNone = false := by cases r12 with | none => exact absurd rfl hrn | some q => rfl
              by_cases hx : x = bl s
              · have HR := hide (sp_yes (HMT.out.trans (by rw [hx])))
                have hse : (⟨x.toArray⟩ : ByteArray) = s := by rw [hx]
                rw [hse] at HEC
                clear hse
                go_wp2_with fail
                refine (HEC.out _ HAT.out HBT.out).mono ?_
                rintro e u6 ⟨rfl, hb6⟩
                have HK6 := hide (HKe.out.low hb6)
                have HO6 := hide (own_below HOd.out hb6)
                have HI6 := hide (own_below HId.out hb6)
                have hbad6 := HK6.out.c.bad
                have HZ4 := hide HK6.out.z
                have HB4 := hide HK6.out.b
                clear hb6 HKe HOd HId k0 k1 k2 k3 k4 k5 k6 k7 k8 k9 k10 k11
                rw [hr1] at hbad6
                obtain ⟨k0, k1, k2, k3, k4, k5, k6, k7, k8, k9, k10, k11⟩ := xs12 HK6.out.x
                have y0 := HZ4.out.free 0
                have y1 := HZ4.out.free 1
                have y2 := HZ4.out.free 2
                have y3 := HZ4.out.free 3
                have y4 := HZ4.out.free 4
                have y5 := HZ4.out.free 5
                have y6 := HZ4.out.free 6
                have y7 := HZ4.out.free 7
                have y8 := HZ4.out.free 8
                have y9 := HZ4.out.free 9
                have y10 := HZ4.out.free 10
                have y11 := HZ4.out.free 11
                obtain ⟨zz0, zz1, zz2, zz3, zz4, zz5, zz6, zz7, zz8, zz9, zz10, zz11⟩ := xs12 HZ4.out
                go_wp2_with fail
                obtain ⟨w9, hw9, hR9, hg9⟩ := sets12 HZ4.out (.int .i64 (k : Int)) (.int .i64 (f : Int)) (.int .i64 (t : Int)) (.int .i64 (tm : Int)) (.int .i64 (ix : Int)) (.int .i64 (lt : Int)) (.int .i64 (cm : Int)) (.bool ok) (.slice oa j cl) (.slice (some ⟨gg, 0, none⟩) zs.length cp) (.string ⟨da.toArray⟩) (.bool la)
                rw [hw9]
                clear hw9
                obtain ⟨q0, q1, q2, q3, q4, q5, q6, q7, q8, q9, q10, q11⟩ := xs12 hR9
                refine bodyPost_ret (v := .tuple #[mgval k f t tm ix lt cm ok (.slice oa j cl) (.slice (some ⟨gg, 0, none⟩) zs.length cp) da la, .bool true]) (by simp [results, Tryz.results12, go_sem, q0, q1, q2, q3, q4, q5, q6, q7, q8, q9, q10, q11]) rfl ?_
                refine MdPost.found HR.out ⟨?_, own_base (own_put15 HI6.out hg9 (by omega)) (by omega)⟩ (HB4.out.grown hg9 HB4.out.size (fun q hq => by cases hq; omega))
                have h9 := own_base (own_put15 HO6.out hg9 (by omega)) (show w.heap.size ≤ p + 1 by omega)
                rw [← HEL.out] at h9
                simpa [HEL.out] using h9
              · have HR := hide (HSP1.out (fun q => hx (Option.some.inj q.2)))
                have hne : ((⟨x.toArray⟩ : ByteArray).toList == s.toList) = false := by
                  rw [Lib.toList_data, Lib.toList_data, beq_eq_false_iff_ne]
                  exact fun q => hx (by simpa [bl] using q)
                generalize (⟨x.toArray⟩ : ByteArray) = XX at HEC hne
                go_wp2_with fail
                refine (HEC.out _ HAT.out HBT.out).mono ?_
                rintro e u6 ⟨rfl, hb6⟩
                have HK6 := hide (HKe.out.low hb6)
                have HO6 := hide (own_below HOd.out hb6)
                have HI6 := hide (own_below HId.out hb6)
                have hbad6 := HK6.out.c.bad
                have HZ4 := hide HK6.out.z
                have HB4 := hide HK6.out.b
                clear hb6 HKe HOd HId k0 k1 k2 k3 k4 k5 k6 k7 k8 k9 k10 k11
                rw [hr1] at hbad6
                have y0 := HZ4.out.free 0
                have y1 := HZ4.out.free 1
                have y2 := HZ4.out.free 2
                have y3 := HZ4.out.free 3
                have y4 := HZ4.out.free 4
                have y5 := HZ4.out.free 5
                have y6 := HZ4.out.free 6
                have y7 := HZ4.out.free 7
                have y8 := HZ4.out.free 8
                have y9 := HZ4.out.free 9
                have y10 := HZ4.out.free 10
                have y11 := HZ4.out.free 11
                obtain ⟨zz0, zz1, zz2, zz3, zz4, zz5, zz6, zz7, zz8, zz9, zz10, zz11⟩ := xs12 HZ4.out
                go_wp2_with fail
                obtain ⟨w9, hw9, hR9, hg9⟩ := sets12 HZ4.out (.int .i64 0) (.int .i64 0) (.int .i64 0) (.int .i64 0) (.int .i64 0) (.int .i64 0) (.int .i64 0) (.bool false) (.slice none 0 0) (.slice none 0 0) (.string ⟨#[]⟩) (.bool false)
                rw [hw9]
                clear hw9
                obtain ⟨q0, q1, q2, q3, q4, q5, q6, q7, q8, q9, q10, q11⟩ := xs12 hR9
                refine bodyPost_ret (v := .tuple #[mgval 0 0 0 0 0 0 0 false (.slice none 0 0) (.slice none 0 0) [] false, .bool false]) (by simp [results, Tryz.results12, go_sem, q0, q1, q2, q3, q4, q5, q6, q7, q8, q9, q10, q11]) rfl ?_
                exact MdPost.zero HR.out (HB4.out.grown hg9 HB4.out.size (fun q hq => by cases hq; omega))
        | false =>
          rw [hb] at hbad
          by_cases h4 : j ≤ 4
          · skip
            have h4i : (j : Int) ≤ 4 := by omega
            clear hb
            have hSt : itS (j + 1) r = ((itS j r).1 ++ [(entS (itS j r).2).1], (entS (itS j r).2).2) := rfl
            have hent : entS (itS j r).2 = ((reE (shL 1048576 (itS j r).2).1).2.1, (shL 1048576 (itS j r).2).2) := rfl
            obtain ⟨r10, hr10⟩ : ∃ q, (itS j r).2 = q := ⟨_, rfl⟩
            obtain ⟨es, hes⟩ : ∃ q, (itS j r).1 = q := ⟨_, rfl⟩
            rw [hr10] at HK hSt hent
            rw [hes] at HO hSt
            obtain ⟨l, r11, hc11⟩ : ∃ q z, shL 1048576 r10 = (q, z) := ⟨_, _, rfl⟩
            have hcl : l.length ≤ 1048576 := by have := shL_len15 (most := 1048576) r10; rw [hc11] at this; exact this
            have HS11 := hide (fun w hc => HSH.out g r10 w hc)
            rw [hc11] at HS11 hent
            simp only at HS11 hent
            have HRE := hide (fun w => specReadEntry_any ⟨l.toArray⟩ (by rw [size_mk8]; omega) w)
            rw [bl_mk8, reVal_reE] at HRE
            obtain ⟨xi, E, okb, hre⟩ : ∃ x E okb, reE l = (x, E, okb) := ⟨_, _, _, rfl⟩
            rw [hre] at HRE hent
            obtain ⟨et, ek, ed⟩ := E
            simp only at HRE hent
            rw [hent] at hSt
            simp only at hSt
            have HST := hide hSt
            clear hSt hent hre hc11 hr10 hes
            go_wp2_with fail
            refine (HS11.out _ HK.out.c).mono ?_
            rintro e u1 ⟨rfl, hc, hg⟩
            have HKa := hide (HK.out.step hc hg)
            have HOa := hide (own_put15 HO.out hg (by omega))
            clear hc hg HK HO hbad
            go_wp2_with fail
            refine (HRE.out _).mono ?_
            rintro e u2 ⟨rfl, hb2⟩
            have HKb := hide (HKa.out.low hb2)
            have HOb := hide (own_below HOa.out hb2)
            clear hb2 HKa HOa
            have HXc := hide (XS.new u2 #[.int .i64 et, .int .i64 ek, .string ed] 56)
            have hnb := (Below.refl u2.heap.size u2).alloc (Nat.le_refl _) (.cells #[.int .i64 et, .int .i64 ek, .string ed] 56)
            have HKc := hide (HKb.out.low hnb)
            have HOc := hide (own_below HOb.out hnb)
            have hpl := HKb.out.x.lt
            clear hnb HKb HOb
            obtain ⟨x0, x1, x2⟩ : (u2.alloc (.cells #[.int .i64 et, .int .i64 ek, .string ed] 56)).cell? ⟨u2.heap.size, 0, none⟩ = some (.int .i64 et) ∧ (u2.alloc (.cells #[.int .i64 et, .int .i64 ek, .string ed] 56)).cell? ⟨u2.heap.size, 1, none⟩ = some (.int .i64 ek) ∧ (u2.alloc (.cells #[.int .i64 et, .int .i64 ek, .string ed] 56)).cell? ⟨u2.heap.size, 2, none⟩ = some (.string ed) := ⟨HXc.out.cell 0 rfl, HXc.out.cell 1 rfl, HXc.out.cell 2 rfl⟩
            have c8 := HKc.out.x.cell 8 (u := .slice oa j cl) rfl
            have hcz := HKc.out.x.lt
            go_upto_region 17 with fail
            generalize u2.alloc (.cells #[.int .i64 et, .int .i64 ek, .string ed] 56) = u3 at HKc HOc HXc x0 x1 x2 c8 hcz ⊢
            generalize u2.heap.size = pe at HXc x0 x1 x2 hpl ⊢
            go_wp2_with (at_builtin; refine wpList_push15 (cs := #[.int .i64 et, .int .i64 ek, .string ed]) rfl _ _ 24 rfl (by decide) Tryz.underlying24 infoIEz rfl rfl HOc.out rfl rfl (by simp [Value.oneCell']) (by omega) (by unfold maxLen; omega) (by omega) ?_; intro v5 u5 ho5 hg5; obtain ⟨o5, cc5, hv5⟩ := row_form ho5; subst hv5; have hpne : (Value.slice oa j cl).ownBlock ≠ some p := fun q => Nat.not_succ_le_self p (HOc.out.lt p q).1; have HX5 := hide (HKc.out.x.kept hg5 hpne); have y8 := HX5.out.free 8; have c85 := HX5.out.cell 8 (u := .slice oa j cl) rfl)
            have HOd := hide (own_put15 ho5 (blk_grown u5 p 8 (.slice o5 (j + 1) cc5)) (by omega))
            have hgne : (Value.slice oa j cl).ownBlock ≠ some g := fun q => by (have := HOc.out.lt g q; omega)
            have hwne : (Value.slice oa j cl).ownBlock ≠ some w.heap.size := fun q => by (have := HOc.out.lt w.heap.size q; omega)
            have HKd := hide (show SdS w (u5.setCell ⟨p, 8, none⟩ (.slice o5 (j + 1) cc5)) g p s r11 #[.int .i64 (k : Int), .int .i64 (f : Int), .int .i64 (t : Int), .int .i64 (tm : Int), .int .i64 (ix : Int), .int .i64 (lt : Int), .int .i64 (cm : Int), .bool ok, .slice o5 (j + 1) cc5, .slice none 0 0, .string ⟨#[]⟩, .bool la] from SdS.put (cs := #[.int .i64 (k : Int), .int .i64 (f : Int), .int .i64 (t : Int), .int .i64 (tm : Int), .int .i64 (ix : Int), .int .i64 (lt : Int), .int .i64 (cm : Int), .bool ok, .slice oa j cl, .slice none 0 0, .string ⟨#[]⟩, .bool la]) ⟨HKc.out.c.kept (hg5.block g HKc.out.c.lt (fun q => hgne q.symm)), HX5.out, HKc.out.z.kept hg5 hwne, HKc.out.b.grown hg5 HKc.out.b.size (fun q hq => by (have := HOc.out.lt q hq; omega)), hwg, hgp⟩ (HX5.out.set 8 (.slice o5 (j + 1) cc5)) (blk_grown _ _ _ _))
            clear ho5 hg5 HKc HOc HX5 x0 x1 x2 c8
            go_roundw
            case rel =>
              refine ⟨j + 1, o5, cc5, by go_num, by omega, by omega, ?_, ?_⟩
              · rw [HST.out]; exact HKd.out
              · rw [HST.out]; simp only [List.flatMap_append, List.flatMap_cons, List.flatMap_nil, List.append_nil]; exact HOd.out
            case measure => simp [intOf]; omega
          · have h4i : ¬ (j : Int) ≤ 4 := by omega
            have HSTOP := hide (show Stop15 n r j from ⟨Or.inr (Or.inr (by omega)), fun q hq => by omega⟩)
            clear hb
            have HES := hide (fun e he => Nat.le_trans (itS_small j r e he) (by omega : (120 : Nat) ≤ 1048576))
            have hel := itS_len j r
            obtain ⟨es, hes⟩ : ∃ es, (itS j r).1 = es := ⟨_, rfl⟩
            obtain ⟨r10, hr10⟩ : ∃ q, (itS j r).2 = q := ⟨_, rfl⟩
            have hsp1 := fun hn => sp_no (HSP.out j) HSTOP.out hn
            rw [hes] at HO HES hel
            rw [hr10] at HK
            rw [hes, hr10] at hsp1
            obtain ⟨lc, r11, hc11⟩ : ∃ q z, shL 1048576 r10 = (q, z) := ⟨_, _, rfl⟩
            obtain ⟨da, r12, hd12⟩ : ∃ q z, shL 1048576 r11 = (q, z) := ⟨_, _, rfl⟩
            have hcs : confS r10 = (confR lc, r11) := by unfold confS; rw [hc11]
            rw [hcs] at hsp1
            simp only at hsp1
            rw [hd12] at hsp1
            simp only at hsp1
            have hcl : lc.length ≤ 1048576 := by have := shL_len15 (most := 1048576) r10; rw [hc11] at this; exact this
            have hdl : da.length ≤ 1048576 := by have := shL_len15 (most := 1048576) r11; rw [hd12] at this; exact this
            have HS11 := hide (fun w hc => HSH.out g r10 w hc)
            rw [hc11] at HS11
            have HS12 := hide (fun w hc => HSH.out g r11 w hc)
            rw [hd12] at HS12
            simp only at HS11 HS12
            have HRC := hide (fun w => specReadConf_any ⟨lc.toArray⟩ (by rw [size_mk8]; omega) w)
            rw [bl_mk8] at HRC
            have hzl := (confR_small lc).1
            have HZW := hide (confR_small lc).2
            have hzr := confR_eq lc
            obtain ⟨zs, hzs⟩ : ∃ zs, confR lc = zs := ⟨_, rfl⟩
            rw [hzs] at hzl HZW hzr hsp1
            obtain ⟨cb, hcb⟩ : ∃ cb, (rdConf lc).2 = cb := ⟨_, rfl⟩
            have hrc : rdConf lc = (zs, cb) := Prod.ext hzr hcb
            rw [hrc] at HRC
            have HSP1 := hide hsp1
            clear hes hr10 hc11 hd12 hcs hzs hcb hzr hrc hsp1 HSTOP
            have HEL := hide hel
            clear hel
            go_wp2_with fail
            refine (HS11.out _ HK.out.c).mono ?_
            rintro e u1 ⟨rfl, hc, hg⟩
            have HKa := hide (HK.out.step hc hg)
            have HOa := hide (own_put15 HO.out hg (by omega))
            clear hc hg HK HO hbad
            go_wp2_with fail
            refine (HRC.out _).mono ?_
            rintro e u2 ⟨gg, cp, rfl, ho2, hb2⟩
            have HKb := hide (HKa.out.low hb2)
            have HOb := hide (own_below HOa.out hb2)
            have HIb := hide (own_put15 (own_base ho2 (show p + 1 ≤ u1.heap.size from HKa.out.x.lt)) (blk_grown u2 p 9 (.slice (some ⟨gg, 0, none⟩) zs.length cp)) (by omega))
            have HOc := hide (own_put15 HOb.out (blk_grown u2 p 9 (.slice (some ⟨gg, 0, none⟩) zs.length cp)) (by omega))
            have HKc := hide (show SdS w (u2.setCell ⟨p, 9, none⟩ (.slice (some ⟨gg, 0, none⟩) zs.length cp)) g p s r11 #[.int .i64 (k : Int), .int .i64 (f : Int), .int .i64 (t : Int), .int .i64 (tm : Int), .int .i64 (ix : Int), .int .i64 (lt : Int), .int .i64 (cm : Int), .bool ok, .slice oa j cl, .slice (some ⟨gg, 0, none⟩) zs.length cp, .string ⟨#[]⟩, .bool la] from HKb.out.put (HKb.out.x.set 9 (.slice (some ⟨gg, 0, none⟩) zs.length cp)) (blk_grown _ _ _ _))
            have f7 := HKb.out.x.free 9
            have c7 := HKb.out.x.cell 9 (u := .slice none 0 0) rfl
            clear ho2 hb2 HKa HOa HOb HKb
            go_wp2_with fail
            clear f7 c7
            generalize u2.setCell ⟨p, 9, none⟩ (.slice (some ⟨gg, 0, none⟩) zs.length cp) = u3 at HKc HOc HIb ⊢
            refine (HS12.out _ HKc.out.c).mono ?_
            rintro e u4 ⟨rfl, hc, hg⟩
            have HKd := hide (HKc.out.step hc hg)
            have HOd := hide (own_put15 (own_put15 HOc.out hg (by omega)) (blk_grown u4 p 10 (.string ⟨da.toArray⟩)) (by omega))
            have HId := hide (own_put15 (own_put15 HIb.out hg (by omega)) (blk_grown u4 p 10 (.string ⟨da.toArray⟩)) (by omega))
            have HKe := hide (show SdS w (u4.setCell ⟨p, 10, none⟩ (.string ⟨da.toArray⟩)) g p s r12 #[.int .i64 (k : Int), .int .i64 (f : Int), .int .i64 (t : Int), .int .i64 (tm : Int), .int .i64 (ix : Int), .int .i64 (lt : Int), .int .i64 (cm : Int), .bool ok, .slice oa j cl, .slice (some ⟨gg, 0, none⟩) zs.length cp, .string ⟨da.toArray⟩, .bool la] from HKd.out.put (HKd.out.x.set 10 (.string ⟨da.toArray⟩)) (blk_grown _ _ _ _))
            have f7 := HKd.out.x.free 10
            have c7 := HKd.out.x.cell 10 (u := .string ⟨#[]⟩) rfl
            clear hc hg HKc HOc HIb HKd
            go_upto_region 20 with fail
            clear f7 c7
            generalize u4.setCell ⟨p, 10, none⟩ (.string ⟨da.toArray⟩) = u5 at HKe HOd HId ⊢
            obtain ⟨k0, k1, k2, k3, k4, k5, k6, k7, k8, k9, k10, k11⟩ := xs12 HKe.out.x
            obtain ⟨_, _, he, hat⟩ := entsAt_own HOd.out
            cases he
            obtain ⟨_, _, he, hbt⟩ := intsAt_of_own HId.out HZW.out
            cases he
            have HAT := hide hat
            have HBT := hide hbt
            clear hat hbt
            have HEC := hide (fun w hat hbt => specEncode_any k f t tm ix lt cm ok oa j cl (some ⟨gg, 0, none⟩) zs.length cp da la es zs hdl w hat hbt HES.out (by omega) (by omega))
            obtain ⟨mt, hmt⟩ : ∃ mt, msgText ⟨k, f, t, tm, ix, lt, cm, ok, es, zs, da, la⟩ = mt := ⟨_, rfl⟩
            rw [hmt] at HEC HSP1
            have HMT := hide hmt
            clear hmt
            cases mt with
            | none =>
              have HR := hide (HSP1.out (by simp))
              simp only [mtV] at HEC
              by_cases hrn : r12 = none
              · have hr1 : r12.isNone = true := by simp [hrn]
                go_wp2_with fail
                refine (HEC.out _ HAT.out HBT.out).mono ?_
                rintro e u6 ⟨rfl, hb6⟩
                have HK6 := hide (HKe.out.low hb6)
                have HO6 := hide (own_below HOd.out hb6)
                have HI6 := hide (own_below HId.out hb6)
                have hbad6 := HK6.out.c.bad
                have HZ4 := hide HK6.out.z
                have HB4 := hide HK6.out.b
                clear hb6 HKe HOd HId k0 k1 k2 k3 k4 k5 k6 k7 k8 k9 k10 k11
                rw [hr1] at hbad6
                have y0 := HZ4.out.free 0
                have y1 := HZ4.out.free 1
                have y2 := HZ4.out.free 2
                have y3 := HZ4.out.free 3
                have y4 := HZ4.out.free 4
                have y5 := HZ4.out.free 5
                have y6 := HZ4.out.free 6
                have y7 := HZ4.out.free 7
                have y8 := HZ4.out.free 8
                have y9 := HZ4.out.free 9
                have y10 := HZ4.out.free 10
                have y11 := HZ4.out.free 11
                obtain ⟨zz0, zz1, zz2, zz3, zz4, zz5, zz6, zz7, zz8, zz9, zz10, zz11⟩ := xs12 HZ4.out
                go_wp2_with fail
                obtain ⟨w9, hw9, hR9, hg9⟩ := sets12 HZ4.out (.int .i64 0) (.int .i64 0) (.int .i64 0) (.int .i64 0) (.int .i64 0) (.int .i64 0) (.int .i64 0) (.bool false) (.slice none 0 0) (.slice none 0 0) (.string ⟨#[]⟩) (.bool false)
                rw [hw9]
                clear hw9
                obtain ⟨q0, q1, q2, q3, q4, q5, q6, q7, q8, q9, q10, q11⟩ := xs12 hR9
                refine bodyPost_ret (v := .tuple #[mgval 0 0 0 0 0 0 0 false (.slice none 0 0) (.slice none 0 0) [] false, .bool false]) (by simp [results, Tryz.results12, go_sem, q0, q1, q2, q3, q4, q5, q6, q7, q8, q9, q10, q11]) rfl ?_
                exact MdPost.zero HR.out (HB4.out.grown hg9 HB4.out.size (fun q hq => by cases hq; omega))
              · have hr1 : r12.isNone = false := by cases r12 with | none => exact absurd rfl hrn | some q => rfl
                go_wp2_with fail
                refine (HEC.out _ HAT.out HBT.out).mono ?_
                rintro e u6 ⟨rfl, hb6⟩
                have HK6 := hide (HKe.out.low hb6)
                have HO6 := hide (own_below HOd.out hb6)
                have HI6 := hide (own_below HId.out hb6)
                have hbad6 := HK6.out.c.bad
                have HZ4 := hide HK6.out.z
                have HB4 := hide HK6.out.b
                clear hb6 HKe HOd HId k0 k1 k2 k3 k4 k5 k6 k7 k8 k9 k10 k11
                rw [hr1] at hbad6
                have y0 := HZ4.out.free 0
                have y1 := HZ4.out.free 1
                have y2 := HZ4.out.free 2
                have y3 := HZ4.out.free 3
                have y4 := HZ4.out.free 4
                have y5 := HZ4.out.free 5
                have y6 := HZ4.out.free 6
                have y7 := HZ4.out.free 7
                have y8 := HZ4.out.free 8
                have y9 := HZ4.out.free 9
                have y10 := HZ4.out.free 10
                have y11 := HZ4.out.free 11
                obtain ⟨zz0, zz1, zz2, zz3, zz4, zz5, zz6, zz7, zz8, zz9, zz10, zz11⟩ := xs12 HZ4.out
                go_wp2_with fail
                obtain ⟨w9, hw9, hR9, hg9⟩ := sets12 HZ4.out (.int .i64 0) (.int .i64 0) (.int .i64 0) (.int .i64 0) (.int .i64 0) (.int .i64 0) (.int .i64 0) (.bool false) (.slice none 0 0) (.slice none 0 0) (.string ⟨#[]⟩) (.bool false)
                rw [hw9]
                clear hw9
                obtain ⟨q0, q1, q2, q3, q4, q5, q6, q7, q8, q9, q10, q11⟩ := xs12 hR9
                refine bodyPost_ret (v := .tuple #[mgval 0 0 0 0 0 0 0 false (.slice none 0 0) (.slice none 0 0) [] false, .bool false]) (by simp [results, Tryz.results12, go_sem, q0, q1, q2, q3, q4, q5, q6, q7, q8, q9, q10, q11]) rfl ?_
                exact MdPost.zero HR.out (HB4.out.grown hg9 HB4.out.size (fun q hq => by cases hq; omega))
            | some x =>
              simp only [mtV] at HEC
              by_cases hrn : r12 = none
              · have HR := hide (HSP1.out (by simp [hrn]))
                have hr1 : r12.isNone = true := by simp [hrn]
                go_wp2_with fail
                refine (HEC.out _ HAT.out HBT.out).mono ?_
                rintro e u6 ⟨rfl, hb6⟩
                have HK6 := hide (HKe.out.low hb6)
                have HO6 := hide (own_below HOd.out hb6)
                have HI6 := hide (own_below HId.out hb6)
                have hbad6 := HK6.out.c.bad
                have HZ4 := hide HK6.out.z
                have HB4 := hide HK6.out.b
                clear hb6 HKe HOd HId k0 k1 k2 k3 k4 k5 k6 k7 k8 k9 k10 k11
                rw [hr1] at hbad6
                have y0 := HZ4.out.free 0
                have y1 := HZ4.out.free 1
                have y2 := HZ4.out.free 2
                have y3 := HZ4.out.free 3
                have y4 := HZ4.out.free 4
                have y5 := HZ4.out.free 5
                have y6 := HZ4.out.free 6
                have y7 := HZ4.out.free 7
                have y8 := HZ4.out.free 8
                have y9 := HZ4.out.free 9
                have y10 := HZ4.out.free 10
                have y11 := HZ4.out.free 11
                obtain ⟨zz0, zz1, zz2, zz3, zz4, zz5, zz6, zz7, zz8, zz9, zz10, zz11⟩ := xs12 HZ4.out
                go_wp2_with fail
                obtain ⟨w9, hw9, hR9, hg9⟩ := sets12 HZ4.out (.int .i64 0) (.int .i64 0) (.int .i64 0) (.int .i64 0) (.int .i64 0) (.int .i64 0) (.int .i64 0) (.bool false) (.slice none 0 0) (.slice none 0 0) (.string ⟨#[]⟩) (.bool false)
                rw [hw9]
                clear hw9
                obtain ⟨q0, q1, q2, q3, q4, q5, q6, q7, q8, q9, q10, q11⟩ := xs12 hR9
                refine bodyPost_ret (v := .tuple #[mgval 0 0 0 0 0 0 0 false (.slice none 0 0) (.slice none 0 0) [] false, .bool false]) (by simp [results, Tryz.results12, go_sem, q0, q1, q2, q3, q4, q5, q6, q7, q8, q9, q10, q11]) rfl ?_
                exact MdPost.zero HR.out (HB4.out.grown hg9 HB4.out.size (fun q hq => by cases hq; omega))
              · have hr1 : r12.isNone = false := by cases r12 with | none => exact absurd rfl hrn | some q => rfl
                by_cases hx : x = bl s
                · have HR := hide (sp_yes (HMT.out.trans (by rw [hx])))
                  have hse : (⟨x.toArray⟩ : ByteArray) = s := by rw [hx]
                  rw [hse] at HEC
                  clear hse
                  go_wp2_with fail
                  refine (HEC.out _ HAT.out HBT.out).mono ?_
                  rintro e u6 ⟨rfl, hb6⟩
                  have HK6 := hide (HKe.out.low hb6)
                  have HO6 := hide (own_below HOd.out hb6)
                  have HI6 := hide (own_below HId.out hb6)
                  have hbad6 := HK6.out.c.bad
                  have HZ4 := hide HK6.out.z
                  have HB4 := hide HK6.out.b
                  clear hb6 HKe HOd HId k0 k1 k2 k3 k4 k5 k6 k7 k8 k9 k10 k11
                  rw [hr1] at hbad6
                  obtain ⟨k0, k1, k2, k3, k4, k5, k6, k7, k8, k9, k10, k11⟩ := xs12 HK6.out.x
                  have y0 := HZ4.out.free 0
                  have y1 := HZ4.out.free 1
                  have y2 := HZ4.out.free 2
                  have y3 := HZ4.out.free 3
                  have y4 := HZ4.out.free 4
                  have y5 := HZ4.out.free 5
                  have y6 := HZ4.out.free 6
                  have y7 := HZ4.out.free 7
                  have y8 := HZ4.out.free 8
                  have y9 := HZ4.out.free 9
                  have y10 := HZ4.out.free 10
                  have y11 := HZ4.out.free 11
                  obtain ⟨zz0, zz1, zz2, zz3, zz4, zz5, zz6, zz7, zz8, zz9, zz10, zz11⟩ := xs12 HZ4.out
                  go_wp2_with fail
                  obtain ⟨w9, hw9, hR9, hg9⟩ := sets12 HZ4.out (.int .i64 (k : Int)) (.int .i64 (f : Int)) (.int .i64 (t : Int)) (.int .i64 (tm : Int)) (.int .i64 (ix : Int)) (.int .i64 (lt : Int)) (.int .i64 (cm : Int)) (.bool ok) (.slice oa j cl) (.slice (some ⟨gg, 0, none⟩) zs.length cp) (.string ⟨da.toArray⟩) (.bool la)
                  rw [hw9]
                  clear hw9
                  obtain ⟨q0, q1, q2, q3, q4, q5, q6, q7, q8, q9, q10, q11⟩ := xs12 hR9
                  refine bodyPost_ret (v := .tuple #[mgval k f t tm ix lt cm ok (.slice oa j cl) (.slice (some ⟨gg, 0, none⟩) zs.length cp) da la, .bool true]) (by simp [results, Tryz.results12, go_sem, q0, q1, q2, q3, q4, q5, q6, q7, q8, q9, q10, q11]) rfl ?_
                  refine MdPost.found HR.out ⟨?_, own_base (own_put15 HI6.out hg9 (by omega)) (by omega)⟩ (HB4.out.grown hg9 HB4.out.size (fun q hq => by cases hq; omega))
                  have h9 := own_base (own_put15 HO6.out hg9 (by omega)) (show w.heap.size ≤ p + 1 by omega)
                  rw [← HEL.out] at h9
                  simpa [HEL.out] using h9
                · have HR := hide (HSP1.out (fun q => hx (Option.some.inj q.2)))
                  have hne : ((⟨x.toArray⟩ : ByteArray).toList == s.toList) = false := by
                    rw [Lib.toList_data, Lib.toList_data, beq_eq_false_iff_ne]
                    exact fun q => hx (by simpa [bl] using q)
                  generalize (⟨x.toArray⟩ : ByteArray) = XX at HEC hne
                  go_wp2_with fail
                  refine (HEC.out _ HAT.out HBT.out).mono ?_
                  rintro e u6 ⟨rfl, hb6⟩
                  have HK6 := hide (HKe.out.low hb6)
                  have HO6 := hide (own_below HOd.out hb6)
                  have HI6 := hide (own_below HId.out hb6)
                  have hbad6 := HK6.out.c.bad
                  have HZ4 := hide HK6.out.z
                  have HB4 := hide HK6.out.b
                  clear hb6 HKe HOd HId k0 k1 k2 k3 k4 k5 k6 k7 k8 k9 k10 k11
                  rw [hr1] at hbad6
                  have y0 := HZ4.out.free 0
                  have y1 := HZ4.out.free 1
                  have y2 := HZ4.out.free 2
                  have y3 := HZ4.out.free 3
                  have y4 := HZ4.out.free 4
                  have y5 := HZ4.out.free 5
                  have y6 := HZ4.out.free 6
                  have y7 := HZ4.out.free 7
                  have y8 := HZ4.out.free 8
                  have y9 := HZ4.out.free 9
                  have y10 := HZ4.out.free 10
                  have y11 := HZ4.out.free 11
                  obtain ⟨zz0, zz1, zz2, zz3, zz4, zz5, zz6, zz7, zz8, zz9, zz10, zz11⟩ := xs12 HZ4.out
                  go_wp2_with fail
                  obtain ⟨w9, hw9, hR9, hg9⟩ := sets12 HZ4.out (.int .i64 0) (.int .i64 0) (.int .i64 0) (.int .i64 0) (.int .i64 0) (.int .i64 0) (.int .i64 0) (.bool false) (.slice none 0 0) (.slice none 0 0) (.string ⟨#[]⟩) (.bool false)
                  rw [hw9]
                  clear hw9
                  obtain ⟨q0, q1, q2, q3, q4, q5, q6, q7, q8, q9, q10, q11⟩ := xs12 hR9
                  refine bodyPost_ret (v := .tuple #[mgval 0 0 0 0 0 0 0 false (.slice none 0 0) (.slice none 0 0) [] false, .bool false]) (by simp [results, Tryz.results12, go_sem, q0, q1, q2, q3, q4, q5, q6, q7, q8, q9, q10, q11]) rfl ?_
                  exact MdPost.zero HR.out (HB4.out.grown hg9 HB4.out.size (fun q hq => by cases hq; omega))
      · have j0 : ¬ (j : Int) < (n : Int) := by omega
        have HSTOP := hide (show Stop15 n r j from ⟨Or.inl (by omega), fun q hq => by omega⟩)
        have HES := hide (fun e he => Nat.le_trans (itS_small j r e he) (by omega : (120 : Nat) ≤ 1048576))
        have hel := itS_len j r
        obtain ⟨es, hes⟩ : ∃ es, (itS j r).1 = es := ⟨_, rfl⟩
        obtain ⟨r10, hr10⟩ : ∃ q, (itS j r).2 = q := ⟨_, rfl⟩
        have hsp1 := fun hn => sp_no (HSP.out j) HSTOP.out hn
        rw [hes] at HO HES hel
        rw [hr10] at HK
        rw [hes, hr10] at hsp1
        obtain ⟨lc, r11, hc11⟩ : ∃ q z, shL 1048576 r10 = (q, z) := ⟨_, _, rfl⟩
        obtain ⟨da, r12, hd12⟩ : ∃ q z, shL 1048576 r11 = (q, z) := ⟨_, _, rfl⟩
        have hcs : confS r10 = (confR lc, r11) := by unfold confS; rw [hc11]
        rw [hcs] at hsp1
        simp only at hsp1
        rw [hd12] at hsp1
        simp only at hsp1
        have hcl : lc.length ≤ 1048576 := by have := shL_len15 (most := 1048576) r10; rw [hc11] at this; exact this
        have hdl : da.length ≤ 1048576 := by have := shL_len15 (most := 1048576) r11; rw [hd12] at this; exact this
        have HS11 := hide (fun w hc => HSH.out g r10 w hc)
        rw [hc11] at HS11
        have HS12 := hide (fun w hc => HSH.out g r11 w hc)
        rw [hd12] at HS12
        simp only at HS11 HS12
        have HRC := hide (fun w => specReadConf_any ⟨lc.toArray⟩ (by rw [size_mk8]; omega) w)
        rw [bl_mk8] at HRC
        have hzl := (confR_small lc).1
        have HZW := hide (confR_small lc).2
        have hzr := confR_eq lc
        obtain ⟨zs, hzs⟩ : ∃ zs, confR lc = zs := ⟨_, rfl⟩
        rw [hzs] at hzl HZW hzr hsp1
        obtain ⟨cb, hcb⟩ : ∃ cb, (rdConf lc).2 = cb := ⟨_, rfl⟩
        have hrc : rdConf lc = (zs, cb) := Prod.ext hzr hcb
        rw [hrc] at HRC
        have HSP1 := hide hsp1
        clear hes hr10 hc11 hd12 hcs hzs hcb hzr hrc hsp1 HSTOP
        have HEL := hide hel
        clear hel
        go_wp2_with fail
        refine (HS11.out _ HK.out.c).mono ?_
        rintro e u1 ⟨rfl, hc, hg⟩
        have HKa := hide (HK.out.step hc hg)
        have HOa := hide (own_put15 HO.out hg (by omega))
        clear hc hg HK HO hbad
        go_wp2_with fail
        refine (HRC.out _).mono ?_
        rintro e u2 ⟨gg, cp, rfl, ho2, hb2⟩
        have HKb := hide (HKa.out.low hb2)
        have HOb := hide (own_below HOa.out hb2)
        have HIb := hide (own_put15 (own_base ho2 (show p + 1 ≤ u1.heap.size from HKa.out.x.lt)) (blk_grown u2 p 9 (.slice (some ⟨gg, 0, none⟩) zs.length cp)) (by omega))
        have HOc := hide (own_put15 HOb.out (blk_grown u2 p 9 (.slice (some ⟨gg, 0, none⟩) zs.length cp)) (by omega))
        have HKc := hide (show SdS w (u2.setCell ⟨p, 9, none⟩ (.slice (some ⟨gg, 0, none⟩) zs.length cp)) g p s r11 #[.int .i64 (k : Int), .int .i64 (f : Int), .int .i64 (t : Int), .int .i64 (tm : Int), .int .i64 (ix : Int), .int .i64 (lt : Int), .int .i64 (cm : Int), .bool ok, .slice oa j cl, .slice (some ⟨gg, 0, none⟩) zs.length cp, .string ⟨#[]⟩, .bool la] from HKb.out.put (HKb.out.x.set 9 (.slice (some ⟨gg, 0, none⟩) zs.length cp)) (blk_grown _ _ _ _))
        have f7 := HKb.out.x.free 9
        have c7 := HKb.out.x.cell 9 (u := .slice none 0 0) rfl
        clear ho2 hb2 HKa HOa HOb HKb
        go_wp2_with fail
        clear f7 c7
        generalize u2.setCell ⟨p, 9, none⟩ (.slice (some ⟨gg, 0, none⟩) zs.length cp) = u3 at HKc HOc HIb ⊢
        refine (HS12.out _ HKc.out.c).mono ?_
        rintro e u4 ⟨rfl, hc, hg⟩
        have HKd := hide (HKc.out.step hc hg)
        have HOd := hide (own_put15 (own_put15 HOc.out hg (by omega)) (blk_grown u4 p 10 (.string ⟨da.toArray⟩)) (by omega))
        have HId := hide (own_put15 (own_put15 HIb.out hg (by omega)) (blk_grown u4 p 10 (.string ⟨da.toArray⟩)) (by omega))
        have HKe := hide (show SdS w (u4.setCell ⟨p, 10, none⟩ (.string ⟨da.toArray⟩)) g p s r12 #[.int .i64 (k : Int), .int .i64 (f : Int), .int .i64 (t : Int), .int .i64 (tm : Int), .int .i64 (ix : Int), .int .i64 (lt : Int), .int .i64 (cm : Int), .bool ok, .slice oa j cl, .slice (some ⟨gg, 0, none⟩) zs.length cp, .string ⟨da.toArray⟩, .bool la] from HKd.out.put (HKd.out.x.set 10 (.string ⟨da.toArray⟩)) (blk_grown _ _ _ _))
        have f7 := HKd.out.x.free 10
        have c7 := HKd.out.x.cell 10 (u := .string ⟨#[]⟩) rfl
        clear hc hg HKc HOc HIb HKd
        go_upto_region 20 with fail
        clear f7 c7
        generalize u4.setCell ⟨p, 10, none⟩ (.string ⟨da.toArray⟩) = u5 at HKe HOd HId ⊢
        obtain ⟨k0, k1, k2, k3, k4, k5, k6, k7, k8, k9, k10, k11⟩ := xs12 HKe.out.x
        obtain ⟨_, _, he, hat⟩ := entsAt_own HOd.out
        cases he
        obtain ⟨_, _, he, hbt⟩ := intsAt_of_own HId.out HZW.out
        cases he
        have HAT := hide hat
        have HBT := hide hbt
        clear hat hbt
        have HEC := hide (fun w hat hbt => specEncode_any k f t tm ix lt cm ok oa j cl (some ⟨gg, 0, none⟩) zs.length cp da la es zs hdl w hat hbt HES.out (by omega) (by omega))
        obtain ⟨mt, hmt⟩ : ∃ mt, msgText ⟨k, f, t, tm, ix, lt, cm, ok, es, zs, da, la⟩ = mt := ⟨_, rfl⟩
        rw [hmt] at HEC HSP1
        have HMT := hide hmt
        clear hmt
        cases mt with
        | none =>
          have HR := hide (HSP1.out (by simp))
          simp only [mtV] at HEC
          by_cases hrn : r12 = none
          · have hr1 : r12.isNone = true := by simp [hrn]
            go_wp2_with fail
            refine (HEC.out _ HAT.out HBT.out).mono ?_
            rintro e u6 ⟨rfl, hb6⟩
            have HK6 := hide (HKe.out.low hb6)
            have HO6 := hide (own_below HOd.out hb6)
            have HI6 := hide (own_below HId.out hb6)
            have hbad6 := HK6.out.c.bad
            have HZ4 := hide HK6.out.z
            have HB4 := hide HK6.out.b
            clear hb6 HKe HOd HId k0 k1 k2 k3 k4 k5 k6 k7 k8 k9 k10 k11
            rw [hr1] at hbad6
            have y0 := HZ4.out.free 0
            have y1 := HZ4.out.free 1
            have y2 := HZ4.out.free 2
            have y3 := HZ4.out.free 3
            have y4 := HZ4.out.free 4
            have y5 := HZ4.out.free 5
            have y6 := HZ4.out.free 6
            have y7 := HZ4.out.free 7
            have y8 := HZ4.out.free 8
            have y9 := HZ4.out.free 9
            have y10 := HZ4.out.free 10
            have y11 := HZ4.out.free 11
            obtain ⟨zz0, zz1, zz2, zz3, zz4, zz5, zz6, zz7, zz8, zz9, zz10, zz11⟩ := xs12 HZ4.out
            go_wp2_with fail
            obtain ⟨w9, hw9, hR9, hg9⟩ := sets12 HZ4.out (.int .i64 0) (.int .i64 0) (.int .i64 0) (.int .i64 0) (.int .i64 0) (.int .i64 0) (.int .i64 0) (.bool false) (.slice none 0 0) (.slice none 0 0) (.string ⟨#[]⟩) (.bool false)
            rw [hw9]
            clear hw9
            obtain ⟨q0, q1, q2, q3, q4, q5, q6, q7, q8, q9, q10, q11⟩ := xs12 hR9
            refine bodyPost_ret (v := .tuple #[mgval 0 0 0 0 0 0 0 false (.slice none 0 0) (.slice none 0 0) [] false, .bool false]) (by simp [results, Tryz.results12, go_sem, q0, q1, q2, q3, q4, q5, q6, q7, q8, q9, q10, q11]) rfl ?_
            exact MdPost.zero HR.out (HB4.out.grown hg9 HB4.out.size (fun q hq => by cases hq; omega))
          · have hr1 : r12.isNone = false := by cases r12 with | none => exact absurd rfl hrn | some q => rfl
            go_wp2_with fail
            refine (HEC.out _ HAT.out HBT.out).mono ?_
            rintro e u6 ⟨rfl, hb6⟩
            have HK6 := hide (HKe.out.low hb6)
            have HO6 := hide (own_below HOd.out hb6)
            have HI6 := hide (own_below HId.out hb6)
            have hbad6 := HK6.out.c.bad
            have HZ4 := hide HK6.out.z
            have HB4 := hide HK6.out.b
            clear hb6 HKe HOd HId k0 k1 k2 k3 k4 k5 k6 k7 k8 k9 k10 k11
            rw [hr1] at hbad6
            have y0 := HZ4.out.free 0
            have y1 := HZ4.out.free 1
            have y2 := HZ4.out.free 2
            have y3 := HZ4.out.free 3
            have y4 := HZ4.out.free 4
            have y5 := HZ4.out.free 5
            have y6 := HZ4.out.free 6
            have y7 := HZ4.out.free 7
            have y8 := HZ4.out.free 8
            have y9 := HZ4.out.free 9
            have y10 := HZ4.out.free 10
            have y11 := HZ4.out.free 11
            obtain ⟨zz0, zz1, zz2, zz3, zz4, zz5, zz6, zz7, zz8, zz9, zz10, zz11⟩ := xs12 HZ4.out
            go_wp2_with fail
            obtain ⟨w9, hw9, hR9, hg9⟩ := sets12 HZ4.out (.int .i64 0) (.int .i64 0) (.int .i64 0) (.int .i64 0) (.int .i64 0) (.int .i64 0) (.int .i64 0) (.bool false) (.slice none 0 0) (.slice none 0 0) (.string ⟨#[]⟩) (.bool false)
            rw [hw9]
            clear hw9
            obtain ⟨q0, q1, q2, q3, q4, q5, q6, q7, q8, q9, q10, q11⟩ := xs12 hR9
            refine bodyPost_ret (v := .tuple #[mgval 0 0 0 0 0 0 0 false (.slice none 0 0) (.slice none 0 0) [] false, .bool false]) (by simp [results, Tryz.results12, go_sem, q0, q1, q2, q3, q4, q5, q6, q7, q8, q9, q10, q11]) rfl ?_
            exact MdPost.zero HR.out (HB4.out.grown hg9 HB4.out.size (fun q hq => by cases hq; omega))
        | some x =>
          simp only [mtV] at HEC
          by_cases hrn : r12 = none
          · have HR := hide (HSP1.out (by simp [hrn]))
            have hr1 : r12.isNone = true := by simp [hrn]
            go_wp2_with fail
            refine (HEC.out _ HAT.out HBT.out).mono ?_
            rintro e u6 ⟨rfl, hb6⟩
            have HK6 := hide (HKe.out.low hb6)
            have HO6 := hide (own_below HOd.out hb6)
            have HI6 := hide (own_below HId.out hb6)
            have hbad6 := HK6.out.c.bad
            have HZ4 := hide HK6.out.z
            have HB4 := hide HK6.out.b
            clear hb6 HKe HOd HId k0 k1 k2 k3 k4 k5 k6 k7 k8 k9 k10 k11
            rw [hr1] at hbad6
            have y0 := HZ4.out.free 0
            have y1 := HZ4.out.free 1
            have y2 := HZ4.out.free 2
            have y3 := HZ4.out.free 3
            have y4 := HZ4.out.free 4
            have y5 := HZ4.out.free 5
            have y6 := HZ4.out.free 6
            have y7 := HZ4.out.free 7
            have y8 := HZ4.out.free 8
            have y9 := HZ4.out.free 9
            have y10 := HZ4.out.free 10
            have y11 := HZ4.out.free 11
            obtain ⟨zz0, zz1, zz2, zz3, zz4, zz5, zz6, zz7, zz8, zz9, zz10, zz11⟩ := xs12 HZ4.out
            go_wp2_with fail
            obtain ⟨w9, hw9, hR9, hg9⟩ := sets12 HZ4.out (.int .i64 0) (.int .i64 0) (.int .i64 0) (.int .i64 0) (.int .i64 0) (.int .i64 0) (.int .i64 0) (.bool false) (.slice none 0 0) (.slice none 0 0) (.string ⟨#[]⟩) (.bool false)
            rw [hw9]
            clear hw9
            obtain ⟨q0, q1, q2, q3, q4, q5, q6, q7, q8, q9, q10, q11⟩ := xs12 hR9
            refine bodyPost_ret (v := .tuple #[mgval 0 0 0 0 0 0 0 false (.slice none 0 0) (.slice none 0 0) [] false, .bool false]) (by simp [results, Tryz.results12, go_sem, q0, q1, q2, q3, q4, q5, q6, q7, q8, q9, q10, q11]) rfl ?_
            exact MdPost.zero HR.out (HB4.out.grown hg9 HB4.out.size (fun q hq => by cases hq; omega))
          · have hr1 : r12.isNone = false := by cases r12 with | none => exact absurd rfl hrn | some q => rfl
            by_cases hx : x = bl s
            · have HR := hide (sp_yes (HMT.out.trans (by rw [hx])))
              have hse : (⟨x.toArray⟩ : ByteArray) = s := by rw [hx]
              rw [hse] at HEC
              clear hse
              go_wp2_with fail
              refine (HEC.out _ HAT.out HBT.out).mono ?_
              rintro e u6 ⟨rfl, hb6⟩
              have HK6 := hide (HKe.out.low hb6)
              have HO6 := hide (own_below HOd.out hb6)
              have HI6 := hide (own_below HId.out hb6)
              have hbad6 := HK6.out.c.bad
              have HZ4 := hide HK6.out.z
              have HB4 := hide HK6.out.b
              clear hb6 HKe HOd HId k0 k1 k2 k3 k4 k5 k6 k7 k8 k9 k10 k11
              rw [hr1] at hbad6
              obtain ⟨k0, k1, k2, k3, k4, k5, k6, k7, k8, k9, k10, k11⟩ := xs12 HK6.out.x
              have y0 := HZ4.out.free 0
              have y1 := HZ4.out.free 1
              have y2 := HZ4.out.free 2
              have y3 := HZ4.out.free 3
              have y4 := HZ4.out.free 4
              have y5 := HZ4.out.free 5
              have y6 := HZ4.out.free 6
              have y7 := HZ4.out.free 7
              have y8 := HZ4.out.free 8
              have y9 := HZ4.out.free 9
              have y10 := HZ4.out.free 10
              have y11 := HZ4.out.free 11
              obtain ⟨zz0, zz1, zz2, zz3, zz4, zz5, zz6, zz7, zz8, zz9, zz10, zz11⟩ := xs12 HZ4.out
              go_wp2_with fail
              obtain ⟨w9, hw9, hR9, hg9⟩ := sets12 HZ4.out (.int .i64 (k : Int)) (.int .i64 (f : Int)) (.int .i64 (t : Int)) (.int .i64 (tm : Int)) (.int .i64 (ix : Int)) (.int .i64 (lt : Int)) (.int .i64 (cm : Int)) (.bool ok) (.slice oa j cl) (.slice (some ⟨gg, 0, none⟩) zs.length cp) (.string ⟨da.toArray⟩) (.bool la)
              rw [hw9]
              clear hw9
              obtain ⟨q0, q1, q2, q3, q4, q5, q6, q7, q8, q9, q10, q11⟩ := xs12 hR9
              refine bodyPost_ret (v := .tuple #[mgval k f t tm ix lt cm ok (.slice oa j cl) (.slice (some ⟨gg, 0, none⟩) zs.length cp) da la, .bool true]) (by simp [results, Tryz.results12, go_sem, q0, q1, q2, q3, q4, q5, q6, q7, q8, q9, q10, q11]) rfl ?_
              refine MdPost.found HR.out ⟨?_, own_base (own_put15 HI6.out hg9 (by omega)) (by omega)⟩ (HB4.out.grown hg9 HB4.out.size (fun q hq => by cases hq; omega))
              have h9 := own_base (own_put15 HO6.out hg9 (by omega)) (show w.heap.size ≤ p + 1 by omega)
              rw [← HEL.out] at h9
              simpa [HEL.out] using h9
            · have HR := hide (HSP1.out (fun q => hx (Option.some.inj q.2)))
              have hne : ((⟨x.toArray⟩ : ByteArray).toList == s.toList) = false := by
                rw [Lib.toList_data, Lib.toList_data, beq_eq_false_iff_ne]
                exact fun q => hx (by simpa [bl] using q)
              generalize (⟨x.toArray⟩ : ByteArray) = XX at HEC hne
              go_wp2_with fail
              refine (HEC.out _ HAT.out HBT.out).mono ?_
              rintro e u6 ⟨rfl, hb6⟩
              have HK6 := hide (HKe.out.low hb6)
              have HO6 := hide (own_below HOd.out hb6)
              have HI6 := hide (own_below HId.out hb6)
              have hbad6 := HK6.out.c.bad
              have HZ4 := hide HK6.out.z
              have HB4 := hide HK6.out.b
              clear hb6 HKe HOd HId k0 k1 k2 k3 k4 k5 k6 k7 k8 k9 k10 k11
              rw [hr1] at hbad6
              have y0 := HZ4.out.free 0
              have y1 := HZ4.out.free 1
              have y2 := HZ4.out.free 2
              have y3 := HZ4.out.free 3
              have y4 := HZ4.out.free 4
              have y5 := HZ4.out.free 5
              have y6 := HZ4.out.free 6
              have y7 := HZ4.out.free 7
              have y8 := HZ4.out.free 8
              have y9 := HZ4.out.free 9
              have y10 := HZ4.out.free 10
              have y11 := HZ4.out.free 11
              obtain ⟨zz0, zz1, zz2, zz3, zz4, zz5, zz6, zz7, zz8, zz9, zz10, zz11⟩ := xs12 HZ4.out
              go_wp2_with fail
              obtain ⟨w9, hw9, hR9, hg9⟩ := sets12 HZ4.out (.int .i64 0) (.int .i64 0) (.int .i64 0) (.int .i64 0) (.int .i64 0) (.int .i64 0) (.int .i64 0) (.bool false) (.slice none 0 0) (.slice none 0 0) (.string ⟨#[]⟩) (.bool false)
              rw [hw9]
              clear hw9
              obtain ⟨q0, q1, q2, q3, q4, q5, q6, q7, q8, q9, q10, q11⟩ := xs12 hR9
              refine bodyPost_ret (v := .tuple #[mgval 0 0 0 0 0 0 0 false (.slice none 0 0) (.slice none 0 0) [] false, .bool false]) (by simp [results, Tryz.results12, go_sem, q0, q1, q2, q3, q4, q5, q6, q7, q8, q9, q10, q11]) rfl ?_
              exact MdPost.zero HR.out (HB4.out.grown hg9 HB4.out.size (fun q hq => by cases hq; omega))

end Go.Proofs.YtmllcomppjkhhaaGreatDoor
