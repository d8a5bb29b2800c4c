/-
  Walks and mathematics of Nd2.
-/
import Derived.Test.YtoalbeiinlcgpaaKNodeA
import Derived.Test.YtoalbeiinlcgpaaKAppG
import Derived.Test.YtoalbeiinlcgpaaKWalk5c
namespace Go.Proofs.Ytoalbeiinlcgpaa.P11
end Go.Proofs.Ytoalbeiinlcgpaa.P11
namespace Go.Proofs.Ytoalbeiinlcgpaa.P18
end Go.Proofs.Ytoalbeiinlcgpaa.P18
namespace Go.Proofs.Ytoalbeiinlcgpaa.P3
end Go.Proofs.Ytoalbeiinlcgpaa.P3
namespace Go.Proofs.Ytoalbeiinlcgpaa.P5
end Go.Proofs.Ytoalbeiinlcgpaa.P5
namespace Go.Proofs.Ytoalbeiinlcgpaa
open Go.RowKit P1 P3 P5 P9 P11 P12 P18 K
set_option linter.unusedVariables false
set_option linter.unusedSimpArgs false

theorem cfGo_take_succ {es : List EntV} {j : Nat} {f : EntV} (c : List Int) (h : es[j]? = some f) : cfGo c (es.take (j + 1)) = if f.kind = 2 then confZ (bl f.data) else cfGo c (es.take j) := by
  have hj : j < es.length := (List.getElem?_eq_some_iff.1 h).1
  have he : es[j] = f := (List.getElem?_eq_some_iff.1 h).2
  rw [List.take_succ_eq_append_getElem hj, he, cfGo_snoc]

def cnt16 (s : Int) (n : Nat) (ix : Int) : Nat := min n (ix - s).toNat

set_option maxHeartbeats 4000000 in
theorem specConfAt_any (x : NdV) (S : NdS) (ix : Int) (hs0 : 0 ≤ x.s) (hs1 : x.s ≤ 1000000) (hn : x.es.length ≤ 60) (hnc : x.cf.length ≤ 1048576) (hok : ∀ e ∈ x.es, e.ok = true) (hsz : ∀ e ∈ x.es, e.data.size ≤ 1048576) (w : World) (hat : NdAt w x S) :
    Calls Try.prog 47 #[ndval x S, .int .i64 ix] w fun e w' => ∃ v, e = .returned v ∧ w'.ownsRow w.heap.size 3 1 v (cfGo x.cf (x.es.take (cnt16 x.s x.es.length ix))).length ((cfGo x.cf (x.es.take (cnt16 x.s x.es.length ix))).map icell) ∧ Below w.heap.size w w' := by
  have hb0 := ((Below.refl w.heap.size w).alloc (Nat.le_refl _) (.cells (ndC x S) 36)).alloc (by simp) (.cells #[] 3)
  have HX0 := hide ((XS.new w (ndC x S) 36).alloc (.cells #[] 3))
  have HCR := hide ((hat.c.below hb0).rows)
  have HG0 := hide (show ((w.alloc (.cells (ndC x S) 36)).alloc (.cells #[] 3)).heap[w.heap.size + 1]? = some (.cells #[] 3 (0, 0)) by have := heap_alloc_new (w.alloc (.cells (ndC x S) 36)) (.cells #[] 3); rwa [World.size_alloc] at this)
  have HAT := hide hat
  have HB0 := hide hb0
  have HOK := hide hok
  have HSZ := hide hsz
  clear hat hb0 hok hsz
  go_enter Try.func47, Try.ntmps47
  go_wp2_with (at_builtin; refine wpList_append_rowsG icells1_length icells1_one (by decide) rfl _ _ 22 rfl Try.underlying22 infoIz rfl (w.heap.size + 1) HG0.out rfl _ _ _ _ rfl HCR.out (by omega) (by omega) (w.heap.size + 1) (Nat.le_refl _) ?_; intro v1 w1 hown1 hg1; have X1 := hide (HX0.out.kept hg1 (fun q => by have := Option.some.inj q; omega)); have hown1' := own_base hown1 (base' := w.heap.size) (by omega); rw [icells1_flat] at hown1'; have HO1 := hide hown1'; have HB1 := hide (HB0.out.grown hg1 HB0.out.size (fun k hk => by cases hk; omega)))
  clear hown1 hg1 hown1'
  go_loopw [5, 6] (fun v i wr => ∃ (j : Nat), i = .int .i64 (j : Int) ∧ j ≤ cnt16 x.s x.es.length ix ∧ wr.ownsRow w.heap.size 3 1 v (cfGo x.cf (x.es.take j)).length ((cfGo x.cf (x.es.take j)).map icell) ∧ XS w.heap.size (ndC x S) 36 wr ∧ Below w.heap.size w wr) (fun _ i _ => x.es.length - (intOf i).toNat)
  case atStart => exact ⟨0, rfl, Nat.zero_le _, HO1.out, X1.out, HB1.out⟩
  case round =>
    obtain ⟨j, rfl, hj, hown, hX, hbel⟩ := hrel
    have hbs := hbel.size
    obtain ⟨k0, k1, k2, k3, k4, k5, k6, k7, k8, k9, k10, k11, k12, k13⟩ := xs14 hX
    have HO := hide hown
    have HX := hide hX
    clear hown hX
    by_cases hlt : j < cnt16 x.s x.es.length ix
    · have hl1 : j < x.es.length := by unfold cnt16 at hlt; omega
      have hl2 : x.s + 1 + (j : Int) ≤ ix := by unfold cnt16 at hlt; omega
      have j0 : (j : Int) < (x.es.length : Int) := by omega
      obtain ⟨f, b, q, hf, hidx, hb, c0, c1, c2⟩ := (HAT.out.e.below hbel).get3 Try.underlying31 infoIE j hl1
      have hmem := List.mem_of_getElem? hf
      by_cases hk : f.kind = 2
      · have HRC := specReadConf_any f.data (HSZ.out f hmem)
        rw [rdConf_yes (okE_conf (HOK.out f hmem) hk)] at HRC
        have HRC := hide HRC
        have HS := hide (show cfGo x.cf (x.es.take (j + 1)) = confZ (bl f.data) by rw [cfGo_take_succ _ hf, if_pos hk])
        clear hf hmem
        go_wp2_with (go_at_call 67; refine (HRC.out _).mono ?_; rintro e w2 ⟨g, cap, rfl, hown2, hb2⟩)
        go_roundw
        case rel => exact ⟨j + 1, by go_num, by omega, by rw [HS.out]; exact own_base hown2 hbs, HX.out.on hb2, hbel.trans (hb2.mono hbs)⟩
        case measure => (simp [intOf] <;> omega)
      · have k1 : (f.kind == 2) = false := by simpa using hk
        have k2 : decide (f.kind = 2) = false := by simpa using hk
        have HS := hide (show cfGo x.cf (x.es.take (j + 1)) = cfGo x.cf (x.es.take j) by rw [cfGo_take_succ _ hf, if_neg hk])
        clear hf hmem hk
        go_wp2_with fail
        go_roundw
        case rel => exact ⟨j + 1, by go_num, by omega, by rw [HS.out]; exact HO.out, HX.out, hbel⟩
        case measure => (simp [intOf] <;> omega)
    · have hje : j = cnt16 x.s x.es.length ix := by omega
      have HJ := hide hje
      by_cases hn2 : j < x.es.length
      · have j0 : (j : Int) < (x.es.length : Int) := by omega
        have hl2 : ix < x.s + 1 + (j : Int) := by unfold cnt16 at hje; omega
        clear hje
        go_wp2_with fail
        go_ret
        exact ⟨_, rfl, by rw [← HJ.out]; exact HO.out, hbel⟩
      · have j0 : (x.es.length : Int) ≤ (j : Int) := by omega
        clear hje
        go_wp2_with fail
        go_ret
        exact ⟨_, rfl, by rw [← HJ.out]; exact HO.out, hbel⟩

theorem cnt16_all {s : Int} {n : Nat} (h0 : 0 ≤ s) (h1 : s ≤ 1000000) (hn : n ≤ 60) : cnt16 s n 1000060 = n := by unfold cnt16; omega

theorem specConfOf_any (x : NdV) (S : NdS) (hs0 : 0 ≤ x.s) (hs1 : x.s ≤ 1000000) (hn : x.es.length ≤ 60) (hnc : x.cf.length ≤ 1048576) (hok : ∀ e ∈ x.es, e.ok = true) (hsz : ∀ e ∈ x.es, e.data.size ≤ 1048576) (w : World) (hat : NdAt w x S) :
    Calls Try.prog 29 #[ndval x S] w fun e w' => ∃ v, e = .returned v ∧ w'.ownsRow w.heap.size 3 1 v (ndCf x).length ((ndCf x).map icell) ∧ Below w.heap.size w w' := by
  have hb0 := (Below.refl w.heap.size w).alloc (Nat.le_refl _) (.cells (ndC x S) 36)
  have HCA := specConfAt_any x S 1000060 hs0 hs1 hn hnc hok hsz _ (hat.below hb0)
  rw [cnt16_all hs0 hs1 hn, List.take_length] at HCA
  have HCA := hide HCA
  have HB0 := hide hb0
  unfold ndCf
  generalize cfGo x.cf x.es = C at HCA ⊢
  clear hat hb0 hok hsz
  go_enter Try.func29, Try.ntmps29
  go_wp2_with (go_at_call 47; refine HCA.out.mono ?_; rintro e w1 ⟨v, rfl, hown, hb1⟩)
  go_ret
  exact ⟨_, rfl, own_base hown HB0.out.size, HB0.out.trans (hb1.mono HB0.out.size)⟩

theorem othI_take_succ {c : List Int} {j : Nat} {z : Int} (id : Int) (h : c[j]? = some z) : othI (c.take (j + 1)) id = if z = id then othI (c.take j) id else othI (c.take j) id ++ [z] := by
  have hj : j < c.length := (List.getElem?_eq_some_iff.1 h).1
  have he : c[j] = z := (List.getElem?_eq_some_iff.1 h).2
  rw [List.take_succ_eq_append_getElem hj, he]
  unfold othI
  rw [List.filter_append]
  by_cases hz : z = id
  · simp [hz]
  · simp [hz]

theorem othI_len (c : List Int) (id : Int) : (othI c id).length ≤ c.length := List.length_filter_le _ _

set_option maxHeartbeats 2000000 in
theorem l16Others_any (oa : Option Addr) (n cap : Nat) (zs : List Int) (id : Int) (hn20 : n ≤ 1048576) (w : World) (hat : IntsAt w oa n cap zs) :
    Calls Try.prog 28 #[.slice oa n cap, .int .i64 id] w fun e w' => ∃ v, e = .returned v ∧ w'.ownsRow w.heap.size 3 1 v (othI zs id).length ((othI zs id).map icell) ∧ Below w.heap.size w w' := by
  have hl := hat.len
  have HAT := hide hat
  have HL := hide hl
  clear hat hl
  go_enter Try.func28, Try.ntmps28
  go_wp2_with fail
  go_loopw [5, 6] (fun v i wr => ∃ (j : Nat), i = .int .i64 (j : Int) ∧ j ≤ n ∧ wr.ownsRow w.heap.size 3 1 v (othI (zs.take j) id).length ((othI (zs.take j) id).map icell) ∧ Below w.heap.size w wr) (fun _ i _ => n - (intOf i).toNat)
  case atStart => exact ⟨0, rfl, Nat.zero_le _, World.ownsRow_made (w := w) #[] 0 (Nat.le_refl _) (by decide) rfl, (Below.refl _ _).alloc (Nat.le_refl _) _⟩
  case round =>
    obtain ⟨j, rfl, hj, hown, hbel⟩ := hrel
    have hbs := hbel.size
    by_cases hlt : j < n
    · have j0 : (j : Int) < (n : Int) := by omega
      obtain ⟨z, b, q, hz, hidx, hb, c0, hwf⟩ := (HAT.out.below hbel).get Try.underlying22 infoI j hlt
      have hle : (othI (zs.take j) id).length ≤ j := Nat.le_trans (othI_len _ _) (by simp; omega)
      by_cases hzi : z = id
      · have k1 : (z == id) = true := by simpa using hzi
        have HS := hide (show othI (zs.take (j + 1)) id = othI (zs.take j) id by rw [othI_take_succ id hz, if_pos hzi])
        have HO := hide hown
        clear hz hown
        go_wp2_with fail
        go_roundw
        case rel => exact ⟨j + 1, by go_num, by omega, by rw [HS.out]; exact HO.out, hbel⟩
        case measure => (simp [intOf] <;> omega)
      · have k1 : (z == id) = false := by simpa using hzi
        have HS := hide (show othI (zs.take (j + 1)) id = othI (zs.take j) id ++ [z] by rw [othI_take_succ id hz, if_neg hzi])
        clear hz
        generalize othI (zs.take j) id = O at hown hle HS
        generalize hol : O.length = m at hown hle
        have HOL := hide hol
        clear hol
        go_wp2_with (at_builtin; refine wpList_push rfl _ _ 22 rfl Try.underlying22 infoIz rfl rfl hown rfl rfl hbel hbs (by unfold maxLen; omega) (by omega) ?_; intro v' w1 hown' hbel' _; have HO1 := hide hown'; have HB1 := hide hbel')
        go_roundw
        case rel =>
          refine ⟨j + 1, by go_num, by omega, ?_, HB1.out⟩
          rw [HS.out, List.length_append, HOL.out, List.map_append]
          exact HO1.out
        case measure => (simp [intOf] <;> omega)
    · have hjn : j = n := by omega
      subst hjn
      have hta : zs.take j = zs := List.take_of_length_le (by rw [HL.out]; exact Nat.le_refl _)
      rw [hta] at hown
      have HO := hide hown
      clear hown hta
      go_wp2_with fail
      go_ret
      exact ⟨_, rfl, HO.out, hbel⟩

end Go.Proofs.Ytoalbeiinlcgpaa
