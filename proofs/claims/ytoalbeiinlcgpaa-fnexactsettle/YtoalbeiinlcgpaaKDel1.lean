/-
  Walks and mathematics of Del1.
-/
import Derived.Test.YtoalbeiinlcgpaaKNodeA
import Derived.Test.YtoalbeiinlcgpaaKAppG
import Derived.Test.YtoalbeiinlcgpaaKBk2
import Derived.Test.YtoalbeiinlcgpaaKNd2
import Derived.Lib.SliceRun
namespace Go.Proofs.Ytoalbeiinlcgpaa.P11
end Go.Proofs.Ytoalbeiinlcgpaa.P11
namespace Go.Proofs.Ytoalbeiinlcgpaa.P18
end Go.Proofs.Ytoalbeiinlcgpaa.P18
namespace Go.Proofs.Ytoalbeiinlcgpaa.P3
end Go.Proofs.Ytoalbeiinlcgpaa.P3
namespace Go.Proofs.Ytoalbeiinlcgpaa.P5
end Go.Proofs.Ytoalbeiinlcgpaa.P5
namespace Go.Proofs.Ytoalbeiinlcgpaa
open Go.RowKit P1 P3 P5 P9 P11 P12 P18 K
set_option linter.unusedVariables false
set_option linter.unusedSimpArgs false

theorem others1_any (z id : Int) (b : Nat) (w : World) (hc : w.cell? ⟨b, 0, none⟩ = some (.int .i64 id)) :
    Calls Try.prog 77 #[.int .i64 z, .pointer (some ⟨b, 0, none⟩)] w fun e w' => e = .returned (.bool (decide (z = id))) ∧ w' = w := by
  go_enter Try.func77, Try.ntmps77
  go_wp2_with fail
  go_ret
  exact ⟨by by_cases h : z = id <;> simp [h], rfl⟩

theorem othI_same {c : List Int} {id : Int} (h : ∀ z ∈ c, z ≠ id) : othI c id = c := by
  unfold othI
  rw [List.filter_eq_self]
  intro z hz
  simpa using h z hz

set_option maxHeartbeats 2000000 in
theorem indexFunc_any (oa : Option Addr) (n cap : Nat) (zs : List Int) (id : Int) (b : Nat) (hn20 : n ≤ 1048576) (w : World) (hat : IntsAt w oa n cap zs) (hc : w.cell? ⟨b, 0, none⟩ = some (.int .i64 id)) :
    Calls Try.prog 83 #[.slice oa n cap, .func (.func 77) #[] #[.pointer (some ⟨b, 0, none⟩)]] w fun e w' => ((e = .returned (.int .i64 (-1)) ∧ ∀ z ∈ zs, z ≠ id) ∨ (∃ j : Nat, j < n ∧ e = .returned (.int .i64 (j : Int)) ∧ zs[j]? = some id ∧ ∀ z ∈ zs.take j, z ≠ id)) ∧ Below w.heap.size w w' := by
  have hl := hat.len
  have HAT := hide hat
  have HL := hide hl
  have HC := hide hc
  have hbl := cell_lt hc
  clear hat hl hc
  go_enter Try.func83, Try.ntmps83
  go_wp2_with fail
  go_loopw [8] (fun i wr => ∃ (j : Nat), i = .int .i64 (j : Int) ∧ j ≤ n ∧ (∀ z ∈ zs.take j, z ≠ id) ∧ Below w.heap.size w wr) (fun i _ => n - (intOf i).toNat)
  case atStart => exact ⟨0, rfl, Nat.zero_le _, by simp, Below.refl _ _⟩
  case round =>
    obtain ⟨j, rfl, hj, hno, hbel⟩ := hrel
    have hbs := hbel.size
    have HNO := hide hno
    clear hno
    by_cases hlt : j < n
    · have j0 : (j : Int) < (n : Int) := by omega
      obtain ⟨z, b1, q, hz, hidx, hb, c0, hwf⟩ := (HAT.out.below hbel).get Try.underlying22 infoI j hlt
      have HO := hide (others1_any z id b wr ((hbel.cell (p := ⟨b, 0, none⟩) hbl).trans HC.out))
      have HZ := hide hz
      clear hz
      by_cases hzi : z = id
      · have k1 : decide (z = id) = true := by simpa using hzi
        have HO1 := HO.out
        rw [k1] at HO1
        have HO1 := hide HO1
        have HZI := hide hzi
        clear HO k1 hzi
        go_wp2_with (go_at_call 77; refine HO1.out.mono ?_; rintro e w2 ⟨rfl, rfl⟩)
        go_ret
        exact ⟨.inr ⟨j, hlt, rfl, by rw [HZ.out, HZI.out], HNO.out⟩, hbel⟩
      · have k1 : decide (z = id) = false := by simpa using hzi
        have HO1 := HO.out
        rw [k1] at HO1
        have HO1 := hide HO1
        have HZI := hide hzi
        clear HO k1 hzi
        go_wp2_with (go_at_call 77; refine HO1.out.mono ?_; rintro e w2 ⟨rfl, rfl⟩)
        go_roundw
        case rel =>
          refine ⟨j + 1, by go_num, by omega, ?_, hbel⟩
          intro y hy
          rw [List.take_add_one, HZ.out] at hy
          rcases List.mem_append.1 hy with hy | hy
          · exact HNO.out y hy
          · simp at hy; subst hy; exact HZI.out
        case measure => (simp [intOf] <;> omega)
    · have hjn : j = n := by omega
      have HJ := hide hjn
      clear hjn
      go_wp2_with fail
      go_ret
      refine ⟨.inl ⟨rfl, ?_⟩, hbel⟩
      have := HNO.out
      rw [HJ.out, ← HL.out, List.take_length] at this
      exact this

theorem own_trunc {w : World} {base : Nat} {e : TypeId} {g n cap i : Nat} {xs : List Value} (h : w.ownsRow base e 1 (.slice (some ⟨g, 0, none⟩) n cap) n xs) (hi : i ≤ n) : w.ownsRow base e 1 (.slice (some ⟨g, 0, none⟩) i cap) i (xs.take i) := by
  have hl := h.1
  rcases h.2 with ⟨h0, _⟩ | ⟨g', cap', cur, he, hb, hg, hnc, hcm, hcs, htake⟩
  · cases h0
  · cases he
    refine ⟨by simp; omega, Or.inr ⟨g, cap, cur, rfl, hb, hg, by omega, hcm, hcs, ?_⟩⟩
    rw [← htake, List.take_take]
    congr 1
    omega

theorem setAll_take (xs cs : List Value) (i : Nat) (h : i + cs.length ≤ xs.length) : (setAll xs i cs).take i = xs.take i := by
  apply List.ext_getElem?
  intro m
  by_cases hm : m < i
  · rw [List.getElem?_take_of_lt hm, List.getElem?_take_of_lt hm, setAll_get cs xs i m h, if_neg (by omega)]
  · rw [List.getElem?_eq_none (by simp; omega), List.getElem?_eq_none (by simp; omega)]

theorem elemI16 : Try.prog.underlying 22 = some (.slice (Try.prog.elem 22)) := by kernel_rfl

theorem sizeI16 (w : World) : (sizeOf (Try.prog.elem 22)).run Try.prog w = .ok 1 w := by kernel_rfl

theorem run_cut_l (g n cap : Nat) (l : Nat) (h1 : l < cap) (h2 : l ≤ n) (hm : n ≤ 1048576) (w : World) :
    (Instr.slice 22 (.slice (some ⟨g, 0, none⟩) n cap) (some (.int .i64 (l : Int))) none none).run Try.prog w = .ok (.slice (some ⟨g, l, none⟩) (n - l) (cap - l)) w := by
  rw [run_slice_l w 22 _ n cap elemI16 .i64 l (by omega) (by omega), sizeI16]
  have : ¬ cap = l := by omega
  (simp [sliced, this, Addr.add] <;> omega)

theorem run_cut_h (g n cap : Nat) (r : Nat) (h0 : 0 < cap) (h2 : r ≤ cap) (hm : r ≤ 1048576) (w : World) :
    (Instr.slice 22 (.slice (some ⟨g, 0, none⟩) n cap) none (some (.int .i64 (r : Int))) none).run Try.prog w = .ok (.slice (some ⟨g, 0, none⟩) r cap) w := by
  rw [run_slice_h w 22 _ n cap elemI16 .i64 r (by omega) (by omega), sizeI16]
  have : ¬ cap = 0 := by omega
  simp [sliced, this, Addr.add]

set_option maxRecDepth 20000 in
set_option maxHeartbeats 4000000 in
theorem deleteFunc_any (g n cap base : Nat) (zs : List Int) (id : Int) (b : Nat) (hn20 : n ≤ 1048576) (hwf : ∀ z ∈ zs, (Lit.int .i64 z).wf = true) (w : World) (hown : w.ownsRow base 3 1 (.slice (some ⟨g, 0, none⟩) n cap) n (zs.map icell)) (hc : w.cell? ⟨b, 0, none⟩ = some (.int .i64 id)) (hne : b ≠ g) :
    Calls Try.prog 75 #[.slice (some ⟨g, 0, none⟩) n cap, .func (.func 77) #[] #[.pointer (some ⟨b, 0, none⟩)]] w fun e w' => ∃ v, e = .returned v ∧ w'.ownsRow base 3 1 v (othI zs id).length ((othI zs id).map icell) ∧ w.grownBy w' (some g) := by
  have hl : zs.length = n := by have := hown.1; simpa using this
  obtain ⟨_, _, he, hat⟩ := intsAt_of_own hown hwf
  cases he
  have hroom := hat.room
  have HIX := hide (indexFunc_any _ n cap zs id b hn20 w hat hc)
  have HO := hide hown
  have HL := hide hl
  have HC := hide hc
  have hbl := cell_lt hc
  clear hat hown hc
  go_enter Try.func75, Try.ntmps75
  go_wp2_with fail
  refine HIX.out.mono ?_
  rintro e w1 ⟨(⟨rfl, hno⟩ | ⟨j, hjn, rfl, hj, hno⟩), hb1⟩
  · have HN := hide (othI_same hno)
    have HB1 := hide hb1
    clear hno hb1
    go_wp2_with fail
    go_ret
    refine ⟨_, rfl, ?_, grown_below HB1.out⟩
    rw [HN.out, HL.out]
    exact own_below HO.out HB1.out
  · have HS := hide (show zs.take j = othI (zs.take (j + 1)) id by rw [othI_take_succ id hj, if_pos rfl, othI_same hno])
    have HB1 := hide hb1
    have HO1 := hide (own_below HO.out hb1)
    have HNE := hide hne
    have hl2 : j + 1 ≤ n := hjn
    have hsl1 := run_cut_l g n cap
    have hsl2 := run_cut_h g n cap
    clear hno hb1 hj hne hl
    have hj1 : ((j : Int) == -1) = false := by simp
    have hj2 : decide ((j : Int) = -1) = false := by simp
    go_wp2_with fail
    go_loopw [5, 6] (fun vi vj wr => ∃ (i k : Nat) (ys : List Int), vi = .int .i64 (i : Int) ∧ vj = .int .i64 (k : Int) ∧ i < k ∧ k ≤ n ∧ ys.length = n ∧ ys.take i = othI (zs.take k) id ∧ ys.drop k = zs.drop k ∧ wr.ownsRow base 3 1 (.slice (some ⟨g, 0, none⟩) n cap) n (ys.map icell) ∧ w.grownBy wr (some g)) (fun _ vj _ => n - (intOf vj).toNat)
    case atStart => exact ⟨j, j + 1, zs, rfl, by go_num, by omega, by omega, HL.out, HS.out, rfl, HO1.out, grown_below HB1.out⟩
    case round =>
      obtain ⟨i, k, ys, rfl, rfl, hik, hkn, hyl, htk, hdr, hown, hgr⟩ := hrel
      have HGR := hide hgr
      have HOW := hide hown
      have HYL := hide hyl
      have HTK := hide htk
      have HDR := hide hdr
      by_cases hlt : k < n
      · have k0 : (k : Int) < (n : Int) := by omega
        obtain ⟨z, hz⟩ : ∃ z, zs[k]? = some z := ⟨_, List.getElem?_eq_getElem (by rw [HL.out]; exact hlt)⟩
        have hyz : ys[k]? = some z := by
          rw [← hz]
          have h0 := congrArg (fun l => l[0]?) hdr
          simpa using h0
        have hcz : wr.cell? ⟨g, k, none⟩ = some (.int .i64 z) := by
          rw [hown.cellAt k (by omega), List.getElem?_map, hyz]
          rfl
        have hidx : ∀ wx, (Instr.indexAt 22 (.slice (some ⟨g, 0, none⟩) n cap) (.int .i64 (k : Int))).run Try.prog wx = .ok (.pointer (some ⟨g, k, none⟩)) wx := fun wx => by
          have := run_indexAt_slice wx 22 3 1 Try.underlying22 infoI g 0 n cap k hlt
          simpa using this
        have hidx2 : ∀ wx, (Instr.indexAt 22 (.slice (some ⟨g, 0, none⟩) n cap) (.int .i64 (i : Int))).run Try.prog wx = .ok (.pointer (some ⟨g, i, none⟩)) wx := fun wx => by
          have := run_indexAt_slice wx 22 3 1 Try.underlying22 infoI g 0 n cap i (by omega)
          simpa using this
        have hci : ∃ u, wr.cell? ⟨g, i, none⟩ = some u := ⟨_, by rw [hown.cellAt i (by omega), List.getElem?_eq_getElem (by simp; omega)]⟩
        obtain ⟨u, hu⟩ := hci
        have hfi := hown.frozenAt i
        have hcb := hide (show wr.cell? ⟨b, 0, none⟩ = some (.int .i64 id) from (cell_block (p := ⟨b, 0, none⟩) (hgr.block b hbl (fun e => HNE.out (Option.some.inj e)))).trans HC.out)
        have HOC := hide (others1_any z id b wr hcb.out)
        have HZ := hide hz
        clear hyl htk hdr hown hgr hz hyz hcb
        by_cases hzi : z = id
        · have HT := hide (show othI (zs.take (k + 1)) id = othI (zs.take k) id by rw [othI_take_succ id HZ.out, if_pos hzi])
          have HOC1 := HOC.out
          rw [show decide (z = id) = true by simpa using hzi] at HOC1
          have HOC1 := hide HOC1
          clear HOC hzi
          go_wp2_with (go_at_call 77; refine HOC1.out.mono ?_; rintro e w2 ⟨rfl, rfl⟩)
          go_roundw
          case rel => exact ⟨i, k + 1, ys, rfl, by go_num, by omega, by omega, HYL.out, by rw [HT.out]; exact HTK.out, by have := congrArg List.tail HDR.out; simpa [List.tail_drop] using this, HOW.out, HGR.out⟩
          case measure => (simp [intOf] <;> omega)
        · have HT := hide (show othI (zs.take (k + 1)) id = othI (zs.take k) id ++ [z] by rw [othI_take_succ id HZ.out, if_neg hzi])
          have HOC1 := HOC.out
          rw [show decide (z = id) = false by simpa using hzi] at HOC1
          have HOC1 := hide HOC1
          clear HOC hzi
          go_wp2_with (go_at_call 77; refine HOC1.out.mono ?_; rintro e w2 ⟨rfl, rfl⟩)
          go_roundw
          case rel =>
            have hst := HOW.out.stored i (.int .i64 z)
            have e1 : (ys.map icell).set i (.int .i64 z) = (ys.set i z).map icell := by rw [List.map_set]; rfl
            rw [e1] at hst
            have hyl := HYL.out
            refine ⟨i + 1, k + 1, ys.set i z, by go_num, by go_num, by omega, by omega, by simpa using hyl, ?_, ?_, hst.1, grown_trans HGR.out hst.2⟩
            · rw [HT.out, ← HTK.out, List.take_succ_eq_append_getElem (by simp; omega), List.take_set, List.set_eq_of_length_le (by rw [List.length_take]; omega)]
              simp
            · have := congrArg List.tail HDR.out
              rw [List.tail_drop, List.tail_drop] at this
              rw [← this, List.drop_set_of_lt (by omega)]
          case measure => (simp [intOf] <;> omega)
      · have hkn' : k = n := by omega
        have hi : i < n := by omega
        have HK := hide hkn'
        have hs1 : ∀ wx, (Instr.slice 22 (.slice (some ⟨g, 0, none⟩) n cap) (some (.int .i64 (i : Int))) none none).run Try.prog wx = .ok (.slice (some ⟨g, i, none⟩) (n - i) (cap - i)) wx := fun wx => hsl1 i (by omega) (by omega) hn20 wx
        have hs2 : ∀ wx, (Instr.slice 22 (.slice (some ⟨g, 0, none⟩) n cap) none (some (.int .i64 (i : Int))) none).run Try.prog wx = .ok (.slice (some ⟨g, 0, none⟩) i cap) wx := fun wx => hsl2 i (by omega) (by omega) (by omega) wx
        have hcl : ∀ q, q < n - i → (wr.cell? ⟨g, i + q, none⟩).isSome = true := fun q hq => by
          rw [hown.cellAt (i + q) (by omega), List.getElem?_eq_getElem (by simp; omega)]
          rfl
        have hfr : ∀ q, q < n - i → wr.frozen? ⟨g, i + q, none⟩ = false := fun q _ => hown.frozenAt _
        have hclr := Go.Lib.run_clear_slice (P := Try.prog) wr 22 3 0 (.int .i64 0) Try.underlying22 Try.zeroValue3 rfl rfl g i (n - i) (cap - i) (by omega) hcl hfr
        clear hyl htk hdr hown hgr hkn' hcl hfr hsl1 hsl2
        go_wp2_with fail
        go_ret
        have hyl := HYL.out
        have hset := own_setCells (k := 1) (List.replicate (n - i) (Value.int .i64 0)) wr i (ys.map icell) HOW.out
        have htr := own_trunc hset.1 (Nat.le_of_lt hi)
        have hq : zs.take k = zs := by rw [HK.out, ← HL.out, List.take_length]
        rw [setAll_take _ _ _ (by simp; omega), ← List.map_take, HTK.out, hq] at htr
        have hle : i = (othI zs id).length := by
          have := congrArg List.length HTK.out
          rw [hq, List.length_take] at this
          rw [← this]
          omega
        refine ⟨_, rfl, ?_, grown_trans HGR.out hset.2⟩
        rw [← hle]
        exact htr

end Go.Proofs.Ytoalbeiinlcgpaa
