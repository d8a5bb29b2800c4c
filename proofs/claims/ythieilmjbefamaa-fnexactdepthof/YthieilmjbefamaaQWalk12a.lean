/-
  Walks and mathematics of Walk12a.
-/
import Derived.Test.YthieilmjbefamaaQWalk11h
import Derived.Test.YthieilmjbefamaaQIntsMark
namespace Go.Proofs.Ythieilmjbefamaa.P11
end Go.Proofs.Ythieilmjbefamaa.P11
namespace Go.Proofs.Ythieilmjbefamaa.P3
end Go.Proofs.Ythieilmjbefamaa.P3
namespace Go.Proofs.Ythieilmjbefamaa.P9
end Go.Proofs.Ythieilmjbefamaa.P9
namespace Go.Proofs.Ythieilmjbefamaa
open Go.RowKit P1 P3 P5 P9 P11 P12 P14 P15 K
set_option linter.unusedVariables false
set_option linter.unusedSimpArgs false

abbrev rmv (ve vs vg : Value) : Value := .agg #[ve, vs, vg]

def hasFrom (id : Int) : List EvV → Nat → Int
  | [], _ => -1
  | e :: r, j => if e.id = id then (j : Int) else hasFrom id r (j + 1)
def hasI (es : List EvV) (id : Int) : Int := hasFrom id es 0

theorem hasFrom_at {es : List EvV} {j : Nat} {e : EvV} (id : Int) (h : es[j]? = some e) : hasFrom id (es.drop j) j = if e.id = id then (j : Int) else hasFrom id (es.drop (j + 1)) (j + 1) := by
  obtain ⟨hj, rfl⟩ := List.getElem?_eq_some_iff.1 h
  rw [List.drop_eq_getElem_cons hj]
  rfl

theorem hasFrom_find {id : Int} : ∀ (es : List EvV) (j : Nat), match evFind es id with | none => hasFrom id es j = -1 | some e => ∃ k : Nat, hasFrom id es j = ((j + k : Nat) : Int) ∧ es[k]? = some e
  | [], j => by simp [evFind, hasFrom]
  | x :: r, j => by
    unfold evFind hasFrom
    by_cases h : x.id = id
    · rw [if_pos h, if_pos h]
      exact ⟨0, by simp, rfl⟩
    · rw [if_neg h, if_neg h]
      have ih := hasFrom_find (id := id) r (j + 1)
      cases hf : evFind r id with
      | none => rw [hf] at ih; exact ih
      | some e =>
        rw [hf] at ih
        obtain ⟨k, h1, h2⟩ := ih
        exact ⟨k + 1, by rw [h1]; congr 1; omega, by simpa using h2⟩

theorem hasI_none {es : List EvV} {id : Int} (h : evFind es id = none) : hasI es id = -1 := by
  have := hasFrom_find (id := id) es 0
  rw [h] at this
  exact this
theorem hasI_some {es : List EvV} {id : Int} {e : EvV} (h : evFind es id = some e) : ∃ k : Nat, hasI es id = (k : Int) ∧ es[k]? = some e := by
  have := hasFrom_find (id := id) es 0
  rw [h] at this
  obtain ⟨k, h1, h2⟩ := this
  exact ⟨k, by rw [Nat.zero_add] at h1; exact h1, h2⟩

set_option maxHeartbeats 4000000 in
theorem l12Has_any (oa : Option Addr) (n cap : Nat) (es : List EvV) (vs vg : Value) (id : Int) (w : World) (hat : EvsAt w oa n cap es) :
    Calls Try.prog 21 #[rmv (.slice oa n cap) vs vg, .int .i64 id] w fun r w' => r = .returned (.int .i64 (hasI es id)) ∧ Below w.heap.size w w' := by
  have hmx := Nat.le_trans hat.room hat.most
  unfold maxLen at hmx
  have HN := hide hat.len
  have HAT := hide hat
  obtain ⟨W0, hW0⟩ : ∃ W0, w.alloc (.cells #[.slice oa n cap, vs, vg] 33) = W0 := ⟨_, rfl⟩
  have hb0 : Below w.heap.size w W0 := by rw [← hW0]; exact (Below.refl w.heap.size w).alloc (Nat.le_refl _) _
  have hR0 : W0.heap[w.heap.size]? = some (.cells #[.slice oa n cap, vs, vg] 33 (0, 0)) := by rw [← hW0]; exact heap_alloc_new _ _
  have r0 := blk_cell hR0 0 rfl
  have hlr := blk_lt hR0
  have HB0 := hide hb0
  have HA0 := hide (hat.below hb0)
  have HW0 := hide hW0
  clear hat hR0 hW0 hb0
  go_enter Try.func21, Try.ntmps21
  go_wp2_with fail
  rw [HW0.out]
  go_loop [5] (fun i => ∃ (j : Nat), i = .int .i64 (j : Int) ∧ j ≤ n ∧ hasFrom id (es.drop j) j = hasI es id) (fun i => n - (intOf i).toNat)
  case atStart => exact ⟨0, rfl, Nat.zero_le _, rfl⟩
  case round =>
    obtain ⟨j, rfl, hj, hrest⟩ := hrel
    by_cases hlt : j < n
    · have j0 : (j : Int) < (n : Int) := by omega
      obtain ⟨e, b, q, xa, xc, ya, yc, he, hidx, hev⟩ := HA0.out.get Try.underlying30 infoIV j hlt
      obtain ⟨c0, c1, c2, c3, c4, c5, c6, c7, c8⟩ := hev.cs
      rw [hasFrom_at id he] at hrest
      clear hev he c1 c2 c3 c4 c5 c6 c7 c8
      by_cases hk : e.id = id
      · have g : (e.id == id) = true := by simpa using hk
        rw [if_pos hk] at hrest
        have HE := hide hrest
        clear hrest hk
        go_wp2_with fail
        go_ret
        exact ⟨by rw [← HE.out]; rfl, HB0.out⟩
      · have g : (e.id == id) = false := by simpa using hk
        rw [if_neg hk] at hrest
        have HE := hide hrest
        clear hrest hk
        go_wp2_with fail
        go_round
        case rel => exact ⟨j + 1, by go_num, by omega, HE.out⟩
        case measure => simp [intOf]; omega
    · have hjn : es.drop j = [] := List.drop_eq_nil_of_le (by rw [HN.out]; omega)
      rw [hjn] at hrest
      have HE := hide (show (-1 : Int) = hasI es id from hrest)
      clear hrest hjn
      go_wp2_with fail
      go_ret
      exact ⟨by rw [← HE.out]; rfl, HB0.out⟩

def depStep (es : List EvV) (m z : Int) : Int := match evFind es z with | none => m | some e => if m < e.depth then e.depth else m
def depGo (es : List EvV) (prev : List Int) (m : Int) : Int := prev.foldl (depStep es) m
def depthOf (es : List EvV) (prev : List Int) : Int := if 1000000 < depGo es prev (-1) then 1000001 else depGo es prev (-1) + 1

theorem depGo_at {es : List EvV} {zs : List Int} {j : Nat} {z : Int} (m : Int) (h : zs[j]? = some z) : depGo es (zs.drop j) m = depGo es (zs.drop (j + 1)) (depStep es m z) := by
  obtain ⟨hj, rfl⟩ := List.getElem?_eq_some_iff.1 h
  rw [List.drop_eq_getElem_cons hj]
  rfl

theorem depGo_ge {es : List EvV} : ∀ (zs : List Int) (m : Int), m ≤ depGo es zs m
  | [], m => Int.le_refl _
  | z :: r, m => by
    have h1 := depGo_ge (es := es) r (depStep es m z)
    have h2 : m ≤ depStep es m z := by
      unfold depStep
      split
      · exact Int.le_refl _
      · split <;> omega
    exact Int.le_trans h2 h1

theorem depStep_none {es : List EvV} {m z : Int} (h : evFind es z = none) : depStep es m z = m := by unfold depStep; rw [h]
theorem depStep_yes {es : List EvV} {m z : Int} {e : EvV} (h : evFind es z = some e) (hd : m < e.depth) : depStep es m z = e.depth := by unfold depStep; rw [h]; exact if_pos hd
theorem depStep_no {es : List EvV} {m z : Int} {e : EvV} (h : evFind es z = some e) (hd : ¬ m < e.depth) : depStep es m z = m := by unfold depStep; rw [h]; exact if_neg hd

set_option maxRecDepth 100000 in
set_option maxHeartbeats 8000000 in
theorem specDepthOf_any (oa : Option Addr) (n cap : Nat) (es : List EvV) (vs vg : Value) (oc : Option Addr) (p cc : Nat) (prev : List Int) (w : World) (hat : EvsAt w oa n cap es) (hpt : IntsAt w oc p cc prev) :
    Calls Try.prog 6 #[rmv (.slice oa n cap) vs vg, .slice oc p cc] w fun r w' => r = .returned (.int .i64 (depthOf es prev)) ∧ Below w.heap.size w w' := by
  have hmx := Nat.le_trans hpt.room hpt.most
  unfold maxLen at hmx
  have HN := hide hat.len
  have HPN := hide hpt.len
  have HPT := hide hpt
  have HAT := hide hat
  obtain ⟨W0, hW0⟩ : ∃ W0, w.alloc (.cells #[.slice oa n cap, vs, vg] 33) = W0 := ⟨_, rfl⟩
  have hb0 : Below w.heap.size w W0 := by rw [← hW0]; exact (Below.refl w.heap.size w).alloc (Nat.le_refl _) _
  have hR0 : W0.heap[w.heap.size]? = some (.cells #[.slice oa n cap, vs, vg] 33 (0, 0)) := by rw [← hW0]; exact heap_alloc_new _ _
  have HR0 := hide hR0
  have HB0 := hide hb0
  have HW0 := hide hW0
  have HH := hide (fun (z : Int) w1 (h : EvsAt w1 oa n cap es) => l12Has_any oa n cap es vs vg z w1 h)
  obtain ⟨D, hD⟩ : ∃ D, depGo es prev (-1) = D := ⟨_, rfl⟩
  have HD := hide hD
  clear hat hR0 hW0 hb0 hpt hD
  go_enter Try.func6, Try.ntmps6
  go_wp2_with fail
  rw [HW0.out]
  go_loopw [5, 6] (fun v i wr => ∃ (j : Nat) (M : Int), i = .int .i64 (j : Int) ∧ v = .int .i64 M ∧ j ≤ p ∧ depGo es (prev.drop j) M = D ∧ Below W0.heap.size W0 wr) (fun _ i _ => p - (intOf i).toNat)
  case atStart => exact ⟨0, -1, rfl, rfl, Nat.zero_le _, HD.out, Below.refl _ _⟩
  case round =>
    obtain ⟨j, M, rfl, rfl, hj, hrest, hbel⟩ := hrel
    have hsz := hbel.size
    have hRr := (hbel.block w.heap.size (blk_lt HR0.out)).trans HR0.out
    have r0 := blk_cell hRr 0 rfl
    have r1 := blk_cell hRr 1 rfl
    have r2 := blk_cell hRr 2 rfl
    have hlr := blk_lt hRr
    have hbW : Below w.heap.size w wr := HB0.out.trans (hbel.mono HB0.out.size)
    have HEV := hide (HAT.out.below hbW)
    clear hRr
    by_cases hlt : j < p
    · have j0 : (j : Int) < (p : Int) := by omega
      obtain ⟨z, b, q, hz, hidx, hb, c0w, hwz⟩ := HPT.out.get Try.underlying27 infoI j hlt
      have c0 := (hbW.cell hb).trans c0w
      have hbr := Nat.lt_of_lt_of_le hb hbW.size
      have HH1 := hide (HH.out z)
      rw [depGo_at M hz] at hrest
      have HREST := hide hrest
      clear hrest hz c0w
      cases hf : evFind es z with
      | none =>
        have HE := hide (show depGo es (prev.drop (j + 1)) M = D by rw [← HREST.out, depStep_none hf])
        rw [hasI_none hf] at HH1
        clear HREST hf
        go_wp2_with fail
        refine wp_region_in (F := fun w' => Below wr.heap.size wr w') (by kernel_rfl) (by kernel_rfl) (Below.refl _ _).drew ?_
        have hne : Nonempty (InW (fun w' => Below wr.heap.size wr w')) := ⟨⟨_, Below.refl _ _⟩⟩
        have k0 : ∀ m : InW (fun w' => Below wr.heap.size wr w'), m.w.cell? ⟨w.heap.size, 0, none⟩ = some (.slice oa n cap) := fun m => (m.h.cell hlr).trans r0
        have k1 : ∀ m : InW (fun w' => Below wr.heap.size wr w'), m.w.cell? ⟨w.heap.size, 1, none⟩ = some vs := fun m => (m.h.cell hlr).trans r1
        have k2 : ∀ m : InW (fun w' => Below wr.heap.size wr w'), m.w.cell? ⟨w.heap.size, 2, none⟩ = some vg := fun m => (m.h.cell hlr).trans r2
        have k3 : ∀ m : InW (fun w' => Below wr.heap.size wr w'), m.w.cell? ⟨b, q, none⟩ = some (.int .i64 z) := fun m => (m.h.cell hbr).trans c0
        repeat (go_big_quiet_step (first
          | (go_at_call 21; (with_reducible refine (HH1.out _ (HEV.out.below (InW.h (F := fun w' => Below wr.heap.size wr w') _))).mono ?_); rintro e' w2 ⟨rfl, hb2⟩; exact ⟨rfl, ⟨w2, Below.trans (InW.h _) (hb2.mono (Below.size (InW.h (F := fun w' => Below wr.heap.size wr w') ‹_›)))⟩, rfl⟩)))
        refine wpQuiet_nil ?_
        intro _ hw'
        obtain ⟨nq, hw''⟩ := hw'
        subst hw''
        have hnq := nq.h
        generalize nq.w = w3 at hnq ⊢
        have HB3 := hide (hbel.trans (hnq.mono hsz))
        have HE3 := hide (HEV.out.below hnq)
        have r03 := (hnq.cell hlr).trans r0
        have hlr3 := Nat.lt_of_lt_of_le hlr hnq.size
        clear hne k0 k1 k2 k3 hnq
        go_wp2_with fail
        go_roundw
        case rel => exact ⟨j + 1, M, by go_num, rfl, by omega, HE.out, HB3.out⟩
        case measure => simp [intOf]; omega
      | some e =>
        obtain ⟨kk, hk1, hk2⟩ := hasI_some hf
        rw [hk1] at HH1
        have hkn : kk < n := by
          have := (List.getElem?_eq_some_iff.1 hk2).1
          rw [HN.out] at this
          exact this
        have hk0 : (0 : Int) ≤ (kk : Int) := by omega
        by_cases hd : M < e.depth
        · have HE := hide (show depGo es (prev.drop (j + 1)) e.depth = D by rw [← HREST.out, depStep_yes hf hd])
          clear HREST hf hk1
          go_wp2_with fail
          refine wp_region_in (F := fun w' => Below wr.heap.size wr w') (by kernel_rfl) (by kernel_rfl) (Below.refl _ _).drew ?_
          have hne : Nonempty (InW (fun w' => Below wr.heap.size wr w')) := ⟨⟨_, Below.refl _ _⟩⟩
          have k0 : ∀ m : InW (fun w' => Below wr.heap.size wr w'), m.w.cell? ⟨w.heap.size, 0, none⟩ = some (.slice oa n cap) := fun m => (m.h.cell hlr).trans r0
          have k1 : ∀ m : InW (fun w' => Below wr.heap.size wr w'), m.w.cell? ⟨w.heap.size, 1, none⟩ = some vs := fun m => (m.h.cell hlr).trans r1
          have k2 : ∀ m : InW (fun w' => Below wr.heap.size wr w'), m.w.cell? ⟨w.heap.size, 2, none⟩ = some vg := fun m => (m.h.cell hlr).trans r2
          have k3 : ∀ m : InW (fun w' => Below wr.heap.size wr w'), m.w.cell? ⟨b, q, none⟩ = some (.int .i64 z) := fun m => (m.h.cell hbr).trans c0
          repeat (go_big_quiet_step (first
            | (go_at_call 21; (with_reducible refine (HH1.out _ (HEV.out.below (InW.h (F := fun w' => Below wr.heap.size wr w') _))).mono ?_); rintro e' w2 ⟨rfl, hb2⟩; exact ⟨rfl, ⟨w2, Below.trans (InW.h _) (hb2.mono (Below.size (InW.h (F := fun w' => Below wr.heap.size wr w') ‹_›)))⟩, rfl⟩)))
          refine wpQuiet_nil ?_
          intro _ hw'
          obtain ⟨nq, hw''⟩ := hw'
          subst hw''
          have hnq := nq.h
          generalize nq.w = w3 at hnq ⊢
          have HB3 := hide (hbel.trans (hnq.mono hsz))
          have HE3 := hide (HEV.out.below hnq)
          have r03 := (hnq.cell hlr).trans r0
          have hlr3 := Nat.lt_of_lt_of_le hlr hnq.size
          clear hne k0 k1 k2 k3 hnq
          obtain ⟨e2, b2, q2, xa, xc, ya, yc, he2, hidx2, hev2⟩ := HE3.out.get Try.underlying30 infoIV kk hkn
          rw [hk2] at he2
          cases he2
          obtain ⟨c0', c1', c2', c3', c4', c5', c6', c7', c8'⟩ := hev2.cs
          clear hev2
          go_wp2_with fail
          go_roundw
          case rel => exact ⟨j + 1, e.depth, by go_num, rfl, by omega, HE.out, HB3.out⟩
          case measure => simp [intOf]; omega
        · have HE := hide (show depGo es (prev.drop (j + 1)) M = D by rw [← HREST.out, depStep_no hf hd])
          clear HREST hf hk1
          go_wp2_with fail
          refine wp_region_in (F := fun w' => Below wr.heap.size wr w') (by kernel_rfl) (by kernel_rfl) (Below.refl _ _).drew ?_
          have hne : Nonempty (InW (fun w' => Below wr.heap.size wr w')) := ⟨⟨_, Below.refl _ _⟩⟩
          have k0 : ∀ m : InW (fun w' => Below wr.heap.size wr w'), m.w.cell? ⟨w.heap.size, 0, none⟩ = some (.slice oa n cap) := fun m => (m.h.cell hlr).trans r0
          have k1 : ∀ m : InW (fun w' => Below wr.heap.size wr w'), m.w.cell? ⟨w.heap.size, 1, none⟩ = some vs := fun m => (m.h.cell hlr).trans r1
          have k2 : ∀ m : InW (fun w' => Below wr.heap.size wr w'), m.w.cell? ⟨w.heap.size, 2, none⟩ = some vg := fun m => (m.h.cell hlr).trans r2
          have k3 : ∀ m : InW (fun w' => Below wr.heap.size wr w'), m.w.cell? ⟨b, q, none⟩ = some (.int .i64 z) := fun m => (m.h.cell hbr).trans c0
          repeat (go_big_quiet_step (first
            | (go_at_call 21; (with_reducible refine (HH1.out _ (HEV.out.below (InW.h (F := fun w' => Below wr.heap.size wr w') _))).mono ?_); rintro e' w2 ⟨rfl, hb2⟩; exact ⟨rfl, ⟨w2, Below.trans (InW.h _) (hb2.mono (Below.size (InW.h (F := fun w' => Below wr.heap.size wr w') ‹_›)))⟩, rfl⟩)))
          refine wpQuiet_nil ?_
          intro _ hw'
          obtain ⟨nq, hw''⟩ := hw'
          subst hw''
          have hnq := nq.h
          generalize nq.w = w3 at hnq ⊢
          have HB3 := hide (hbel.trans (hnq.mono hsz))
          have HE3 := hide (HEV.out.below hnq)
          have r03 := (hnq.cell hlr).trans r0
          have hlr3 := Nat.lt_of_lt_of_le hlr hnq.size
          clear hne k0 k1 k2 k3 hnq
          obtain ⟨e2, b2, q2, xa, xc, ya, yc, he2, hidx2, hev2⟩ := HE3.out.get Try.underlying30 infoIV kk hkn
          rw [hk2] at he2
          cases he2
          obtain ⟨c0', c1', c2', c3', c4', c5', c6', c7', c8'⟩ := hev2.cs
          clear hev2
          go_wp2_with fail
          go_roundw
          case rel => exact ⟨j + 1, M, by go_num, rfl, by omega, HE.out, HB3.out⟩
          case measure => simp [intOf]; omega
    · have hjn : prev.drop j = [] := List.drop_eq_nil_of_le (by rw [HPN.out]; omega)
      rw [hjn] at hrest
      have hMD : M = D := hrest
      subst hMD
      have hge : -1 ≤ M := by rw [← HD.out]; exact depGo_ge prev (-1)
      have HDP := hide (show depthOf es prev = if 1000000 < M then 1000001 else M + 1 by unfold depthOf; rw [HD.out])
      clear hrest hjn
      by_cases hb : 1000000 < M
      · rw [if_pos hb] at HDP
        go_wp2_with fail
        go_ret
        exact ⟨by rw [HDP.out]; rfl, hbW⟩
      · rw [if_neg hb] at HDP
        go_wp2_with fail
        go_ret
        exact ⟨by rw [HDP.out]; rfl, hbW⟩

end Go.Proofs.Ythieilmjbefamaa
