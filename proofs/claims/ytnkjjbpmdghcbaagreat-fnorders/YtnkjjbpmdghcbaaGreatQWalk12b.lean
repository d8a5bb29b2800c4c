/-
  Walks and mathematics of Walk12b.
-/
import Derived.Test.YtnkjjbpmdghcbaaGreatQWalk12a
import Derived.Test.YtnkjjbpmdghcbaaGreatQWalk11i
namespace Go.Proofs.YtnkjjbpmdghcbaaGreat.P11
end Go.Proofs.YtnkjjbpmdghcbaaGreat.P11
namespace Go.Proofs.YtnkjjbpmdghcbaaGreat.P3
end Go.Proofs.YtnkjjbpmdghcbaaGreat.P3
namespace Go.Proofs.YtnkjjbpmdghcbaaGreat
open Go.RowKit P1 P3 P5 P9 P11 P12 P14 P15 K
set_option linter.unusedVariables false
set_option linter.unusedSimpArgs false

def namedBy (es : List EvV) (id : Int) : Bool := es.any (fun e => inL e.prev id)
def endsGo (es : List EvV) : List EvV → List Int → List Int
 | [], L => L
 | e :: r, L => endsGo es r (if namedBy es e.id then L else addI L e.id)
def endsOf (es : List EvV) : List Int := endsGo es es []

theorem endsGo_at {es l : List EvV} {L : List Int} {j : Nat} {e : EvV} (h : l[j]? = some e) : endsGo es (l.drop j) L = endsGo es (l.drop (j + 1)) (if namedBy es e.id then L else addI L e.id) := by
 obtain ⟨hj, rfl⟩ := List.getElem?_eq_some_iff.1 h
 rw [List.drop_eq_getElem_cons hj]
 rfl

theorem named_take {es : List EvV} {id : Int} {k : Nat} {e : EvV} (h : es[k]? = some e) : namedBy (es.take (k + 1)) id = (namedBy (es.take k) id || inL e.prev id) := by
 unfold namedBy
 exact any_take h

theorem l05In11_back (oa : Option Addr) (n cap : Nat) (zs : List Int) (x : Int) (w : World) (hat : IntsAt w oa n cap zs) :
  Calls Tryz.prog 74 #[.slice oa n cap, .int .i64 x] w fun e w' => e = .returned (.bool (inL zs x)) ∧ w' = w := (l05In11_any oa n cap zs x w hat).mono fun _ _ h => ⟨h.1, h.2.symm⟩

set_option maxRecDepth 100000 in
set_option maxHeartbeats 8000000 in
theorem specEndsOf_any (oa : Option Addr) (n cap : Nat) (es : List EvV) (vs vg : Value) (hn20 : n ≤ 1048576) (hidw : ∀ e ∈ es, (Lit.int .i64 e.id).wf = true) (w : World) (hat : EvsAt w oa n cap es) :
  Calls Tryz.prog 69 #[rmv (.slice oa n cap) vs vg] w fun r w' => IntPost w (endsOf es) r w' ∧ ∀ z ∈ endsOf es, (Lit.int .i64 z).wf = true := by
 have HN := hide hat.len
 have HAT := hide hat
 obtain ⟨W0, hW0⟩ : ∃ W0, w.alloc (.cells #[.slice oa n cap, vs, vg] 41) = W0 := ⟨_, rfl⟩
 have hb0 : Below w.heap.size w W0 := by rw [← hW0]; exact (Below.refl w.heap.size w).alloc (Nat.le_refl _) _
 have hR0 : W0.heap[w.heap.size]? = some (.cells #[.slice oa n cap, vs, vg] 41 (0, 0)) := by rw [← hW0]; exact heap_alloc_new _ _
 have HR0 := hide hR0
 have HB0 := hide hb0
 have HW0 := hide hW0
 have hs0 : W0.heap.size = w.heap.size + 1 := by rw [← hW0]; simp
 have HO0 := hide (show OutN W0 (W0.alloc (.cells #[] 3)) (.slice (some ⟨w.heap.size + 1, 0, none⟩) 0 0) [] from by have h := OutN.new W0; rw [hs0] at h; exact h)
 have HADD := hide (fun (oo : Option Addr) (m co : Nat) (L : List Int) (x : Int) w1 (h : IntsAt w1 oo m co L) (hm : m ≤ 1048576) => l11Add_any oo m co L x hm w1 h)
 obtain ⟨R, hR⟩ : ∃ R, endsOf es = R := ⟨_, rfl⟩
 rw [hR]
 have HR := hide (show endsGo es es [] = R from hR)
 clear hat hR0 hW0 hb0 hR
 go_enter Tryz.func69, Tryz.ntmps69
 go_wp2_with fail
 rw [HW0.out]
 go_loopw [3, 4] (fun v i wr => ∃ (j : Nat) (oo : Option Addr) (m co : Nat) (L : List Int), i = .int .i64 (j : Int) ∧ v = .slice oo m co ∧ j ≤ n ∧ L.length ≤ j ∧ endsGo es (es.drop j) L = R ∧ (∀ z ∈ L, (Lit.int .i64 z).wf = true) ∧ wr.ownsRow w.heap.size 3 1 (.slice oo m co) L.length (L.map icell) ∧ Below W0.heap.size W0 wr) (fun _ i _ => n - (intOf i).toNat)
 case atStart => exact ⟨0, _, _, _, [], rfl, rfl, Nat.zero_le _, Nat.le_refl _, HR.out, fun z hz => by simp at hz, own_base HO0.out.own HB0.out.size, HO0.out.bel⟩
 case round =>
  obtain ⟨j, oo, m, co, L, rfl, rfl, hj, hLj, hrest, hwf, hown, hbel⟩ := hrel
  have hm : m = L.length := by
   obtain ⟨_, _, e⟩ := row_form hown
   injection e
  subst hm
  have HO := hide hown
  have HWF := hide hwf
  have HBL := hide hbel
  obtain ⟨wD, rfl⟩ : ∃ wD, wD = wr := ⟨_, rfl⟩
  have hRr := (hbel.block w.heap.size (blk_lt HR0.out)).trans HR0.out
  have HRD := hide hRr
  have hbWD : Below w.heap.size w wD := HB0.out.trans (hbel.mono HB0.out.size)
  have HWD := hide hbWD
  have HED := hide (HAT.out.below hbWD)
  have r0 := blk_cell hRr 0 rfl
  have hlr := blk_lt hRr
  clear hRr hown hwf HO0 HR hbel
  by_cases hlt : j < n
  ·have j0 : (j : Int) < (n : Int) := by omega
   obtain ⟨e, b, q, xa, xc, ya, yc, he, hidx, hev⟩ := HED.out.get Tryz.underlying24 infoIV j hlt
   have hwe := hidw e (List.mem_of_getElem? he)
   obtain ⟨c0, c1, c2, c3, c4, c5, c6, c7, c8⟩ := hev.cs
   have hbe := cell_lt c0
   rw [endsGo_at he] at hrest
   have HREST := hide hrest
   clear hrest he hev c1 c2 c3 c4 c5 c6 c7 c8
   go_wp2_with fail
   go_loopw [5, 6] (fun v k wr => ∃ (i : Nat) (nb : Bool), k = .int .i64 (i : Int) ∧ v = .bool nb ∧ i ≤ n ∧ namedBy (es.take i) e.id = nb ∧ Below wD.heap.size wD wr) (fun _ k _ => n - (intOf k).toNat)
   case atStart => exact ⟨0, false, rfl, rfl, Nat.zero_le _, rfl, Below.refl _ _⟩
   case round =>
    obtain ⟨i, nb, rfl, rfl, hi, hnb, hbD⟩ := hrel
    have r0r := (hbD.cell hlr).trans r0
    have hlrr := Nat.lt_of_lt_of_le hlr hbD.size
    have c0r := (hbD.cell hbe).trans c0
    have hber := Nat.lt_of_lt_of_le hbe hbD.size
    by_cases hlti : i < n
    ·have i0 : (i : Int) < (n : Int) := by omega
     obtain ⟨e2, b2, q2, xa2, xc2, ya2, yc2, he2, hidx2, hev2⟩ := (HED.out.below hbD).get Tryz.underlying24 infoIV i hlti
     have HT := hide (named_take (id := e.id) he2)
     rw [hnb] at HT
     obtain ⟨d0, d1, d2, d3, d4, d5, d6, d7, d8⟩ := hev2.cs
     have HIN := hide (fun wx (hb : Below wr.heap.size wr wx) => l05In11_back ya2 e2.prev.length yc2 e2.prev e.id wx (hev2.prv.below hb))
     generalize inL e2.prev e.id = ib at HIN HT
     have hb2e := cell_lt d7
     clear hev2 he2 d0 d1 d2 d3 d4 d5 d6 d8 hnb
     cases nb
     ·rw [Bool.false_or] at HT
      go_wp2_with fail
      go_quiet (first
       | (go_at_call 74; with_reducible exact Calls.quiet_of_same (HIN.out _ (below_drewN (Below.refl _ _) _))))
      have hbQ : Below wr.heap.size wr (wr.drewN nq) := below_drewN (Below.refl _ _) nq
      have HBQ := hide (hbD.trans (hbQ.mono hbD.size))
      generalize wr.drewN nq = wQ at HBQ hbQ ⊢
      go_wp2_with fail
      go_roundw
      case rel => exact ⟨i + 1, _, by go_num, rfl, by omega, HT.out, HBQ.out⟩
      case measure => simp [intOf]; omega
     ·rw [Bool.true_or] at HT
      go_wp2_with fail
      go_quiet (first
       | fail)
      have hbQ : Below wr.heap.size wr (wr.drewN nq) := below_drewN (Below.refl _ _) nq
      have HBQ := hide (hbD.trans (hbQ.mono hbD.size))
      generalize wr.drewN nq = wQ at HBQ hbQ ⊢
      go_wp2_with fail
      go_roundw
      case rel => exact ⟨i + 1, _, by go_num, rfl, by omega, HT.out, HBQ.out⟩
      case measure => simp [intOf]; omega
    ·have hit : es.take i = es := List.take_of_length_le (by rw [HN.out]; omega)
     rw [hit] at hnb
     clear hit
     have HOr := hide (own_below HO.out hbD)
     have HBr := hide (HBL.out.trans (hbD.mono HBL.out.size))
     have hl20 : L.length ≤ 1048576 := by omega
     cases nb
     ·have HE := hide (show endsGo es (es.drop (j + 1)) (addI L e.id) = R by have h := HREST.out; rw [hnb] at h; exact h)
      have hal := addI_len L e.id
      obtain ⟨_, _, heo, hio⟩ := intsAt_of_own HOr.out HWF.out
      cases heo
      have HA := hide (HADD.out _ _ _ L e.id wr hio hl20)
      clear hnb HREST hio
      go_wp2_with (go_at_call 72; refine HA.out.mono ?_; rintro r w5 ⟨v5, rfl, hown5, hb5⟩; obtain ⟨o5, c5, rfl⟩ := row_form hown5)
      have HO5 := hide (own_base hown5 (Nat.le_trans HWD.out.size hbD.size))
      have HB5 := hide (HBr.out.trans (hb5.mono HBr.out.size))
      clear hown5 hb5
      go_roundw
      case rel => exact ⟨j + 1, _, _, _, addI L e.id, by go_num, rfl, by omega, by omega, HE.out, addI_wf HWF.out hwe, HO5.out, HB5.out⟩
      case measure => simp [intOf]; omega
     ·have HE := hide (show endsGo es (es.drop (j + 1)) L = R by have h := HREST.out; rw [hnb] at h; exact h)
      clear hnb HREST
      go_wp2_with fail
      go_roundw
      case rel => exact ⟨j + 1, _, _, _, L, by go_num, rfl, by omega, by omega, HE.out, HWF.out, HOr.out, HBr.out⟩
      case measure => simp [intOf]; omega
  ·have hdr : es.drop j = [] := List.drop_eq_nil_of_le (by rw [HN.out]; omega)
   rw [hdr] at hrest
   have HE := hide (show L = R from hrest)
   clear hrest hdr
   go_wp2_with fail
   go_ret
   exact ⟨⟨_, rfl, by rw [← HE.out]; exact HO.out, hbWD⟩, by rw [← HE.out]; exact HWF.out⟩

end Go.Proofs.YtnkjjbpmdghcbaaGreat
