/-
  Walks and mathematics of Evs3.
-/
import Derived.Test.YtckkfjmjcknjdaaSHEvs2
namespace Go.Proofs.Ytckkfjmjcknjdaa.P1
end Go.Proofs.Ytckkfjmjcknjdaa.P1
namespace Go.Proofs.Ytckkfjmjcknjdaa.P11
end Go.Proofs.Ytckkfjmjcknjdaa.P11
namespace Go.Proofs.Ytckkfjmjcknjdaa.P14
end Go.Proofs.Ytckkfjmjcknjdaa.P14
namespace Go.Proofs.Ytckkfjmjcknjdaa.P3
end Go.Proofs.Ytckkfjmjcknjdaa.P3
namespace Go.Proofs.Ytckkfjmjcknjdaa.P5
end Go.Proofs.Ytckkfjmjcknjdaa.P5
namespace Go.Proofs.Ytckkfjmjcknjdaa
open Go.RowKit P1 P3 P5 P9 P11 P12 P14 K
set_option linter.unusedVariables false
set_option linter.unusedSimpArgs false

set_option maxHeartbeats 4000000 in
theorem eqEventS_same (oa : Option Addr) (n cap : Nat) (es : List EvV) (ob : Option Addr) (cap' : Nat) (hfine : FineE es) (w : World) (hat : EvsAt w oa n cap es) (hbt : EvsAt w ob n cap' es) :
    Calls Try.prog 36 #[.slice oa n cap, .slice ob n cap'] w fun e w' => e = .returned (.bool true) ∧ Below w.heap.size w w' := by
  have hmx := Nat.le_trans hat.room hat.most
  unfold maxLen at hmx
  have HAT := hide hat
  have HBT := hide hbt
  have HFI := hide hfine
  clear hat hbt hfine
  go_enter Try.func36, Try.ntmps36
  go_wp2_with fail
  go_loopw [5] (fun i wr => ∃ (j : Nat), i = .int .i64 (j : Int) ∧ j ≤ n ∧ Below w.heap.size w wr) (fun i _ => n - (intOf i).toNat)
  case atStart => exact ⟨0, rfl, Nat.zero_le _, Below.refl _ _⟩
  case round =>
    obtain ⟨j, rfl, hj, hbel⟩ := hrel
    have hsz := hbel.size
    by_cases hlt : j < n
    · have j0 : (j : Int) < (n : Int) := by omega
      obtain ⟨e, b, q, xa, xc, ya, yc, he, hidx, hev⟩ := (HAT.out.below hbel).get Try.underlying23 infoIV j hlt
      obtain ⟨e', b', q', xa', xc', ya', yc', he', hidx', hev'⟩ := (HBT.out.below hbel).get Try.underlying23 infoIV j hlt
      have hee : e = e' := by rw [he] at he'; exact Option.some.inj he'
      subst hee
      obtain ⟨l1, l2, l3⟩ := HFI.out.one (List.mem_of_getElem? he)
      clear he he'
      have hb := hev.lt
      have hb' := hev'.lt
      obtain ⟨c0, c1, c2, c3, c4, c5, c6, c7, c8⟩ := hev.cs
      obtain ⟨d0, d1, d2, d3, d4, d5, d6, d7, d8⟩ := hev'.cs
      have HC := hide (fun (w2 : World) (hb2 : Below wr.heap.size wr w2) => eqEvent_same e.id e.kind e.sender e.user e.member e.depth xa e.levels.length xc e.text ya e.prev.length yc e.levels e.prev xa' ya' xc' yc' l1 l3 w2 (hev.lev.below hb2) (hev'.lev.below hb2) (hev.prv.below hb2) (hev'.prv.below hb2))
      clear hev hev'
      go_wp2_with fail
      refine wp_region_in (F := fun w' => Below wr.heap.size wr w') (by kernel_rfl) (by kernel_rfl) (Below.refl _ _).drew ?_
      have hne : Nonempty (InW (fun w' => Below wr.heap.size wr w')) := ⟨⟨_, Below.refl _ _⟩⟩
      have k0 : ∀ m : InW (fun w' => Below wr.heap.size wr w'), m.w.cell? ⟨b, q, none⟩ = some (.int .i64 e.id) := fun m => (m.h.cell hb).trans c0
      have k1 : ∀ m : InW (fun w' => Below wr.heap.size wr w'), m.w.cell? ⟨b, q + 1, none⟩ = some (.int .i64 e.kind) := fun m => (m.h.cell hb).trans c1
      have k2 : ∀ m : InW (fun w' => Below wr.heap.size wr w'), m.w.cell? ⟨b, q + 2, none⟩ = some (.int .i64 e.sender) := fun m => (m.h.cell hb).trans c2
      have k3 : ∀ m : InW (fun w' => Below wr.heap.size wr w'), m.w.cell? ⟨b, q + 3, none⟩ = some (.int .i64 e.user) := fun m => (m.h.cell hb).trans c3
      have k4 : ∀ m : InW (fun w' => Below wr.heap.size wr w'), m.w.cell? ⟨b, q + 4, none⟩ = some (.int .i64 e.member) := fun m => (m.h.cell hb).trans c4
      have k5 : ∀ m : InW (fun w' => Below wr.heap.size wr w'), m.w.cell? ⟨b, q + 5, none⟩ = some (.slice xa e.levels.length xc) := fun m => (m.h.cell hb).trans c5
      have k6 : ∀ m : InW (fun w' => Below wr.heap.size wr w'), m.w.cell? ⟨b, q + 6, none⟩ = some (.string ⟨e.text.toArray⟩) := fun m => (m.h.cell hb).trans c6
      have k7 : ∀ m : InW (fun w' => Below wr.heap.size wr w'), m.w.cell? ⟨b, q + 7, none⟩ = some (.slice ya e.prev.length yc) := fun m => (m.h.cell hb).trans c7
      have k8 : ∀ m : InW (fun w' => Below wr.heap.size wr w'), m.w.cell? ⟨b, q + 8, none⟩ = some (.int .i64 e.depth) := fun m => (m.h.cell hb).trans c8
      have m0 : ∀ m : InW (fun w' => Below wr.heap.size wr w'), m.w.cell? ⟨b', q', none⟩ = some (.int .i64 e.id) := fun m => (m.h.cell hb').trans d0
      have m1 : ∀ m : InW (fun w' => Below wr.heap.size wr w'), m.w.cell? ⟨b', q' + 1, none⟩ = some (.int .i64 e.kind) := fun m => (m.h.cell hb').trans d1
      have m2 : ∀ m : InW (fun w' => Below wr.heap.size wr w'), m.w.cell? ⟨b', q' + 2, none⟩ = some (.int .i64 e.sender) := fun m => (m.h.cell hb').trans d2
      have m3 : ∀ m : InW (fun w' => Below wr.heap.size wr w'), m.w.cell? ⟨b', q' + 3, none⟩ = some (.int .i64 e.user) := fun m => (m.h.cell hb').trans d3
      have m4 : ∀ m : InW (fun w' => Below wr.heap.size wr w'), m.w.cell? ⟨b', q' + 4, none⟩ = some (.int .i64 e.member) := fun m => (m.h.cell hb').trans d4
      have m5 : ∀ m : InW (fun w' => Below wr.heap.size wr w'), m.w.cell? ⟨b', q' + 5, none⟩ = some (.slice xa' e.levels.length xc') := fun m => (m.h.cell hb').trans d5
      have m6 : ∀ m : InW (fun w' => Below wr.heap.size wr w'), m.w.cell? ⟨b', q' + 6, none⟩ = some (.string ⟨e.text.toArray⟩) := fun m => (m.h.cell hb').trans d6
      have m7 : ∀ m : InW (fun w' => Below wr.heap.size wr w'), m.w.cell? ⟨b', q' + 7, none⟩ = some (.slice ya' e.prev.length yc') := fun m => (m.h.cell hb').trans d7
      have m8 : ∀ m : InW (fun w' => Below wr.heap.size wr w'), m.w.cell? ⟨b', q' + 8, none⟩ = some (.int .i64 e.depth) := fun m => (m.h.cell hb').trans d8
      repeat (go_big_quiet_step (first | (go_at_call 67; refine (HC.out _ (InW.h _)).mono ?_; rintro e' w2 ⟨rfl, hb2⟩; exact ⟨rfl, ⟨w2, Below.trans (InW.h _) (hb2.mono (Below.size (InW.h (F := fun w' => Below wr.heap.size wr w') ‹_›)))⟩, rfl⟩)))
      refine wpQuiet_nil ?_
      intro _ hw'
      obtain ⟨nq, hw''⟩ := hw'
      subst hw''
      have hb3 := hbel.trans (nq.h.mono hsz)
      generalize nq.w = w2 at hb3 ⊢
      clear hne k0 k1 k2 k3 k4 k5 k6 k7 k8 m0 m1 m2 m3 m4 m5 m6 m7 m8 c0 c1 c2 c3 c4 c5 c6 c7 c8 d0 d1 d2 d3 d4 d5 d6 d7 d8
      go_wp2_with fail
      go_roundw
      case rel => exact ⟨j + 1, by go_num, by omega, hb3⟩
      case measure => simp [intOf]; omega
    · have hjn : j = n := by omega
      go_wp2_with fail
      go_ret
      exact ⟨rfl, hbel⟩

end Go.Proofs.Ytckkfjmjcknjdaa
