/-
  Walks and mathematics of Bk1.
-/
import Derived.Test.YtoalbeiinlcgpaaKRangeCap
import Derived.Test.YtoalbeiinlcgpaaKNode1
import Derived.Test.YtoalbeiinlcgpaaKShelf
import Derived.Shelf.Abstract
import Derived.Shelf.RegionOpen
import Derived.OwnWalkIn
import Derived.TacticsInMore
import Derived.LoopNIn
import Derived.LoopIn
import Derived.RangeFuncBox
namespace Go.Proofs.Ytoalbeiinlcgpaa.P5
end Go.Proofs.Ytoalbeiinlcgpaa.P5
namespace Go.Proofs.Ytoalbeiinlcgpaa
open Go.RowKit P1 P5 P9 K Go.Shelf
set_option linter.unusedVariables false
set_option linter.unusedSimpArgs false

attribute [local go_sem] Oper.semAt_some

def bkEnc (x : Nat × EntV) : Array Value := #[.int .i64 (x.1 : Int), eval x.2]

def bkAt (es : List EntV) (j : Nat) : Nat × EntV := (es.length - 1 - j, es[es.length - 1 - j]?.getD ⟨0, 0, ⟨#[]⟩⟩)

def bkUp (es : List EntV) (k : Nat) : List (Nat × EntV) := (List.range k).map (bkAt es)

theorem bkUp_succ (es : List EntV) (k : Nat) : bkUp es (k + 1) = bkUp es k ++ [bkAt es k] := by simp [bkUp, List.range_succ]

theorem bkUp_length (es : List EntV) (k : Nat) : (bkUp es k).length = k := by simp [bkUp]

def BkT (Bs : Nat) (oa : Option Addr) (n cap : Nat) (es : List EntV) (W : World) : Prop := W.cell? ⟨Bs, 0, none⟩ = some (.slice oa n cap) ∧ EntsAt W oa n cap es

set_option maxRecDepth 100000 in
set_option maxHeartbeats 2000000 in
theorem backward_seq (m : Nat) (hm : 1 ≤ m) (Bs : Nat) (oa : Option Addr) (n cap : Nat) (es : List EntV) (hn : n ≤ 1048576) :
    SeqCap Fence.wide m Try.prog 85 #[.pointer (some ⟨Bs, 0, none⟩)] bkEnc (BkT Bs oa n cap es) (fun pre x => pre.length < n ∧ x = bkAt es pre.length) (fun xs => xs = bkUp es n) (fun xs => ∃ k, k < n ∧ xs = bkUp es (k + 1)) := by
  intro l J Jx W hJB hJT hY h0
  refine callsIn_of_wp Try.func85 rfl trivial ?_ rfl
  simp only [Try.ntmps85, List.size_toArray, List.length_cons, List.length_nil, Nat.reduceAdd, Nat.reduceSub, Array.replicate_succ, Array.replicate_zero, List.push_toArray, List.append_toArray, List.nil_append, List.cons_append]
  have hb0 := (hJT _ _ h0).1
  gi_wp2
  gi_loopw [3] (fun i wr => ∃ p : Nat, p ≤ n ∧ i = .int .i64 ((p : Int) - 1) ∧ J (bkUp es (n - p)) wr) (fun i _ => (intOf i + 1).toNat)
  case atStart => exact ⟨n, Nat.le_refl _, rfl, by rw [Nat.sub_self]; exact h0⟩
  case round =>
    obtain ⟨p, hp, rfl, hJ⟩ := hrel
    obtain ⟨hc, hat⟩ := hJT _ _ hJ
    cases p with
    | zero =>
      gi_wp2
      go_end0
      exact ⟨⟨_, rfl⟩, .inl ⟨_, rfl, by simpa using hJ⟩⟩
    | succ q =>
      rw [show (((q + 1 : Nat) : Int) - 1) = (q : Int) from by omega]
      obtain ⟨f, b, o, hf, hidx, hb, c0, c1, c2⟩ := hat.get3 Try.underlying31 infoIE q (by omega)
      have hx : bkAt es (n - (q + 1)) = (q, f) := by
        have hl := hat.len
        unfold bkAt
        rw [hl, show n - 1 - (n - (q + 1)) = q from by omega, hf]
        rfl
      obtain ⟨fn, tmps, assign, body, hy, hR⟩ := hY _ (q, f) wr hJ ⟨by rw [bkUp_length]; omega, by rw [bkUp_length, hx]⟩
      dsimp only [bkEnc, eval] at hy
      have HR := hide hR
      have HX := hide hx
      clear hR hx hf hat hJ
      gi_wp2
      refine HR.out.mono ?_
      rintro e W3 (⟨rfl, hJ3⟩ | ⟨rfl, hJx3⟩)
      · gi_wp2
        go_roundw
        case rel => exact ⟨q, by omega, by go_num, by
          have h1 : n - q = n - (q + 1) + 1 := by omega
          rw [h1, bkUp_succ, HX.out]; exact hJ3⟩
        case measure => (simp [intOf] <;> omega)
      · gi_wp2
        refine bodyPost_ret (results_none rfl _ _ _) rfl ?_
        exact ⟨⟨_, rfl⟩, .inr ⟨_, ⟨n - (q + 1), by omega, by rw [bkUp_succ, HX.out]⟩, hJx3⟩⟩

set_option maxHeartbeats 1000000 in
theorem backward_in (m : Nat) (a : Option Addr) (len cap : Nat) (w : World) :
    CallsIn Fence.wide m Try.prog 81 #[.slice a len cap] w fun e w' => e = .returned (.func (.func 85) #[] #[.pointer (some ⟨w.heap.size, 0, none⟩)]) ∧ w' = w.alloc (.cells #[.slice a len cap] 31) := by
  refine callsIn_of_wp Try.func81 rfl trivial ?_ rfl
  simp only [Try.ntmps81, List.size_toArray, List.length_cons, List.length_nil, Nat.reduceAdd, Nat.reduceSub, Array.replicate_succ, Array.replicate_zero, List.push_toArray, List.append_toArray, List.nil_append, List.cons_append]
  gi_wp2
  go_ret
  exact ⟨rfl, rfl⟩

end Go.Proofs.Ytoalbeiinlcgpaa
