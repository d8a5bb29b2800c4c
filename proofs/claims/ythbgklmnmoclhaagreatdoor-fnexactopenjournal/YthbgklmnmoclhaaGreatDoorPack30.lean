/-
  A range over a method value: the receiver is bound ahead of yield. Every round goes on; the iterator may make new memory between two rounds.
  Walks of chapter 4: the reader of frames, and Unframe of the program.
  A range over a method value whose rounds may stop it: the receiver is bound ahead of yield; the iterator may make new memory between two rounds.
  The reader of frames, where a round may stop it.
-/
import Derived.RangeFuncNested
import Derived.RangeFuncBound
import Derived.RangeFuncCalls
import Derived.RangeFuncLeaves
import Derived.Test.YthbgklmnmoclhaaGreatDoorPack26
import Derived.Shelf.Abstract
import Derived.Shelf.RegionOpen
import Derived.OwnWalkIn
import Derived.TacticsInMore
import Derived.LoopNIn
import Derived.LoopIn
import Derived.Maps.AppendAt
import Derived.RangeFuncBox
namespace Go.Proofs.YthbgklmnmoclhaaGreatDoor.K
open Go Go.RowKit

/-- How a round ends: it goes on. -/
def goesOn (B : Nat) (J : World → Prop) (W : World) : Exit → Act → World → Prop
  | .normal, _, W' => KeepsFrom B W W' ∧ J W'
  | _, _, _ => False

/-- What is asked of the iterator: for whatever is held between two rounds, if new memory leaves it, and T can be read off it. -/
def SeqAll {α : Type} (F : Fence) (n : Nat) (P : Program) (gf : Nat) (fb : Array Value) (encs : α → Array Value) (T : World → Prop) (S : List α → Prop) (N : Nat) : Prop :=
  ∀ (l : Nat) (J : List α → World → Prop) (W : World), (∀ xs A B, J xs A → Below A.heap.size A B → J xs B) → (∀ xs A, J xs A → T A) →
    (∀ pre x W1, J pre W1 → pre.length < N → YieldAt F (n - 1) P l (encs x) W1 fun e W' => e = .returned (.bool true) ∧ J (pre ++ [x]) W') → J [] W →
    CallsIn F n P gf (fb ++ #[.func (.yield l) #[] #[]]) W fun e W' => (∃ v, e = .returned v) ∧ ∃ xs, S xs ∧ J xs W'

variable {F : Fence} {n : Nat} {P : Program}

theorem wpIn_rangeBound {α : Type} {g : Operand} {ps : Array Tmp} {assign body : Code} {Q : Exit → Act → World → Prop} {a : Act} {w : World}
    (hro : F.round = none) (h1 : 1 ≤ n) {gf : Nat} {fb : Array Value} (hg : a.eval g = .func (.func gf) fb #[]) (hFg : F.fn gf) (eg : ∀ args w, (callFunc gf args).run P w = .ok (.enter gf args) w)
    {encs : α → Array Value} {T : World → Prop} {S : List α → Prop} {N : Nat} (hseq : SeqAll F (n - 1) P gf fb encs T S N) (hps : ∀ x, (encs x).size = ps.size)
    (I : List α → World → Prop) (hI : OwnFrom w.heap.size I) (hIT : ∀ xs W, I xs W → T W) (h0 : I [] w) (a₁ : α → Act)
    (hassign : ∀ (l : Nat) (x : α) (W : World) (K : Act → World → Prop), K (a₁ x) W →
      assign.wpIn (F.inRound l) (n - 1 - 1) P (Exit.then K (fun _ _ _ => False)) { tmps := (ps.zip (encs x)).foldl (fun t (p, v) => t.setIfInBounds p v) a.tmps, defers := [] } W)
    (hbody : ∀ (l : Nat) (pre : List α) (x : α) (W : World), I pre W → pre.length < N → body.wpIn (F.inRound l) (n - 1 - 1) P (goesOn w.heap.size (I (pre ++ [x])) W) (a₁ x) W)
    (hdone : ∀ (D : Nat) (xs : List α) (W : World), w.heap.size ≤ D → S xs → I xs W → W.heap[D]? = some (.deferred (some [])) → Q .normal { a with defers := { target := .collected D, args := #[] } :: a.defers } W) :
    (Code.rangeFunc g ps assign body).wpIn F n P Q a w := by
  have noRow : ∀ {A : World} {B : Nat}, ∀ r, (none : Option Nat) = some r → B ≤ r ∧ ∃ o : Obj, A.heap[r]? = some o ∧ o.isCells = false := fun r e => by cases e
  have grow : ∀ {A B : World}, Below A.heap.size A B → A.grownBy B none := fun h => ⟨h.os, h.tape, h.output, h.size, fun i hi _ => h.block i hi⟩
  refine wpIn_rangeFunc fun fn hfn => ?_
  rw [hro]
  let R : LoopState → Loop := fun st => { state := st, pending := none, fn := fn, tmps := a.tmps, params := ps, assign := assign, body := body, defers := w.heap.size }
  let L := w.heap.size + 1
  let W1 := (w.alloc (.deferred (some []))).alloc (.loop (R .ready))
  let J : List α → World → Prop := fun xs W => I xs W ∧ W.heap[L]? = some (.loop (R .ready)) ∧ W.heap[w.heap.size]? = some (.deferred (some []))
  have hL1 : W1.heap[L]? = some (.loop (R .ready)) := by
    have := World.alloc_heap_new (w.alloc (.deferred (some []))) (.loop (R .ready))
    rwa [World.size_alloc] at this
  have hD1 : W1.heap[w.heap.size]? = some (.deferred (some [])) := (Below.heap_alloc _ _ _ (by simp)).trans (World.alloc_heap_new w _)
  have hJ1 : J [] W1 := ⟨hI.alloc _ (hI.alloc _ h0), hL1, hD1⟩
  have hJB : ∀ xs A B, J xs A → Below A.heap.size A B → J xs B := fun xs A B hj hb =>
    ⟨hI xs A B none hj.1 (grow hb) noRow, (hb.block _ (Array.getElem?_eq_some_iff.1 hj.2.1).1).trans hj.2.1, (hb.block _ (Array.getElem?_eq_some_iff.1 hj.2.2).1).trans hj.2.2⟩
  refine ⟨L, [{ target := .collected w.heap.size, args := #[] }], W1, { target := .fn (.func gf) #[], args := fb ++ #[.func (.yield L) #[] #[]] }, W1, gf, fb ++ #[.func (.yield L) #[] #[]], W1, run_enterLoop_outer _ _ _ _ _, ?_, ?_, ?_, fun _ => h1, ?_⟩
  · simp only [resolve, hg]
    simp [go_sem]
  · intro f' hf'; simp [Target.leads] at hf'; subst hf'; exact hFg
  · simp [invoke, go_sem, eg]
  refine (hseq L J W1 hJB (fun xs A hj => hIT xs A hj.1) ?_ hJ1).mono ?_
  · rintro pre x W ⟨hi, hl, hk⟩ hlen
    have hlt : L < W.heap.size := (Array.getElem?_eq_some_iff.1 hl).1
    refine ⟨fn, _, assign, body, run_yield (P := P) (args := encs x) hl (hps x), roundIn_of_wpIn hfn (hassign _ x W _ ⟨_, run_beginRound hl rfl, ?_⟩)⟩
    refine wpIn_mono (hbody _ pre x _ (hI.putObj _ hi (Nat.le_succ _) hl rfl) hlen) ?_
    rintro e a3 W3 hp
    cases e with
    | normal =>
      obtain ⟨hk3, hi3⟩ := hp
      have hl3 := hk3.same L _ (Nat.le_succ _) (World.putObj_heap_same hlt) rfl
      have hD3 := hk3.same w.heap.size _ (Nat.le_refl _) ((World.putObj_heap_other (Nat.ne_of_lt (Nat.lt_succ_self _))).trans hk) rfl
      exact ⟨_, _, run_endRound (P := P) none hl3, rfl, hI.putObj _ hi3 (Nat.le_succ _) hl3 rfl, World.putObj_heap_same (Array.getElem?_eq_some_iff.1 hl3).1, (World.putObj_heap_other (Nat.ne_of_lt (Nat.lt_succ_self _))).trans hD3⟩
    | ret => exact hp.elim
    | exit id => exact hp.elim
    | goto t => exact hp.elim
    | panic ch => exact hp.elim
    | outgrown => exact hp.elim
  · rintro e W2 ⟨⟨v, rfl⟩, xs, hS, hi, hl, hk⟩
    exact ⟨none, _, run_endLoop (P := P) hl (by simp [R]), hdone _ xs _ (Nat.le_refl _) hS (hI.putObj _ hi (Nat.le_succ _) hl rfl) ((World.putObj_heap_other (Nat.ne_of_lt (Nat.lt_succ_self _))).trans hk)⟩

end Go.Proofs.YthbgklmnmoclhaaGreatDoor.K

namespace Go.Proofs.YthbgklmnmoclhaaGreatDoor
open Go.RowKit P1 K P3 Go.Shelf
set_option linter.unusedVariables false

attribute [local go_sem] Oper.semAt_some

/-- A record and the place behind it, as they are handed on. -/
def handed (x : List UInt8 × Nat) : Array Value := #[.string ⟨x.1.toArray⟩, .int .i64 (x.2 : Int)]

/-- The place behind the last. -/
def endOf (xs : List (List UInt8 × Nat)) : Nat := xs.foldl (fun _ x => x.2) 0
theorem endOf_snoc (xs : List (List UInt8 × Nat)) (x : List UInt8 × Nat) : endOf (xs ++ [x]) = x.2 := by simp [endOf]

/-- All records came. -/
def allCame (l : List UInt8) (xs : List (List UInt8 × Nat)) : Prop := unframeL l = (xs.map (·.1), endOf xs)

set_option maxRecDepth 100000 in
set_option maxHeartbeats 2000000 in
theorem each_all (s : ByteArray) (hs : s.size ≤ 1048576) (n : Nat) (hn : 1 ≤ n) :
    SeqAll Fence.wide n Tryz.prog 77 #[.string s] handed SumTabIs (allCame (bl s)) 20000 := by
  intro l J W hJB hJT hY h0
  have hbl := bl_length s
  refine callsIn_of_wp Tryz.func77 rfl trivial ?_ rfl
  simp only [Tryz.ntmps77, List.size_toArray, List.length_cons, List.length_nil, Nat.reduceAdd, Nat.reduceSub, Array.replicate_succ, Array.replicate_zero, List.push_toArray, List.append_toArray, List.nil_append, List.cons_append]
  by_cases hlong : 20000 < s.size
  · have hno := hide (unframeL_long (l := bl s) (by rw [hbl]; exact hlong))
    gi_wp2
    refine bodyPost_ret (results_none rfl _ _ _) rfl ?_
    exact ⟨⟨_, rfl⟩, [], hno.out, h0⟩
  · gi_wp2
    gi_loopw [4] (fun p wr => ∃ xs : List (List UInt8 × Nat), p = .int .i64 (endOf xs : Int) ∧ UnfRel (bl s) (endOf xs) (xs.map (·.1)) ∧ J xs wr) (fun p _ => s.size - (intOf p).toNat)
    case atStart => exact ⟨[], rfl, UnfRel.start (by rw [hbl]; omega), h0⟩
    case round =>
      obtain ⟨xs, rfl, hr, hJ⟩ := hrel
      have ha : endOf xs ≤ s.size := by obtain ⟨f, _, h2, _⟩ := hr; omega
      have hxl : xs.length ≤ endOf xs := by obtain ⟨f, _, _, _, h4, _⟩ := hr; simpa using h4
      have HR := hide hr
      have hFA := hide (implFrameAt_any s hs (endOf xs) ha)
      clear hr
      cases hfa : frameAt (bl s) (endOf xs) with
      | none =>
        have R := hide (HR.out.ended hfa)
        have hf := hFA.out
        rw [hfa, show faVal none = .tuple #[.string ⟨#[]⟩, .int .i64 0, .bool false] from rfl] at hf
        have HF := hide hf
        clear hf hFA hfa
        obtain ⟨a, hae⟩ : ∃ a, endOf xs = a := ⟨_, rfl⟩
        have HA := hide hae
        rw [hae] at HF ⊢
        clear hae
        gi_wp2_with (refine ⟨trivial, ?_⟩; gi_at_call 95; refine (callsIn_wide.2 (HF.out _ (hJT _ _ hJ))).mono ?_; rintro e w1 ⟨rfl, hb1⟩)
        refine ⟨fun _ h => (by cases h), ?_⟩
        gi_wp2
        refine bodyPost_ret (results_none rfl _ _ _) rfl ?_
        exact ⟨⟨_, rfl⟩, xs, by rw [← HA.out] at *; exact R.out, hJB _ _ _ hJ hb1⟩
      | some p =>
        obtain ⟨r, b⟩ := p
        have hb := frameAt_some hfa
        have R := hide (HR.out.next hfa)
        have hf := hFA.out
        rw [hfa, show faVal (some (r, b)) = .tuple #[.string ⟨r.toArray⟩, .int .i64 (b : Int), .bool true] from rfl] at hf
        have HF := hide hf
        clear hf hFA hfa
        rw [hbl] at hb
        obtain ⟨hb1, hb2, hb3⟩ := hb
        obtain ⟨a, hae⟩ : ∃ a, endOf xs = a := ⟨_, rfl⟩
        have HA := hide hae
        rw [hae] at HF ha hxl hb1 ⊢
        clear hae
        gi_wp2_with (refine ⟨trivial, ?_⟩; gi_at_call 95; refine (callsIn_wide.2 (HF.out _ (hJT _ _ hJ))).mono ?_; rintro e w1 ⟨rfl, hbe⟩; obtain ⟨fn, tmps, assign, body, hy, hR⟩ := hY xs (r, b) w1 (hJB _ _ _ hJ hbe) (by omega); dsimp only [handed] at hy)
        refine hR.mono ?_
        rintro e W3 ⟨rfl, hJ3⟩
        gi_wp2
        go_roundw
        case rel => exact ⟨xs ++ [(r, b)], by rw [endOf_snoc], by rw [endOf_snoc, List.map_append]; exact R.out, hJ3⟩
        case measure => simp [intOf]; omega

/-- What the caller's own memory holds between two rounds. -/
def Came (w : World) (xs : List (List UInt8 × Nat)) (W : World) : Prop :=
  ((∃ v, Boxed W (w.heap.size + 1) 78 v ∧ W.ownsRow w.heap.size 9 1 v xs.length (strs (xs.map (·.1))) ∧ ∃ g cap, v = .slice (some ⟨g, 0, none⟩) xs.length cap) ∧
    Boxed W (w.heap.size + 2) 3 (.int .i64 (endOf xs : Int))) ∧ Below w.heap.size w W

theorem came_own (w : World) (B : Nat) (hB : w.heap.size ≤ B) : OwnFrom B (Came w) :=
  OwnFrom.and (OwnFrom.and (Own.from (holdsRow_own w.heap.size (w.heap.size + 1) 78 9 1 (fun xs : List (List UInt8 × Nat) => xs.length) (fun xs => strs (xs.map (·.1))) (fun xs v => ∃ g cap, v = .slice (some ⟨g, 0, none⟩) xs.length cap)) _)
    (Own.from (boxed_own (w.heap.size + 2) 3 (fun xs : List (List UInt8 × Nat) => Value.int .i64 (endOf xs : Int))) _)) (ownFrom_below (Nat.le_refl _) hB)

end Go.Proofs.YthbgklmnmoclhaaGreatDoor

namespace Go.Proofs.YthbgklmnmoclhaaGreatDoor.K
open Go Go.RowKit

/-- How a round ends: it goes on, or leaves by a break. -/
def goesOr (B : Nat) (J : World → Prop) (Jx : Code → World → Prop) (W : World) : Exit → Act → World → Prop
  | .normal, _, W' => KeepsFrom B W W' ∧ J W'
  | .exit id, _, W' => KeepsFrom B W W' ∧ Jx (.exit id) W'
  | _, _, _ => False

/-- What is asked of the iterator: for whatever is held between two rounds, if new memory leaves it, and T can be read off it. -/
def SeqStop {α : Type} (F : Fence) (n : Nat) (P : Program) (gf : Nat) (fb : Array Value) (encs : α → Array Value) (T : World → Prop) (G : List α → α → Prop) (S Sp : List α → Prop) : Prop :=
  ∀ (l : Nat) (J Jx : List α → World → Prop) (W : World), (∀ xs A B, J xs A → Below A.heap.size A B → J xs B) → (∀ xs A, J xs A → T A) →
    (∀ pre x W1, J pre W1 → G pre x → YieldAt F (n - 1) P l (encs x) W1 fun e W' => (e = .returned (.bool true) ∧ J (pre ++ [x]) W') ∨ (e = .returned (.bool false) ∧ Jx (pre ++ [x]) W')) → J [] W →
    CallsIn F n P gf (fb ++ #[.func (.yield l) #[] #[]]) W fun e W' => (∃ v, e = .returned v) ∧ ((∃ xs, S xs ∧ J xs W') ∨ (∃ xs, Sp xs ∧ Jx xs W'))

variable {F : Fence} {n : Nat} {P : Program}

theorem wpIn_rangeStop {α : Type} {g : Operand} {ps : Array Tmp} {assign body : Code} {Q : Exit → Act → World → Prop} {a : Act} {w : World}
    (hro : F.round = none) (h1 : 1 ≤ n) {gf : Nat} {fb : Array Value} (hg : a.eval g = .func (.func gf) fb #[]) (hFg : F.fn gf) (eg : ∀ args w, (callFunc gf args).run P w = .ok (.enter gf args) w)
    {encs : α → Array Value} {T : World → Prop} {G : List α → α → Prop} {S Sp : List α → Prop} (hseq : SeqStop F (n - 1) P gf fb encs T G S Sp) (hps : ∀ x, (encs x).size = ps.size)
    (I : List α → World → Prop) (Ix : Code → List α → World → Prop) (hI : OwnFrom w.heap.size I) (hIx : ∀ c, OwnFrom w.heap.size (Ix c)) (hIT : ∀ xs W, I xs W → T W) (h0 : I [] w) (a₁ : α → Act)
    (hassign : ∀ (l : Nat) (x : α) (W : World) (K : Act → World → Prop), K (a₁ x) W →
      assign.wpIn (F.inRound l) (n - 1 - 1) P (Exit.then K (fun _ _ _ => False)) { tmps := (ps.zip (encs x)).foldl (fun t (p, v) => t.setIfInBounds p v) a.tmps, defers := [] } W)
    (hbody : ∀ (l : Nat) (pre : List α) (x : α) (W : World), I pre W → G pre x → body.wpIn (F.inRound l) (n - 1 - 1) P (goesOr w.heap.size (I (pre ++ [x])) (fun c => Ix c (pre ++ [x])) W) (a₁ x) W)
    (hdone : ∀ (D : Nat) (xs : List α) (W : World), w.heap.size ≤ D → S xs → I xs W → W.heap[D]? = some (.deferred (some [])) → Q .normal { a with defers := { target := .collected D, args := #[] } :: a.defers } W)
    (hstop : ∀ (D : Nat) (c : Code) (xs : List α) (W : World), w.heap.size ≤ D → Sp xs → Ix c xs W → W.heap[D]? = some (.deferred (some [])) → c.wpIn F n P Q { a with defers := { target := .collected D, args := #[] } :: a.defers } W) :
    (Code.rangeFunc g ps assign body).wpIn F n P Q a w := by
  have noRow : ∀ {A : World} {B : Nat}, ∀ r, (none : Option Nat) = some r → B ≤ r ∧ ∃ o : Obj, A.heap[r]? = some o ∧ o.isCells = false := fun r e => by cases e
  have grow : ∀ {A B : World}, Below A.heap.size A B → A.grownBy B none := fun h => ⟨h.os, h.tape, h.output, h.size, fun i hi _ => h.block i hi⟩
  refine wpIn_rangeFunc fun fn hfn => ?_
  rw [hro]
  let R : LoopState → Option Code → Loop := fun st pe => { state := st, pending := pe, fn := fn, tmps := a.tmps, params := ps, assign := assign, body := body, defers := w.heap.size }
  let L := w.heap.size + 1
  let W1 := (w.alloc (.deferred (some []))).alloc (.loop (R .ready none))
  let J : List α → World → Prop := fun xs W => I xs W ∧ W.heap[L]? = some (.loop (R .ready none)) ∧ W.heap[w.heap.size]? = some (.deferred (some []))
  let Jx : List α → World → Prop := fun xs W => ∃ c, Ix c xs W ∧ W.heap[L]? = some (.loop (R .done (some c))) ∧ W.heap[w.heap.size]? = some (.deferred (some []))
  have hL1 : W1.heap[L]? = some (.loop (R .ready none)) := by
    have := World.alloc_heap_new (w.alloc (.deferred (some []))) (.loop (R .ready none))
    rwa [World.size_alloc] at this
  have hD1 : W1.heap[w.heap.size]? = some (.deferred (some [])) := (Below.heap_alloc _ _ _ (by simp)).trans (World.alloc_heap_new w _)
  have hJ1 : J [] W1 := ⟨hI.alloc _ (hI.alloc _ h0), hL1, hD1⟩
  have hJB : ∀ xs A B, J xs A → Below A.heap.size A B → J xs B := fun xs A B hj hb =>
    ⟨hI xs A B none hj.1 (grow hb) noRow, (hb.block _ (Array.getElem?_eq_some_iff.1 hj.2.1).1).trans hj.2.1, (hb.block _ (Array.getElem?_eq_some_iff.1 hj.2.2).1).trans hj.2.2⟩
  refine ⟨L, [{ target := .collected w.heap.size, args := #[] }], W1, { target := .fn (.func gf) #[], args := fb ++ #[.func (.yield L) #[] #[]] }, W1, gf, fb ++ #[.func (.yield L) #[] #[]], W1, run_enterLoop_outer _ _ _ _ _, ?_, ?_, ?_, fun _ => h1, ?_⟩
  · simp only [resolve, hg]
    simp [go_sem]
  · intro f' hf'; simp [Target.leads] at hf'; subst hf'; exact hFg
  · simp [invoke, go_sem, eg]
  refine (hseq L J Jx W1 hJB (fun xs A hj => hIT xs A hj.1) ?_ hJ1).mono ?_
  · rintro pre x W ⟨hi, hl, hk⟩ hG
    have hlt : L < W.heap.size := (Array.getElem?_eq_some_iff.1 hl).1
    refine ⟨fn, _, assign, body, run_yield (P := P) (args := encs x) hl (hps x), roundIn_of_wpIn hfn (hassign _ x W _ ⟨_, run_beginRound hl rfl, ?_⟩)⟩
    refine wpIn_mono (hbody _ pre x _ (hI.putObj _ hi (Nat.le_succ _) hl rfl) hG) ?_
    rintro e a3 W3 hp
    cases e with
    | normal =>
      obtain ⟨hk3, hi3⟩ := hp
      have hl3 := hk3.same L _ (Nat.le_succ _) (World.putObj_heap_same hlt) rfl
      have hD3 := hk3.same w.heap.size _ (Nat.le_refl _) ((World.putObj_heap_other (Nat.ne_of_lt (Nat.lt_succ_self _))).trans hk) rfl
      exact ⟨_, _, run_endRound (P := P) none hl3, .inl ⟨rfl, hI.putObj _ hi3 (Nat.le_succ _) hl3 rfl, World.putObj_heap_same (Array.getElem?_eq_some_iff.1 hl3).1, (World.putObj_heap_other (Nat.ne_of_lt (Nat.lt_succ_self _))).trans hD3⟩⟩
    | exit id =>
      obtain ⟨hk3, hi3⟩ := hp
      have hl3 := hk3.same L _ (Nat.le_succ _) (World.putObj_heap_same hlt) rfl
      have hD3 := hk3.same w.heap.size _ (Nat.le_refl _) ((World.putObj_heap_other (Nat.ne_of_lt (Nat.lt_succ_self _))).trans hk) rfl
      exact ⟨_, _, run_endRound (P := P) (some (.exit id)) hl3, .inr ⟨rfl, .exit id, (hIx _).putObj _ hi3 (Nat.le_succ _) hl3 rfl, World.putObj_heap_same (Array.getElem?_eq_some_iff.1 hl3).1, (World.putObj_heap_other (Nat.ne_of_lt (Nat.lt_succ_self _))).trans hD3⟩⟩
    | ret => exact hp.elim
    | goto t => exact hp.elim
    | panic ch => exact hp.elim
    | outgrown => exact hp.elim
  · rintro e W2 ⟨⟨v, rfl⟩, (⟨xs, hS, hi, hl, hk⟩ | ⟨xs, hS, c, hi, hl, hk⟩)⟩
    · exact ⟨none, _, run_endLoop (P := P) hl (by simp [R]), hdone _ xs _ (Nat.le_refl _) hS (hI.putObj _ hi (Nat.le_succ _) hl rfl) ((World.putObj_heap_other (Nat.ne_of_lt (Nat.lt_succ_self _))).trans hk)⟩
    · exact ⟨some c, _, run_endLoop (P := P) hl (by simp [R]), hstop _ c xs _ (Nat.le_refl _) hS ((hIx c).putObj _ hi (Nat.le_succ _) hl rfl) ((World.putObj_heap_other (Nat.ne_of_lt (Nat.lt_succ_self _))).trans hk)⟩

end Go.Proofs.YthbgklmnmoclhaaGreatDoor.K

namespace Go.Proofs.YthbgklmnmoclhaaGreatDoor
open Go.RowKit P1 K P3 Go.Shelf
set_option linter.unusedVariables false

attribute [local go_sem] Oper.semAt_some

theorem frameAt_len {l : List UInt8} {a b : Nat} {r : List UInt8} (h : frameAt l a = some (r, b)) : b = a + (frameL r).length := by
  unfold frameAt at h
  split at h
  · cases h
  · rename_i n c hr
    split at h
    · rename_i hc
      obtain ⟨h1, h2, h3, h4⟩ := hc
      cases h
      rw [h4, List.length_take, List.length_drop]
      omega
    · cases h

/-- What is told of a record that comes. -/
def Gd (pre : List (List UInt8 × Nat)) (x : List UInt8 × Nat) : Prop := x.1.length ≤ 9000 ∧ x.2 = endOf pre + (frameL x.1).length ∧ x.2 ≤ 20000

/-- A part of the records came. -/
def partCame (l : List UInt8) (xs : List (List UInt8 × Nat)) : Prop := ∃ rest e, unframeL l = (xs.map (·.1) ++ rest, e)

theorem UnfRel.part {l : List UInt8} {a : Nat} {xs : List (List UInt8)} (h : UnfRel l a xs) : ∃ rest e, unframeL l = (xs ++ rest, e) := by
  obtain ⟨f, -, -, -, -, h5⟩ := h
  exact ⟨_, _, h5.symm⟩

theorem UnfRel.most {l : List UInt8} {a : Nat} {xs : List (List UInt8)} (h : UnfRel l a xs) : l.length ≤ 20000 := by
  obtain ⟨f, -, -, h3, -, -⟩ := h
  exact h3

set_option maxRecDepth 100000 in
set_option maxHeartbeats 2000000 in
theorem each_stop (s : ByteArray) (hs : s.size ≤ 1048576) (n : Nat) (hn : 1 ≤ n) :
    SeqStop Fence.wide n Tryz.prog 77 #[.string s] handed SumTabIs Gd (allCame (bl s)) (partCame (bl s)) := by
  intro l J Jx W hJB hJT hY h0
  have hbl := bl_length s
  refine callsIn_of_wp Tryz.func77 rfl trivial ?_ rfl
  simp only [Tryz.ntmps77, List.size_toArray, List.length_cons, List.length_nil, Nat.reduceAdd, Nat.reduceSub, Array.replicate_succ, Array.replicate_zero, List.push_toArray, List.append_toArray, List.nil_append, List.cons_append]
  by_cases hlong : 20000 < s.size
  · have hno := hide (unframeL_long (l := bl s) (by rw [hbl]; exact hlong))
    gi_wp2
    refine bodyPost_ret (results_none rfl _ _ _) rfl ?_
    exact ⟨⟨_, rfl⟩, Or.inl ⟨[], hno.out, h0⟩⟩
  · gi_wp2
    gi_loopw [4] (fun p wr => ∃ xs : List (List UInt8 × Nat), p = .int .i64 (endOf xs : Int) ∧ UnfRel (bl s) (endOf xs) (xs.map (·.1)) ∧ J xs wr) (fun p _ => s.size - (intOf p).toNat)
    case atStart => exact ⟨[], rfl, UnfRel.start (by rw [hbl]; omega), h0⟩
    case round =>
      obtain ⟨xs, rfl, hr, hJ⟩ := hrel
      have ha : endOf xs ≤ s.size := by obtain ⟨f, _, h2, _⟩ := hr; omega
      have HR := hide hr
      have hFA := hide (implFrameAt_any s hs (endOf xs) ha)
      clear hr
      cases hfa : frameAt (bl s) (endOf xs) with
      | none =>
        have R := hide (HR.out.ended hfa)
        have hf := hFA.out
        rw [hfa, show faVal none = .tuple #[.string ⟨#[]⟩, .int .i64 0, .bool false] from rfl] at hf
        have HF := hide hf
        clear hf hFA hfa
        obtain ⟨a, hae⟩ : ∃ a, endOf xs = a := ⟨_, rfl⟩
        have HA := hide hae
        rw [hae] at HF ⊢
        clear hae
        gi_wp2_with (refine ⟨trivial, ?_⟩; gi_at_call 95; refine (callsIn_wide.2 (HF.out _ (hJT _ _ hJ))).mono ?_; rintro e w1 ⟨rfl, hb1⟩)
        refine ⟨fun _ h => (by cases h), ?_⟩
        gi_wp2
        refine bodyPost_ret (results_none rfl _ _ _) rfl ?_
        exact ⟨⟨_, rfl⟩, Or.inl ⟨xs, (by rw [← HA.out] at *; exact R.out), hJB _ _ _ hJ hb1⟩⟩
      | some p =>
        obtain ⟨r, b⟩ := p
        have hb := frameAt_some hfa
        have R := hide (HR.out.next hfa)
        have hG : Gd xs (r, b) := ⟨hb.2.2, frameAt_len hfa, by have := HR.out.most; omega⟩
        have HG := hide hG
        have hf := hFA.out
        rw [hfa, show faVal (some (r, b)) = .tuple #[.string ⟨r.toArray⟩, .int .i64 (b : Int), .bool true] from rfl] at hf
        have HF := hide hf
        clear hf hFA hfa hG
        rw [hbl] at hb
        obtain ⟨hb1, hb2, hb3⟩ := hb
        obtain ⟨a, hae⟩ : ∃ a, endOf xs = a := ⟨_, rfl⟩
        have HA := hide hae
        rw [hae] at HF ha hb1 ⊢
        clear hae
        gi_wp2_with (refine ⟨trivial, ?_⟩; gi_at_call 95; refine (callsIn_wide.2 (HF.out _ (hJT _ _ hJ))).mono ?_; rintro e w1 ⟨rfl, hbe⟩; obtain ⟨fn, tmps, assign, body, hy, hR⟩ := hY xs (r, b) w1 (hJB _ _ _ hJ hbe) HG.out; dsimp only [handed] at hy)
        refine hR.mono ?_
        rintro e W3 (⟨rfl, hJ3⟩ | ⟨rfl, hJ3⟩)
        · gi_wp2
          go_roundw
          case rel => exact ⟨xs ++ [(r, b)], by rw [endOf_snoc], by rw [endOf_snoc, List.map_append]; exact R.out, hJ3⟩
          case measure => simp [intOf]; omega
        · gi_wp2
          refine bodyPost_ret (results_none rfl _ _ _) rfl ?_
          refine ⟨⟨_, rfl⟩, Or.inr ⟨xs ++ [(r, b)], ?_, hJ3⟩⟩
          unfold partCame
          rw [List.map_append]
          exact R.out.part

end Go.Proofs.YthbgklmnmoclhaaGreatDoor
