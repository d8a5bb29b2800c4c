/-
  Walks of chapter 8: ReadSnap of the program: the reader's panic is caught by the deferred closure.
-/
import Derived.Test.YtpenpbopehbncaaDoorWalk8e
import Derived.Tactics
import Derived.Tactics2
import Derived.Defers
import Derived.Recover
import Derived.Laws.Pointers
namespace Go.Proofs.YtpenpbopehbncaaDoor
open Go.RowKit P1 P3 P9 P11 K
set_option linter.unusedVariables false
set_option linter.unusedSimpArgs false

theorem assert_hit (w : World) : (Instr.typeAssert (.iface 105 (.agg #[])) 20 105 true).run Tryd.prog w = .ok (.tuple #[.agg #[], .bool true]) w := by kernel_rfl
theorem assert_nil (w : World) : (Instr.typeAssert .nilIface 20 105 true).run Tryd.prog w = .ok (.tuple #[.agg #[], .bool false]) w := by kernel_rfl

/-- Of the old blocks these two alone are written. -/
def Only (w w' : World) (b1 b2 : Nat) : Prop :=
  w'.os = w.os ∧ w'.tape = w.tape ∧ w'.output = w.output ∧ w.heap.size ≤ w'.heap.size ∧ ∀ j, j < w.heap.size → j ≠ b1 → j ≠ b2 → w'.heap[j]? = w.heap[j]?

theorem Only.of {w w1 w2 w3 : World} {b1 b2 : Nat} (h1 : Below w.heap.size w w1) (h2 : w1.grownBy w2 (some b1)) (h3 : w2.grownBy w3 (some b2)) : Only w w3 b1 b2 :=
  ⟨h3.os.trans (h2.os.trans h1.os), h3.tape.trans (h2.tape.trans h1.tape), h3.output.trans (h2.output.trans h1.output), Nat.le_trans h1.size (Nat.le_trans h2.size h3.size), fun j hj n1 n2 =>
    (h3.block j (by have := h1.size; have := h2.size; omega) (fun q => n2 (Option.some.inj q))).trans ((h2.block j (by have := h1.size; omega) (fun q => n1 (Option.some.inj q))).trans (h1.block j hj))⟩

set_option maxRecDepth 100000 in
set_option maxHeartbeats 2000000 in
theorem catch_panicking (bs bo : Nat) (i t : Int) (x : Value) (b : List UInt8) (ok : Bool) (older : List PanicEntry) (w : World) (hs : SB w bs i t x b) (ho : w.heap[bo]? = some (.cells #[.bool ok] 4 (0, 0))) (hne : bs ≠ bo) :
    CallsD Tryd.prog 80 #[.pointer (some ⟨bs, 0, none⟩), .pointer (some ⟨bo, 0, none⟩)] (.panicking ({ v := .iface 105 (.agg #[]), recovered := false } :: older)) w fun e u' w' =>
      e = .returned (.tuple #[]) ∧ u' = .panicking ({ v := .iface 105 (.agg #[]), recovered := true } :: older) ∧ SB w' bs 0 0 (.slice none 0 0) [] ∧ w'.heap[bo]? = some (.cells #[.bool false] 4 (0, 0)) ∧ Only w w' bs bo := by
  have hb := (Below.refl w.heap.size w).alloc (Nat.le_refl _) (.cells #[] 105)
  have HS1 := hide (hs.on hb hs.lt)
  have HO1 := hide ((hb.block bo (blk_lt ho)).trans ho)
  have HB := hide hb
  clear hb hs ho
  refine callsD_of_wpS Tryd.func80 rfl fun c₀ cs hu => ?_
  simp only [Tryd.ntmps80, List.size_toArray, List.length_cons, List.length_nil, Nat.reduceAdd, Nat.reduceSub, Array.replicate_succ, Array.replicate_zero, List.push_toArray, List.append_toArray, List.nil_append, List.cons_append]
  apply wpS_seq
  apply wpS_region
  simp [wpOpsS, go_sem, recoverD, hu, assert_hit, Exit.thenS]
  generalize w.alloc (.cells #[] 105) = w1 at HS1 HO1 HB ⊢
  obtain ⟨c0, c1, c2, c3⟩ := HS1.out.sv
  have f0 := HS1.out.free 0
  have f1 := HS1.out.free 1
  have f2 := HS1.out.free 2
  have f3 := HS1.out.free 3
  have o0 : w1.cell? ⟨bo, 0, none⟩ = some (.bool ok) := blk_cell HO1.out 0 rfl
  have of0 := blk_free HO1.out 0
  apply wpS_seq
  apply wpS_region
  simp [wpOpsS, go_sem, Exit.thenS]
  refine wpS_cond (t := true) (by simp [Act.eval]) ?_
  simp only [if_true]
  refine wpS_of_wp ?_
  go_wp2_with fail
  obtain ⟨hS2, hg2⟩ := HS1.out.all 0 0 (.slice none 0 0) []
  have hO2 := (hg2.block bo (blk_lt HO1.out) (fun q => hne (Option.some.inj q).symm)).trans HO1.out
  have hO3 := blk_set (k := 0) (.bool false) hO2
  have hg3 := set_grown ((((w1.setCell ⟨bs, 0, none⟩ (.int .i64 0)).setCell ⟨bs, 1, none⟩ (.int .i64 0)).setCell ⟨bs, 2, none⟩ (.slice none 0 0)).setCell ⟨bs, 3, none⟩ (.string ⟨#[]⟩)) bo 0 (.bool false)
  exact ⟨rfl, _, rfl, .tuple #[], results_none rfl _ _ _, rfl, rfl, hS2.kept hg3 (fun q => hne (Option.some.inj q).symm), hO3, Only.of HB.out hg2 hg3⟩

set_option maxRecDepth 100000 in
set_option maxHeartbeats 2000000 in
theorem catch_idle (bs bo : Nat) (w : World) :
    CallsD Tryd.prog 80 #[.pointer (some ⟨bs, 0, none⟩), .pointer (some ⟨bo, 0, none⟩)] .returning w fun e u' w' =>
      e = .returned (.tuple #[]) ∧ u' = .returning ∧ w' = w.alloc (.cells #[] 105) := by
  refine callsD_of_wpS Tryd.func80 rfl fun c₀ cs hu => ?_
  simp only [Tryd.ntmps80, List.size_toArray, List.length_cons, List.length_nil, Nat.reduceAdd, Nat.reduceSub, Array.replicate_succ, Array.replicate_zero, List.push_toArray, List.append_toArray, List.nil_append, List.cons_append]
  apply wpS_seq
  apply wpS_region
  simp [wpOpsS, go_sem, recoverD, hu, assert_nil, Exit.thenS]
  apply wpS_seq
  apply wpS_region
  simp [wpOpsS, go_sem, Exit.thenS]
  refine wpS_cond (t := false) (by simp [Act.eval]) ?_
  simp only [Bool.false_eq_true, if_false]
  refine wpS_of_wp (wp_skip ?_)
  cases c₀
  simp_all [bodyPostS, results, Tryd.results80]

/-- What read hands back. -/
def RePost (w : World) (g : Nat) (l : List UInt8) (e : Ending) (w' : World) : Prop :=
  match rdSnap l with
  | some (i, t, z, b) => ∃ v, e = .returned (.tuple #[snval i t v b, .bool true]) ∧ w'.ownsRow w.heap.size 3 1 v z.length (z.map icell) ∧ w.grownBy w' (some g)
  | none => e = .returned (.tuple #[snval 0 0 (.slice none 0 0) [], .bool false]) ∧ w.grownBy w' (some g)

theorem RePost.no {w w' : World} {g : Nat} {l : List UInt8} (h : rdSnap l = none) (hg : w.grownBy w' (some g)) : RePost w g l (.returned (.tuple #[snval 0 0 (.slice none 0 0) [], .bool false])) w' := by
  unfold RePost; rw [h]; exact ⟨rfl, hg⟩
theorem RePost.yes {w w' : World} {g : Nat} {l b : List UInt8} {i t : Nat} {z : List Int} {v : Value} (h : rdSnap l = some (i, t, z, b)) (ho : w'.ownsRow w.heap.size 3 1 v z.length (z.map icell)) (hg : w.grownBy w' (some g)) : RePost w g l (.returned (.tuple #[snval i t v b, .bool true])) w' := by
  unfold RePost; rw [h]; exact ⟨v, rfl, ho, hg⟩

theorem Only.grown {w W W' : World} {b1 b2 : Nat} {r : Option Nat} (h : w.grownBy W r) (ho : Only W W' b1 b2) (h1 : w.heap.size ≤ b1) (h2 : w.heap.size ≤ b2) : w.grownBy W' r :=
  ⟨ho.1.trans h.os, ho.2.1.trans h.tape, ho.2.2.1.trans h.output, Nat.le_trans h.size ho.2.2.2.1, fun j hj hne => (ho.2.2.2.2 j (by have := h.size; omega) (by omega) (by omega)).trans (h.block j hj hne)⟩

theorem own_slice {w : World} {base : Nat} {e : TypeId} {size : Nat} {v : Value} {n : Nat} {xs : List Value} (h : w.ownsRow base e size v n xs) : ∃ (oa : Option Addr) (cap : Nat), v = .slice oa n cap := by
  rcases h.2 with ⟨h1, h2⟩ | ⟨g', cap, cur, h1, -⟩
  · exact ⟨_, _, by rw [h1, h2]⟩
  · exact ⟨_, _, h1⟩

set_option maxHeartbeats 4000000 in
theorem read_any (g : Nat) (s : ByteArray) (hs : s.size ≤ 1048576) (w : World) (hc : SR w g s 0) (htab : SumTabIs w) :
    Calls Tryd.prog 53 #[.pointer (some ⟨g, 0, none⟩)] w fun e w' => RePost w g (bl s) e w' := by
  have hgl := hc.lt
  have hb1 := (Below.refl w.heap.size w).alloc (Nat.le_refl _) (.cells (sncells 0 0 (.slice none 0 0) []) 30)
  have hb2 := hb1.alloc (by simp) (.cells #[.bool false] 4)
  have HSN := hide (snap_any g s hs _ (hc.on hb2 hgl) (tab_below htab hb2))
  have HS0 := hide (show SB ((w.alloc (.cells (sncells 0 0 (.slice none 0 0) []) 30)).alloc (.cells #[.bool false] 4)) w.heap.size 0 0 (.slice none 0 0) [] from (SB.new w 0 0 (.slice none 0 0) []).on ((Below.refl _ _).alloc (Nat.le_refl _) _) (by simp))
  have HO0 := hide (show ((w.alloc (.cells (sncells 0 0 (.slice none 0 0) []) 30)).alloc (.cells #[.bool false] 4)).heap[w.heap.size + 1]? = some (.cells #[.bool false] 4 (0, 0)) by
    have := heap_alloc_new (w.alloc (.cells (sncells 0 0 (.slice none 0 0) []) 30)) (.cells #[.bool false] 4)
    simpa using this)
  have HB2 := hide hb2
  have hsz2 : ((w.alloc (.cells (sncells 0 0 (.slice none 0 0) []) 30)).alloc (.cells #[.bool false] 4)).heap.size = w.heap.size + 1 + 1 := by simp
  have HSZ2 := hide hsz2
  clear hc htab hb1 hb2 hsz2
  have hmf : ∀ (fn : Fn) (first cap : Array Value) (w : World), (Instr.makeFunc fn first cap).run Tryd.prog w = .ok (.func fn first cap) w := fun _ _ _ _ => rfl
  go_enter_defers Tryd.func53, Tryd.ntmps53
  go_wp2_with fail
  refine HSN.out.mono ?_
  generalize (w.alloc (.cells (sncells 0 0 (.slice none 0 0) []) 30)).alloc (.cells #[.bool false] 4) = w2 at HS0 HO0 HB2 HSZ2
  unfold SpPost
  cases hr : rdSnap (bl s) with
  | none =>
    rintro e w3 ⟨rfl, hg3⟩
    have HS3 := hide (HS0.out.kept hg3 (fun q => by have := Option.some.inj q; omega))
    have HO3 := hide ((hg3.block (w.heap.size + 1) (by have := HSZ2.out; omega) (fun q => by have := Option.some.inj q; omega)).trans HO0.out)
    have HG3 := hide (grown_trans (grown_below HB2.out) hg3)
    have HR := hide hr
    clear hr hg3
    go_wp2_with fail
    refine leaves_cons (f := 80) (args := #[.pointer (some ⟨w.heap.size, 0, none⟩), .pointer (some ⟨w.heap.size + 1, 0, none⟩)]) (by simp) (by simp [go_sem]) ?_
    refine (catch_panicking w.heap.size (w.heap.size + 1) 0 0 (.slice none 0 0) [] false [] _ HS3.out HO3.out (by omega)).mono ?_
    rintro e u' w4 ⟨rfl, rfl, hS4, hO4, hon⟩
    obtain ⟨c0, c1, c2, c3⟩ := hS4.sv
    have o0 : w4.cell? ⟨w.heap.size + 1, 0, none⟩ = some (.bool false) := blk_cell hO4 0 rfl
    refine ⟨.tuple #[snval 0 0 (.slice none 0 0) [], .bool false], by simp [results, Tryd.results53, go_sem, c0, c1, c2, c3, o0], ?_⟩
    exact RePost.no HR.out (Only.grown HG3.out hon (by omega) (by omega))
  | some q =>
    obtain ⟨i, t, z, b⟩ := q
    rintro e w3 ⟨v, rfl, ho3, hg3⟩
    obtain ⟨ov, cv, rfl⟩ := own_slice ho3
    have HS3 := hide (HS0.out.kept hg3 (fun q => by have := Option.some.inj q; omega))
    have HO3 := hide ((hg3.block (w.heap.size + 1) (by have := HSZ2.out; omega) (fun q => by have := Option.some.inj q; omega)).trans HO0.out)
    have HG3 := hide (grown_trans (grown_below HB2.out) hg3)
    have HW3 := hide ho3
    have HR := hide hr
    have hs3 := hg3.size
    clear hr hg3 ho3
    obtain ⟨N, hN⟩ : ∃ N, z.length = N := ⟨_, rfl⟩
    rw [hN] at HW3
    rw [hN]
    have HN := hide hN
    clear hN
    obtain ⟨c0, c1, c2, c3⟩ := HS3.out.sv
    have f0 := HS3.out.free 0
    have f1 := HS3.out.free 1
    have f2 := HS3.out.free 2
    have f3 := HS3.out.free 3
    have o0 : w3.cell? ⟨w.heap.size + 1, 0, none⟩ = some (.bool false) := blk_cell HO3.out 0 rfl
    have of0 := blk_free HO3.out 0
    go_wp2_with fail
    obtain ⟨hS4, hg4⟩ := HS3.out.all (i : Int) (t : Int) (.slice ov N cv) b
    have hO4 := (hg4.block (w.heap.size + 1) (blk_lt HO3.out) (fun q => by have := Option.some.inj q; omega)).trans HO3.out
    have hO5 := blk_set (k := 0) (.bool true) hO4
    have hg5 := set_grown ((((w3.setCell ⟨w.heap.size, 0, none⟩ (.int .i64 (i : Int))).setCell ⟨w.heap.size, 1, none⟩ (.int .i64 (t : Int))).setCell ⟨w.heap.size, 2, none⟩ (.slice ov N cv)).setCell ⟨w.heap.size, 3, none⟩ (.string ⟨b.toArray⟩)) (w.heap.size + 1) 0 (.bool true)
    have hS5 := hS4.kept hg5 (fun q => by have := Option.some.inj q; omega)
    have hz2 := HSZ2.out
    have hW5 := own_setCell (own_setCell (own_setCell (own_setCell (own_setCell HW3.out (p := ⟨w.heap.size, 0, none⟩) (by show w.heap.size < w2.heap.size; omega) (.int .i64 (i : Int))) (p := ⟨w.heap.size, 1, none⟩) (by show w.heap.size < w2.heap.size; omega) (.int .i64 (t : Int))) (p := ⟨w.heap.size, 2, none⟩) (by show w.heap.size < w2.heap.size; omega) (.slice ov N cv)) (p := ⟨w.heap.size, 3, none⟩) (by show w.heap.size < w2.heap.size; omega) (.string ⟨b.toArray⟩)) (p := ⟨w.heap.size + 1, 0, none⟩) (by show w.heap.size + 1 < w2.heap.size; omega) (.bool true)
    have hon := Only.grown HG3.out (Only.of (Below.refl _ _) hg4 hg5) (by omega) (by omega)
    generalize ((((w3.setCell ⟨w.heap.size, 0, none⟩ (.int .i64 (i : Int))).setCell ⟨w.heap.size, 1, none⟩ (.int .i64 (t : Int))).setCell ⟨w.heap.size, 2, none⟩ (.slice ov N cv)).setCell ⟨w.heap.size, 3, none⟩ (.string ⟨b.toArray⟩)).setCell ⟨w.heap.size + 1, 0, none⟩ (.bool true) = w5 at hO5 hS5 hW5 hon ⊢
    clear c0 c1 c2 c3 f0 f1 f2 f3 o0 of0 hO4 hg5 hS4 hg4
    refine leaves_cons (f := 80) (args := #[.pointer (some ⟨w.heap.size, 0, none⟩), .pointer (some ⟨w.heap.size + 1, 0, none⟩)]) (by simp) (by simp [go_sem]) ?_
    refine (catch_idle w.heap.size (w.heap.size + 1) _).mono ?_
    rintro e u' w6 ⟨rfl, rfl, rfl⟩
    have hb6 := (Below.refl w5.heap.size w5).alloc (Nat.le_refl _) (.cells #[] 105)
    have hS6 := hS5.on hb6 hS5.lt
    have hO6 := (hb6.block _ (blk_lt hO5)).trans hO5
    have hW6 := own_below hW5 hb6
    generalize w5.alloc (.cells #[] 105) = w6 at hb6 hS6 hO6 hW6 ⊢
    obtain ⟨c0, c1, c2, c3⟩ := hS6.sv
    have o0 : w6.cell? ⟨w.heap.size + 1, 0, none⟩ = some (.bool true) := blk_cell hO6 0 rfl
    refine ⟨.tuple #[snval (i : Int) (t : Int) (.slice ov N cv) b, .bool true], by simp [results, Tryd.results53, go_sem, c0, c1, c2, c3, o0], ?_⟩
    exact RePost.yes HR.out (by rw [HN.out]; exact own_base hW6 (by omega)) (grown_trans hon (grown_below hb6))

/-- What ReadSnap finds, with zero values where it finds nothing. -/
def rsR (l : List UInt8) : Int × Int × List Int × List UInt8 × Bool := match rdSnap l with | none => (0, 0, [], [], false) | some (i, t, z, b) => (i, t, z, b, true)
/-- The results of ReadSnap: the nodes in a new row. -/
def RsPost (r : Int × Int × List Int × List UInt8 × Bool) (w : World) (e : Ending) (w' : World) : Prop :=
  ∃ v, e = .returned (.tuple #[snval r.1 r.2.1 v r.2.2.2.1, .bool r.2.2.2.2]) ∧ w'.ownsRow w.heap.size 3 1 v r.2.2.1.length (r.2.2.1.map icell) ∧ Below w.heap.size w w'

theorem grown_new8 {w w' : World} {g : Nat} {B : Nat} {W : World} (hb : Below B W w) (hg : w.grownBy w' (some g)) (hB : B ≤ g) (hBw : B ≤ w.heap.size) : Below B W w' := hb.grown hg hBw (fun k hk => by cases hk; exact hB)

set_option maxHeartbeats 4000000 in
theorem implReadSnap_any (s : ByteArray) (hs : s.size ≤ 1048576) (w : World) (htab : SumTabIs w) :
    Calls Tryd.prog 17 #[.string s] w fun e w' => RsPost (rsR (bl s)) w e w' := by
  have hb1 := (Below.refl w.heap.size w).alloc (Nat.le_refl _) (.cells (sncells 0 0 (.slice none 0 0) []) 30)
  have hb2 := hb1.alloc (by simp) (.cells #[.string s, .int .i64 0] 74)
  have hR : SR ((w.alloc (.cells (sncells 0 0 (.slice none 0 0) []) 30)).alloc (.cells #[.string s, .int .i64 0] 74)) (w.heap.size + 1) s 0 := by
    refine ⟨Nat.zero_le _, ?_⟩
    have := heap_alloc_new (w.alloc (.cells (sncells 0 0 (.slice none 0 0) []) 30)) (.cells #[.string s, .int .i64 0] 74)
    simpa using this
  have HRD := hide (read_any (w.heap.size + 1) s hs _ hR (tab_below htab hb2))
  have HS0 := hide (show SB ((w.alloc (.cells (sncells 0 0 (.slice none 0 0) []) 30)).alloc (.cells #[.string s, .int .i64 0] 74)) w.heap.size 0 0 (.slice none 0 0) [] from (SB.new w 0 0 (.slice none 0 0) []).on ((Below.refl _ _).alloc (Nat.le_refl _) _) (by simp))
  have HB2 := hide hb2
  have HSZ2 := hide (show ((w.alloc (.cells (sncells 0 0 (.slice none 0 0) []) 30)).alloc (.cells #[.string s, .int .i64 0] 74)).heap.size = w.heap.size + 1 + 1 by simp)
  clear hR htab hb1 hb2
  go_enter Tryd.func17, Tryd.ntmps17
  go_wp2_with fail
  refine HRD.out.mono ?_
  generalize (w.alloc (.cells (sncells 0 0 (.slice none 0 0) []) 30)).alloc (.cells #[.string s, .int .i64 0] 74) = w2 at HS0 HB2 HSZ2
  unfold RePost
  have hz2 := HSZ2.out
  cases hr : rdSnap (bl s) with
  | none =>
    have HRS := hide (show rsR (bl s) = (0, 0, [], [], false) by unfold rsR; rw [hr])
    rintro e w3 ⟨rfl, hg3⟩
    have hb3 := HB2.out.grown hg3 (by omega) (fun k hk => by cases hk; omega)
    have HS3 := hide (HS0.out.kept hg3 (fun q => by have := Option.some.inj q; omega))
    have hs3 := hg3.size
    have HB3 := hide hb3
    clear hr hg3 hb3
    obtain ⟨c0, c1, c2, c3⟩ := HS3.out.sv
    have f0 := HS3.out.free 0
    have f1 := HS3.out.free 1
    have f2 := HS3.out.free 2
    have f3 := HS3.out.free 3
    go_wp2_with fail
    obtain ⟨hS4, hg4⟩ := HS3.out.all 0 0 (.slice none 0 0) []
    have hb4 := HB3.out.grown hg4 (by omega) (fun k hk => by cases hk; omega)
    generalize (((w3.setCell ⟨w.heap.size, 0, none⟩ (.int .i64 0)).setCell ⟨w.heap.size, 1, none⟩ (.int .i64 0)).setCell ⟨w.heap.size, 2, none⟩ (.slice none 0 0)).setCell ⟨w.heap.size, 3, none⟩ (.string ⟨List.toArray []⟩) = w4 at hS4 hb4 ⊢
    clear c0 c1 c2 c3
    obtain ⟨c0, c1, c2, c3⟩ := hS4.sv
    refine bodyPost_ret (v := .tuple #[snval 0 0 (.slice none 0 0) [], .bool false]) (by simp [results, Tryd.results17, go_sem, c0, c1, c2, c3]) rfl ?_
    rw [HRS.out]
    exact ⟨_, rfl, World.ownsRow_nil _ _ _ _, hb4⟩
  | some q =>
    obtain ⟨i, t, z, b⟩ := q
    have HRS := hide (show rsR (bl s) = (↑i, ↑t, z, b, true) by unfold rsR; rw [hr])
    rintro e w3 ⟨v, rfl, ho3, hg3⟩
    obtain ⟨ov, cv, rfl⟩ := own_slice ho3
    have hb3 := HB2.out.grown hg3 (by omega) (fun k hk => by cases hk; omega)
    have HS3 := hide (HS0.out.kept hg3 (fun q => by have := Option.some.inj q; omega))
    have hs3 := hg3.size
    have HB3 := hide hb3
    have HW3 := hide ho3
    clear hr hg3 hb3 ho3
    obtain ⟨N, hN⟩ : ∃ N, z.length = N := ⟨_, rfl⟩
    rw [hN] at HW3
    rw [hN]
    have HN := hide hN
    clear hN
    obtain ⟨c0, c1, c2, c3⟩ := HS3.out.sv
    have f0 := HS3.out.free 0
    have f1 := HS3.out.free 1
    have f2 := HS3.out.free 2
    have f3 := HS3.out.free 3
    go_wp2_with fail
    obtain ⟨hS4, hg4⟩ := HS3.out.all (i : Int) (t : Int) (.slice ov N cv) b
    have hb4 := HB3.out.grown hg4 (by omega) (fun k hk => by cases hk; omega)
    have hW4 := own_setCell (own_setCell (own_setCell (own_setCell HW3.out (p := ⟨w.heap.size, 0, none⟩) (by show w.heap.size < w2.heap.size; omega) (.int .i64 (i : Int))) (p := ⟨w.heap.size, 1, none⟩) (by show w.heap.size < w2.heap.size; omega) (.int .i64 (t : Int))) (p := ⟨w.heap.size, 2, none⟩) (by show w.heap.size < w2.heap.size; omega) (.slice ov N cv)) (p := ⟨w.heap.size, 3, none⟩) (by show w.heap.size < w2.heap.size; omega) (.string ⟨b.toArray⟩)
    generalize (((w3.setCell ⟨w.heap.size, 0, none⟩ (.int .i64 (i : Int))).setCell ⟨w.heap.size, 1, none⟩ (.int .i64 (t : Int))).setCell ⟨w.heap.size, 2, none⟩ (.slice ov N cv)).setCell ⟨w.heap.size, 3, none⟩ (.string ⟨b.toArray⟩) = w4 at hS4 hb4 hW4 ⊢
    clear c0 c1 c2 c3
    obtain ⟨c0, c1, c2, c3⟩ := hS4.sv
    refine bodyPost_ret (v := .tuple #[snval (i : Int) (t : Int) (.slice ov N cv) b, .bool true]) (by simp [results, Tryd.results17, go_sem, c0, c1, c2, c3]) rfl ?_
    rw [HRS.out]
    exact ⟨_, rfl, (by rw [HN.out]; exact own_base hW4 (by omega)), hb4⟩

end Go.Proofs.YtpenpbopehbncaaDoor
