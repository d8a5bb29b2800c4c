/-
  Walks and mathematics of Walk9k.
-/
import Derived.Test.YtmllcomppjkhhaaGreatDoorRPlain1
import Derived.Test.YtmllcomppjkhhaaGreatDoorRWalk1c
import Derived.Test.YtmllcomppjkhhaaGreatDoorRBase
import Derived.Test.YtmllcomppjkhhaaGreatDoorRWalk1b
import Derived.Test.YtmllcomppjkhhaaGreatDoorRHeldMore
import Derived.Deep.RegionHeld3
import Derived.Deep.QuietTactic
import Derived.BigQuiet
import Derived.WalkSmall
namespace Go.Proofs.YtmllcomppjkhhaaGreatDoor.P3
end Go.Proofs.YtmllcomppjkhhaaGreatDoor.P3
namespace Go.Proofs.YtmllcomppjkhhaaGreatDoor
open Go.RowKit P1 P3 P9 P11 P12 K
set_option linter.unusedVariables false
set_option linter.unusedSimpArgs false

theorem same_back {P : Program} {f : FuncId} {args : Array Value} {w : World} {v : Value} (h : Calls P f args w fun e w' => e = .returned v ∧ w = w') : Calls P f args w fun e w' => e = .returned v ∧ w' = w := h.mono fun e w' q => ⟨q.1, q.2.symm⟩

def plI : Option Nat → Int
  | none => -1
  | some a => (a : Int)

def FR (w : World) (g : Nat) (s : ByteArray) (p : Option Nat) : Prop :=
  (∀ a, p = some a → a ≤ s.size) ∧ ∃ ty : TypeId, w.heap[g]? = some (.cells #[.string s, .int .i64 (plI p)] ty (0, 0))

def FRL (w : World) (g : Nat) (s : ByteArray) (r : Lf) : Prop := ∃ p, FR w g s p ∧ p.map (fun a => (bl s).drop a) = r

theorem FRL.lt {w : World} {g : Nat} {s : ByteArray} {r : Lf} (h : FRL w g s r) : g < w.heap.size := by
  obtain ⟨p, ⟨_, _, hb⟩, _⟩ := h
  exact blk_lt hb

theorem FRL.kept {w w' : World} {g : Nat} {s : ByteArray} {r : Lf} (h : FRL w g s r) (hb : w'.heap[g]? = w.heap[g]?) : FRL w' g s r := by
  obtain ⟨p, ⟨h1, ty, h2⟩, h3⟩ := h
  exact ⟨p, ⟨h1, ty, hb.trans h2⟩, h3⟩

theorem FRL.mk {w : World} {g : Nat} {s : ByteArray} {a : Nat} {ty : TypeId} (ha : a ≤ s.size) (h : w.heap[g]? = some (.cells #[.string s, .int .i64 (a : Int)] ty (0, 0))) : FRL w g s (some ((bl s).drop a)) :=
  ⟨some a, ⟨fun b hb => (by cases hb; exact ha), ty, h⟩, rfl⟩

theorem FRL.off {w : World} {g : Nat} {s : ByteArray} {ty : TypeId} (h : w.heap[g]? = some (.cells #[.string s, .int .i64 (-1)] ty (0, 0))) : FRL w g s none :=
  ⟨none, ⟨fun b hb => (by cases hb), ty, h⟩, rfl⟩

theorem fr_cells {w : World} {p : Nat} {v0 v1 : Value} {e : TypeId} (hb : w.heap[p]? = some (.cells #[v0, v1] e (0, 0))) :
    w.cell? ⟨p, 0, none⟩ = some v0 ∧ w.cell? ⟨p, 1, none⟩ = some v1 ∧ w.frozen? ⟨p, 1, none⟩ = false :=
  ⟨blk_cell hb 0 rfl, blk_cell hb 1 rfl, blk_free hb 1⟩

set_option maxHeartbeats 1000000 in
theorem goTo_yes {ty : TypeId} (g : Nat) (s : ByteArray) (x b : Int) (w : World) (h : w.heap[g]? = some (.cells #[.string s, .int .i64 x] ty (0, 0))) :
    Calls Tryz.prog 80 #[.pointer (some ⟨g, 0, none⟩), .int .i64 b, .bool true] w fun e w' => e = .returned (.tuple #[]) ∧ w'.heap[g]? = some (.cells #[.string s, .int .i64 b] ty (0, 0)) ∧ w.grownBy w' (some g) := by
  obtain ⟨c0, c1, z1⟩ := fr_cells h
  have HB := hide (show (w.setCell ⟨g, 1, none⟩ (.int .i64 b)).heap[g]? = some (.cells #[.string s, .int .i64 b] ty (0, 0)) from blk_set (k := 1) (.int .i64 b) h)
  clear h
  go_enter Tryz.func80, Tryz.ntmps80
  go_wp2_with fail
  refine bodyPost_end (results_none rfl _ _ _) rfl ?_
  exact ⟨rfl, HB.out, blk_grown _ _ _ _⟩

set_option maxHeartbeats 1000000 in
theorem goTo_no {ty : TypeId} (g : Nat) (s : ByteArray) (x b : Int) (w : World) (h : w.heap[g]? = some (.cells #[.string s, .int .i64 x] ty (0, 0))) :
    Calls Tryz.prog 80 #[.pointer (some ⟨g, 0, none⟩), .int .i64 b, .bool false] w fun e w' => e = .returned (.tuple #[]) ∧ w'.heap[g]? = some (.cells #[.string s, .int .i64 (-1)] ty (0, 0)) ∧ w.grownBy w' (some g) := by
  obtain ⟨c0, c1, z1⟩ := fr_cells h
  have h1 : (w.setCell ⟨g, 1, none⟩ (.int .i64 b)).heap[g]? = some (.cells #[.string s, .int .i64 b] ty (0, 0)) := blk_set (k := 1) (.int .i64 b) h
  have HB := hide (show ((w.setCell ⟨g, 1, none⟩ (.int .i64 b)).setCell ⟨g, 1, none⟩ (.int .i64 (-1))).heap[g]? = some (.cells #[.string s, .int .i64 (-1)] ty (0, 0)) from blk_set (k := 1) (.int .i64 (-1)) h1)
  clear h h1
  go_enter Tryz.func80, Tryz.ntmps80
  go_wp2_with fail
  refine bodyPost_end (results_none rfl _ _ _) rfl ?_
  exact ⟨rfl, HB.out, grown_trans (blk_grown _ _ _ _) (blk_grown _ _ _ _)⟩

theorem numL_rd {s : ByteArray} {a v c : Nat} (h : rdGo 5 [] ((bl s).drop a) = some (v, c)) : numL (some ((bl s).drop a)) = (v, some ((bl s).drop (a + c))) := by
  unfold numL rdV
  simp only
  rw [h]
  simp only
  rw [drop_add8]

theorem numL_no {s : ByteArray} {a : Nat} (h : rdGo 5 [] ((bl s).drop a) = none) : numL (some ((bl s).drop a)) = (0, none) := by
  unfold numL rdV
  simp only
  rw [h]

set_option maxHeartbeats 2000000 in
theorem number_any (g : Nat) (s : ByteArray) (hs : s.size ≤ 1048576) (r : Lf) (w : World) (h : FRL w g s r) :
    Calls Tryz.prog 74 #[.pointer (some ⟨g, 0, none⟩)] w fun e w' => e = .returned (.int .i64 ((numL r).1 : Int)) ∧ FRL w' g s (numL r).2 ∧ w.grownBy w' (some g) := by
  obtain ⟨p, ⟨hp, ty, hblk⟩, rfl⟩ := h
  cases p with
  | none =>
    simp only [plI] at hblk
    obtain ⟨c0, c1, z1⟩ := fr_cells hblk
    have HB := hide hblk
    have HRV := hide (fun w => same_back (implReadVar_off s hs (-1) (by omega) w))
    clear hblk hp
    rw [show numL (Option.map (fun a => (bl s).drop a) none) = (0, none) from rfl]
    go_enter Tryz.func74, Tryz.ntmps74
    go_wp2_with fail
    go_quiet ((go_at_call 88; exact Calls.quiet_of_same (HRV.out _)))
    go_wp2_with fail
    refine (goTo_no g s (-1) 0 (w.drewN _) HB.out).mono ?_
    rintro e w2 ⟨rfl, hb2, hg2⟩
    have HB2 := hide hb2
    have HG2 := hide (grown_trans (grown_drewN (grown_below (row := some g) (Below.refl _ w)) _) hg2)
    clear hb2 hg2
    go_wp2_with fail
    go_ret
    exact ⟨rfl, FRL.off HB2.out, HG2.out⟩
  | some a =>
    have ha := hp a rfl
    simp only [plI] at hblk
    obtain ⟨c0, c1, z1⟩ := fr_cells hblk
    have HB := hide hblk
    have HRV := hide (fun w => same_back (implReadVar_any s hs a ha w))
    clear hblk hp
    simp only [Option.map_some]
    cases hrd : rdGo 5 [] ((bl s).drop a) with
    | none =>
      rw [numL_no hrd]
      rw [hrd, show rvVal a none = .tuple #[.int .i64 0, .int .i64 0, .bool false] from rfl] at HRV
      clear hrd
      go_enter Tryz.func74, Tryz.ntmps74
      go_wp2_with fail
      go_quiet ((go_at_call 88; exact Calls.quiet_of_same (HRV.out _)))
      go_wp2_with fail
      refine (goTo_no g s (a : Int) 0 (w.drewN _) HB.out).mono ?_
      rintro e w2 ⟨rfl, hb2, hg2⟩
      have HB2 := hide hb2
      have HG2 := hide (grown_trans (grown_drewN (grown_below (row := some g) (Below.refl _ w)) _) hg2)
      clear hb2 hg2
      go_wp2_with fail
      go_ret
      exact ⟨rfl, FRL.off HB2.out, HG2.out⟩
    | some q =>
      obtain ⟨v, c⟩ := q
      have hbd := rdGo_some 5 [] _ v c hrd
      rw [List.length_drop, bl_length] at hbd
      simp only [List.length_nil] at hbd
      rw [numL_rd hrd]
      rw [hrd, show rvVal a (some (v, c)) = .tuple #[.int .i64 v, .int .i64 (a + c : Nat), .bool true] from rfl] at HRV
      have hac : a + c ≤ s.size := by omega
      generalize a + c = a' at hac HRV ⊢
      clear hrd hbd
      go_enter Tryz.func74, Tryz.ntmps74
      go_wp2_with fail
      go_quiet ((go_at_call 88; exact Calls.quiet_of_same (HRV.out _)))
      go_wp2_with fail
      refine (goTo_yes g s (a : Int) (a' : Int) (w.drewN _) HB.out).mono ?_
      rintro e w2 ⟨rfl, hb2, hg2⟩
      have HB2 := hide hb2
      have HG2 := hide (grown_trans (grown_drewN (grown_below (row := some g) (Below.refl _ w)) _) hg2)
      clear hb2 hg2
      go_wp2_with fail
      go_ret
      exact ⟨rfl, FRL.mk hac HB2.out, HG2.out⟩

theorem byteL_at {s : ByteArray} {a : Nat} (h : a < s.size) : byteL (some ((bl s).drop a)) = (s[a].toNat, some ((bl s).drop (a + 1))) := by
  rw [bl_drop s a h]
  rfl

theorem byteL_out {s : ByteArray} {a : Nat} (h : ¬ a < s.size) : byteL (some ((bl s).drop a)) = (0, none) := by
  rw [List.drop_eq_nil_of_le (by rw [bl_length]; omega)]
  rfl

set_option maxHeartbeats 2000000 in
theorem oneByte_any (g : Nat) (s : ByteArray) (hs : s.size ≤ 1048576) (r : Lf) (w : World) (h : FRL w g s r) :
    Calls Tryz.prog 73 #[.pointer (some ⟨g, 0, none⟩)] w fun e w' => e = .returned (.int .i64 ((byteL r).1 : Int)) ∧ FRL w' g s (byteL r).2 ∧ w.grownBy w' (some g) := by
  have hwr : IntKind.i64.wrap ((s.size : Int) - 1) = (s.size : Int) - 1 := by rw [IntKind.wrap_i64]; omega
  have key : ∀ {ty : TypeId} (x : Int), (x < 0 ∨ (s.size : Int) - 1 < x) → w.heap[g]? = some (.cells #[.string s, .int .i64 x] ty (0, 0)) →
      Calls Tryz.prog 73 #[.pointer (some ⟨g, 0, none⟩)] w fun e w' => e = .returned (.int .i64 0) ∧ FRL w' g s none ∧ w.grownBy w' (some g) := by
    intro ty x hx hblk
    obtain ⟨c0, c1, z1⟩ := fr_cells hblk
    have HB := hide hblk
    clear hblk
    go_enter Tryz.func73, Tryz.ntmps73
    go_wp2_with fail
    go_quiet ((go_at_call 57; exact Calls.quiet_of_same (same_back (within_no x 0 ((s.size : Int) - 1) hx _))))
    go_wp2_with fail
    refine (goTo_no g s x 0 (w.drewN _) HB.out).mono ?_
    rintro e w2 ⟨rfl, hb2, hg2⟩
    have HB2 := hide hb2
    have HG2 := hide (grown_trans (grown_drewN (grown_below (row := some g) (Below.refl _ w)) _) hg2)
    clear hb2 hg2
    go_wp2_with fail
    go_ret
    exact ⟨rfl, FRL.off HB2.out, HG2.out⟩
  obtain ⟨p, ⟨hp, ty, hblk⟩, rfl⟩ := h
  cases p with
  | none => exact key (-1) (by omega) hblk
  | some a =>
    have ha := hp a rfl
    simp only [plI] at hblk
    simp only [Option.map_some]
    by_cases hlt : a < s.size
    · rw [byteL_at hlt]
      obtain ⟨c0, c1, z1⟩ := fr_cells hblk
      have HB := hide hblk
      have hw2 : IntKind.i64.wrap ((a : Int) + 1) = (a : Int) + 1 := by rw [IntKind.wrap_i64]; omega
      have hidx : ∀ wx, (Instr.index 9 (.string s) (.int .i64 (a : Int))).run Tryz.prog wx = .ok (.int .u8 (s[a].toNat : Int)) wx := fun wx => idx_any s .i64 a hlt wx
      have hb0 : (s[a].toNat : Int) < 256 := by have := s[a].toNat_lt; omega
      have hb1 : 0 ≤ (s[a].toNat : Int) := by omega
      generalize s[a].toNat = bv at hidx hb0 hb1 ⊢
      clear hblk hp key
      go_enter Tryz.func73, Tryz.ntmps73
      go_wp2_with fail
      go_quiet ((go_at_call 57; exact Calls.quiet_of_same (same_back (within_yes (a : Int) 0 ((s.size : Int) - 1) (by omega) (by omega) _))))
      go_wp2_with fail
      go_quiet (fail)
      go_wp2_with fail
      refine (goTo_yes g s (a : Int) ((a : Int) + 1) (w.drewN _) HB.out).mono ?_
      rintro e w2 ⟨rfl, hb2, hg2⟩
      have HB2 := hide (show w2.heap[g]? = some (.cells #[.string s, .int .i64 ((a + 1 : Nat) : Int)] ty (0, 0)) by rw [hb2]; rfl)
      have HG2 := hide (grown_trans (grown_drewN (grown_below (row := some g) (Below.refl _ w)) _) hg2)
      clear hb2 hg2
      go_wp2_with fail
      go_ret
      exact ⟨rfl, FRL.mk (by omega) HB2.out, HG2.out⟩
    · rw [byteL_out hlt]
      exact key (a : Int) (by omega) hblk

theorem shL_yes {s : ByteArray} {a v c : Nat} (h : rdGo 5 [] ((bl s).drop a) = some (v, c)) (hv : v ≤ 20000) (hf : a + c + v ≤ s.size) : shL 20000 (some ((bl s).drop a)) = (bl (s.extract (a + c) (a + c + v)), some ((bl s).drop (a + c + v))) := by
  have h1 : rdS ((bl s).drop a) = some (bl (s.extract (a + c) (a + c + v)), (bl s).drop (a + c + v)) := by
    unfold rdS rdV
    rw [h]
    simp only
    rw [drop_add8, if_pos (by rw [List.length_drop, bl_length]; omega), extract_list s (a + c) v hf, drop_add8, bl_mk8]
  unfold shL
  simp only
  rw [h1]
  simp only
  rw [if_pos (by rw [bl_length, ByteArray.size_extract]; omega)]

theorem shL_no {s : ByteArray} {a : Nat} (ha : a ≤ s.size) (h : rdGo 5 [] ((bl s).drop a) = none ∨ ∃ v c, rdGo 5 [] ((bl s).drop a) = some (v, c) ∧ ¬ (v ≤ 20000 ∧ a + c + v ≤ s.size)) : shL 20000 (some ((bl s).drop a)) = ([], none) := by
  unfold shL
  simp only
  rcases h with h | ⟨v, c, h, hn⟩
  · have h1 : rdS ((bl s).drop a) = none := by unfold rdS rdV; rw [h]
    rw [h1]
  · have hbd := rdGo_some 5 [] _ v c h
    rw [List.length_drop, bl_length, List.length_nil] at hbd
    by_cases hf : a + c + v ≤ s.size
    · have h1 : rdS ((bl s).drop a) = some (((bl s).drop (a + c)).take v, (bl s).drop (a + c + v)) := by
        unfold rdS rdV
        rw [h]
        simp only
        rw [drop_add8, if_pos (by rw [List.length_drop, bl_length]; omega), drop_add8]
      rw [h1]
      simp only
      rw [if_neg (by rw [List.length_take, List.length_drop, bl_length]; omega)]
    · have h1 : rdS ((bl s).drop a) = none := by
        unfold rdS rdV
        rw [h]
        simp only
        rw [drop_add8, if_neg (by rw [List.length_drop, bl_length]; omega)]
      rw [h1]

set_option maxHeartbeats 2000000 in
theorem short_any (g : Nat) (s : ByteArray) (hs : s.size ≤ 1048576) (r : Lf) (w : World) (h : FRL w g s r) :
    Calls Tryz.prog 53 #[.pointer (some ⟨g, 0, none⟩)] w fun e w' => e = .returned (.string ⟨(shL 20000 r).1.toArray⟩) ∧ FRL w' g s (shL 20000 r).2 ∧ w.grownBy w' (some g) := by
  have key : ∀ {ty : TypeId} (x : Int) (w : World), w.heap[g]? = some (.cells #[.string s, .int .i64 x] ty (0, 0)) → (∀ w, Calls Tryz.prog 79 #[.string s, .int .i64 x] w fun e w' => e = .returned (.tuple #[.string ⟨#[]⟩, .int .i64 0, .bool false]) ∧ Below w.heap.size w w') →
      Calls Tryz.prog 53 #[.pointer (some ⟨g, 0, none⟩)] w fun e w' => e = .returned (.string ⟨#[]⟩) ∧ FRL w' g s none ∧ w.grownBy w' (some g) := by
    intro ty x w hblk HRS
    have hgl := blk_lt hblk
    obtain ⟨c0, c1, z1⟩ := fr_cells hblk
    have HB := hide hblk
    have HR := hide HRS
    clear hblk HRS
    go_enter Tryz.func53, Tryz.ntmps53
    go_wp2_with fail
    go_region_held3 (fun w' => w'.cell? ⟨g, 0, none⟩ = some (.string s) ∧ w'.cell? ⟨g, 1, none⟩ = some (.int .i64 x)) (first | go_keep | exact ⟨(hb1.cell (by simpa using hgl)).trans c0, (hb1.cell (by simpa using hgl)).trans c1⟩)
      (first | (go_at_call 79; refine (HR.out _).mono ?_; rintro e w1 ⟨rfl, hb1⟩))
    have HB1 := hide (show w1.heap[g]? = some (.cells #[.string s, .int .i64 x] ty (0, 0)) from (hb1.block g (by simpa using hgl)).trans HB.out)
    have HG1 := hide (grown_trans (grown_drewN (grown_below (row := some g) (Below.refl _ w)) 1) (grown_below hb1))
    clear hb1 c0 c1 z1
    go_wp2_with fail
    refine (goTo_no g s x 0 _ HB1.out).mono ?_
    rintro e w2 ⟨rfl, hb2, hg2⟩
    have HB2 := hide hb2
    have HG2 := hide (grown_trans HG1.out hg2)
    clear hb2 hg2
    go_wp2_with fail
    go_ret
    exact ⟨rfl, FRL.off HB2.out, HG2.out⟩
  obtain ⟨p, ⟨hp, ty, hblk⟩, rfl⟩ := h
  cases p with
  | none => exact key (-1) w hblk (fun w => (implReadShort_off s hs (-1) (by omega) w).mono fun e w' q => ⟨q.1, q.2 ▸ Below.refl _ _⟩)
  | some a =>
    have ha := hp a rfl
    simp only [plI] at hblk
    simp only [Option.map_some]
    have HRS := fun w => implReadShort_any s hs a ha w
    cases hrd : rdGo 5 [] ((bl s).drop a) with
    | none =>
      rw [shL_no ha (Or.inl hrd)]
      rw [hrd] at HRS
      exact key (a : Int) w hblk HRS
    | some q =>
      obtain ⟨v, c⟩ := q
      by_cases hf : v ≤ 20000 ∧ a + c + v ≤ s.size
      · rw [shL_yes hrd hf.1 hf.2]
        rw [hrd, show rsVal s a (some (v, c)) = .tuple #[.string (s.extract (a + c) (a + c + v)), .int .i64 (a + c + v : Nat), .bool true] from if_pos hf] at HRS
        have hac := hf.2
        simp only
        rw [show (⟨(bl (s.extract (a + c) (a + c + v))).toArray⟩ : ByteArray) = s.extract (a + c) (a + c + v) from rfl]
        generalize s.extract (a + c) (a + c + v) = X at HRS ⊢
        generalize a + c + v = a' at hac HRS ⊢
        clear hf hrd key hp
        have hgl := blk_lt hblk
        obtain ⟨c0, c1, z1⟩ := fr_cells hblk
        have HB := hide hblk
        have HR := hide HRS
        clear hblk HRS
        go_enter Tryz.func53, Tryz.ntmps53
        go_wp2_with fail
        go_region_held3 (fun w' => w'.cell? ⟨g, 0, none⟩ = some (.string s) ∧ w'.cell? ⟨g, 1, none⟩ = some (.int .i64 (a : Int))) (first | go_keep | exact ⟨(hb1.cell (by simpa using hgl)).trans c0, (hb1.cell (by simpa using hgl)).trans c1⟩)
          (first | (go_at_call 79; refine (HR.out _).mono ?_; rintro e w1 ⟨rfl, hb1⟩))
        have HB1 := hide (show w1.heap[g]? = some (.cells #[.string s, .int .i64 (a : Int)] ty (0, 0)) from (hb1.block g (by simpa using hgl)).trans HB.out)
        have HG1 := hide (grown_trans (grown_drewN (grown_below (row := some g) (Below.refl _ w)) 1) (grown_below hb1))
        clear hb1 c0 c1 z1
        go_wp2_with fail
        refine (goTo_yes g s (a : Int) (a' : Int) _ HB1.out).mono ?_
        rintro e w2 ⟨rfl, hb2, hg2⟩
        have HB2 := hide hb2
        have HG2 := hide (grown_trans HG1.out hg2)
        clear hb2 hg2
        go_wp2_with fail
        go_ret
        exact ⟨rfl, FRL.mk hac HB2.out, HG2.out⟩
      · rw [shL_no ha (Or.inr ⟨v, c, hrd, hf⟩)]
        rw [hrd, show rsVal s a (some (v, c)) = .tuple #[.string ⟨#[]⟩, .int .i64 0, .bool false] from if_neg hf] at HRS
        exact key (a : Int) w hblk HRS

theorem ended_val {s : ByteArray} {p : Option Nat} (hp : ∀ a, p = some a → a ≤ s.size) : (p.map (fun a => (bl s).drop a) = some []) ↔ plI p = (s.size : Int) := by
  cases p with
  | none => (simp [plI]; try omega)
  | some a =>
    have := hp a rfl
    simp only [Option.map_some, Option.some.injEq, List.drop_eq_nil_iff, plI, bl_length]
    omega

set_option maxHeartbeats 1000000 in
theorem ended_any (g : Nat) (s : ByteArray) (hs : s.size ≤ 1048576) (r : Lf) (w : World) (h : FRL w g s r) :
    Calls Tryz.prog 18 #[.pointer (some ⟨g, 0, none⟩)] w fun e w' => e = .returned (.bool (decide (r = some []))) ∧ Drew w w' := by
  obtain ⟨p, ⟨hp, ty, hblk⟩, rfl⟩ := h
  have hE : decide (p.map (fun a => (bl s).drop a) = some []) = decide (plI p = (s.size : Int)) := decide_eq_decide.2 (ended_val hp)
  rw [hE]
  obtain ⟨c0, c1, z1⟩ := fr_cells hblk
  clear hE hp hblk
  generalize plI p = x at c1 ⊢
  by_cases hx : x = (s.size : Int)
  · subst hx
    go_enter Tryz.func18, Tryz.ntmps18
    go_wp2_with fail
    go_quiet (fail)
    go_wp2_with fail
    go_ret
    exact ⟨by simp, ⟨_, rfl⟩⟩
  · have hx2 : (x == (s.size : Int)) = false := by simpa using hx
    go_enter Tryz.func18, Tryz.ntmps18
    go_wp2_with fail
    go_quiet (fail)
    go_wp2_with fail
    go_ret
    exact ⟨by simp [hx], ⟨_, rfl⟩⟩

end Go.Proofs.YtmllcomppjkhhaaGreatDoor
