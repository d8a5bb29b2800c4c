/-
  Walks and mathematics of Walk9k, Walk9l, Walk9m.
-/
import Derived.Test.YtckkfjmjcknjdaaGreatDoorRCEv4
import Derived.Test.YtckkfjmjcknjdaaGreatDoorRCWalk1c
import Derived.Test.YtckkfjmjcknjdaaGreatDoorRCWalk1e
import Derived.Test.YtckkfjmjcknjdaaGreatDoorRCWalk5a
import Derived.Test.YtckkfjmjcknjdaaGreatDoorRCShort1
import Derived.Test.YtckkfjmjcknjdaaGreatDoorRCBox
import Derived.Deep.RegionHeld3
import Derived.Deep.QuietTactic
import Derived.BigQuiet
import Derived.WalkSmall
import Derived.Test.YtckkfjmjcknjdaaGreatDoorRCEvK
import Derived.Test.YtckkfjmjcknjdaaGreatDoorRCInts
import Derived.Test.YtckkfjmjcknjdaaGreatDoorRCEv5
namespace Go.Proofs.YtckkfjmjcknjdaaGreatDoor.P3
end Go.Proofs.YtckkfjmjcknjdaaGreatDoor.P3
namespace Go.Proofs.YtckkfjmjcknjdaaGreatDoor
open Go.RowKit P1 P3 P9 P11 P12 K
set_option linter.unusedVariables false
set_option linter.unusedSimpArgs false

theorem same_back {P : Program} {f : FuncId} {args : Array Value} {w : World} {v : Value} (h : Calls P f args w fun e w' => e = .returned v ∧ w = w') : Calls P f args w fun e w' => e = .returned v ∧ w' = w := h.mono fun e w' q => ⟨q.1, q.2.symm⟩

def plI : Option Nat → Int
  | none => -1
  | some a => (a : Int)

def FR (w : World) (g : Nat) (s : ByteArray) (p : Option Nat) : Prop :=
  (∀ a, p = some a → a ≤ s.size) ∧ ∃ ty : TypeId, w.heap[g]? = some (.cells #[.string s, .int .i64 (plI p)] ty (0, 0))

def FRL (w : World) (g : Nat) (s : ByteArray) (r : Lf) : Prop := ∃ p, FR w g s p ∧ p.map (fun a => (bl s).drop a) = r

theorem FRL.lt {w : World} {g : Nat} {s : ByteArray} {r : Lf} (h : FRL w g s r) : g < w.heap.size := by
  obtain ⟨p, ⟨_, _, hb⟩, _⟩ := h
  exact blk_lt hb

theorem FRL.kept {w w' : World} {g : Nat} {s : ByteArray} {r : Lf} (h : FRL w g s r) (hb : w'.heap[g]? = w.heap[g]?) : FRL w' g s r := by
  obtain ⟨p, ⟨h1, ty, h2⟩, h3⟩ := h
  exact ⟨p, ⟨h1, ty, hb.trans h2⟩, h3⟩

theorem FRL.mk {w : World} {g : Nat} {s : ByteArray} {a : Nat} {ty : TypeId} (ha : a ≤ s.size) (h : w.heap[g]? = some (.cells #[.string s, .int .i64 (a : Int)] ty (0, 0))) : FRL w g s (some ((bl s).drop a)) :=
  ⟨some a, ⟨fun b hb => (by cases hb; exact ha), ty, h⟩, rfl⟩

theorem FRL.off {w : World} {g : Nat} {s : ByteArray} {ty : TypeId} (h : w.heap[g]? = some (.cells #[.string s, .int .i64 (-1)] ty (0, 0))) : FRL w g s none :=
  ⟨none, ⟨fun b hb => (by cases hb), ty, h⟩, rfl⟩

theorem fr_cells {w : World} {p : Nat} {v0 v1 : Value} {e : TypeId} (hb : w.heap[p]? = some (.cells #[v0, v1] e (0, 0))) :
    w.cell? ⟨p, 0, none⟩ = some v0 ∧ w.cell? ⟨p, 1, none⟩ = some v1 ∧ w.frozen? ⟨p, 1, none⟩ = false :=
  ⟨blk_cell hb 0 rfl, blk_cell hb 1 rfl, blk_free hb 1⟩

set_option maxHeartbeats 1000000 in
theorem goTo_yes {ty : TypeId} (g : Nat) (s : ByteArray) (x b : Int) (w : World) (h : w.heap[g]? = some (.cells #[.string s, .int .i64 x] ty (0, 0))) :
    Calls Tryz.prog 87 #[.pointer (some ⟨g, 0, none⟩), .int .i64 b, .bool true] w fun e w' => e = .returned (.tuple #[]) ∧ w'.heap[g]? = some (.cells #[.string s, .int .i64 b] ty (0, 0)) ∧ w.grownBy w' (some g) := by
  obtain ⟨c0, c1, z1⟩ := fr_cells h
  have HB := hide (show (w.setCell ⟨g, 1, none⟩ (.int .i64 b)).heap[g]? = some (.cells #[.string s, .int .i64 b] ty (0, 0)) from blk_set (k := 1) (.int .i64 b) h)
  clear h
  go_enter Tryz.func87, Tryz.ntmps87
  go_wp2_with fail
  refine bodyPost_end (results_none rfl _ _ _) rfl ?_
  exact ⟨rfl, HB.out, blk_grown _ _ _ _⟩

set_option maxHeartbeats 1000000 in
theorem goTo_no {ty : TypeId} (g : Nat) (s : ByteArray) (x b : Int) (w : World) (h : w.heap[g]? = some (.cells #[.string s, .int .i64 x] ty (0, 0))) :
    Calls Tryz.prog 87 #[.pointer (some ⟨g, 0, none⟩), .int .i64 b, .bool false] w fun e w' => e = .returned (.tuple #[]) ∧ w'.heap[g]? = some (.cells #[.string s, .int .i64 (-1)] ty (0, 0)) ∧ w.grownBy w' (some g) := by
  obtain ⟨c0, c1, z1⟩ := fr_cells h
  have h1 : (w.setCell ⟨g, 1, none⟩ (.int .i64 b)).heap[g]? = some (.cells #[.string s, .int .i64 b] ty (0, 0)) := blk_set (k := 1) (.int .i64 b) h
  have HB := hide (show ((w.setCell ⟨g, 1, none⟩ (.int .i64 b)).setCell ⟨g, 1, none⟩ (.int .i64 (-1))).heap[g]? = some (.cells #[.string s, .int .i64 (-1)] ty (0, 0)) from blk_set (k := 1) (.int .i64 (-1)) h1)
  clear h h1
  go_enter Tryz.func87, Tryz.ntmps87
  go_wp2_with fail
  refine bodyPost_end (results_none rfl _ _ _) rfl ?_
  exact ⟨rfl, HB.out, grown_trans (blk_grown _ _ _ _) (blk_grown _ _ _ _)⟩

theorem numL_rd {s : ByteArray} {a v c : Nat} (h : rdGo 5 [] ((bl s).drop a) = some (v, c)) : numL (some ((bl s).drop a)) = (v, some ((bl s).drop (a + c))) := by
  unfold numL rdV
  simp only
  rw [h]
  simp only
  rw [drop_add8]

theorem numL_no {s : ByteArray} {a : Nat} (h : rdGo 5 [] ((bl s).drop a) = none) : numL (some ((bl s).drop a)) = (0, none) := by
  unfold numL rdV
  simp only
  rw [h]

set_option maxHeartbeats 2000000 in
theorem number_any (g : Nat) (s : ByteArray) (hs : s.size ≤ 1048576) (r : Lf) (w : World) (h : FRL w g s r) :
    Calls Tryz.prog 64 #[.pointer (some ⟨g, 0, none⟩)] w fun e w' => e = .returned (.int .i64 ((numL r).1 : Int)) ∧ FRL w' g s (numL r).2 ∧ w.grownBy w' (some g) := by
  obtain ⟨p, ⟨hp, ty, hblk⟩, rfl⟩ := h
  cases p with
  | none =>
    simp only [plI] at hblk
    obtain ⟨c0, c1, z1⟩ := fr_cells hblk
    have HB := hide hblk
    have HRV := hide (fun w => same_back (implReadVar_off s hs (-1) (by omega) w))
    clear hblk hp
    rw [show numL (Option.map (fun a => (bl s).drop a) none) = (0, none) from rfl]
    go_enter Tryz.func64, Tryz.ntmps64
    go_wp2_with fail
    go_quiet ((go_at_call 88; exact Calls.quiet_of_same (HRV.out _)))
    go_wp2_with fail
    refine (goTo_no g s (-1) 0 (w.drewN _) HB.out).mono ?_
    rintro e w2 ⟨rfl, hb2, hg2⟩
    have HB2 := hide hb2
    have HG2 := hide (grown_trans (grown_drewN (grown_below (row := some g) (Below.refl _ w)) _) hg2)
    clear hb2 hg2
    go_wp2_with fail
    go_ret
    exact ⟨rfl, FRL.off HB2.out, HG2.out⟩
  | some a =>
    have ha := hp a rfl
    simp only [plI] at hblk
    obtain ⟨c0, c1, z1⟩ := fr_cells hblk
    have HB := hide hblk
    have HRV := hide (fun w => same_back (implReadVar_any s hs a ha w))
    clear hblk hp
    simp only [Option.map_some]
    cases hrd : rdGo 5 [] ((bl s).drop a) with
    | none =>
      rw [numL_no hrd]
      rw [hrd, show rvVal a none = .tuple #[.int .i64 0, .int .i64 0, .bool false] from rfl] at HRV
      clear hrd
      go_enter Tryz.func64, Tryz.ntmps64
      go_wp2_with fail
      go_quiet ((go_at_call 88; exact Calls.quiet_of_same (HRV.out _)))
      go_wp2_with fail
      refine (goTo_no g s (a : Int) 0 (w.drewN _) HB.out).mono ?_
      rintro e w2 ⟨rfl, hb2, hg2⟩
      have HB2 := hide hb2
      have HG2 := hide (grown_trans (grown_drewN (grown_below (row := some g) (Below.refl _ w)) _) hg2)
      clear hb2 hg2
      go_wp2_with fail
      go_ret
      exact ⟨rfl, FRL.off HB2.out, HG2.out⟩
    | some q =>
      obtain ⟨v, c⟩ := q
      have hbd := rdGo_some 5 [] _ v c hrd
      rw [List.length_drop, bl_length] at hbd
      simp only [List.length_nil] at hbd
      rw [numL_rd hrd]
      rw [hrd, show rvVal a (some (v, c)) = .tuple #[.int .i64 v, .int .i64 (a + c : Nat), .bool true] from rfl] at HRV
      have hac : a + c ≤ s.size := by omega
      generalize a + c = a' at hac HRV ⊢
      clear hrd hbd
      go_enter Tryz.func64, Tryz.ntmps64
      go_wp2_with fail
      go_quiet ((go_at_call 88; exact Calls.quiet_of_same (HRV.out _)))
      go_wp2_with fail
      refine (goTo_yes g s (a : Int) (a' : Int) (w.drewN _) HB.out).mono ?_
      rintro e w2 ⟨rfl, hb2, hg2⟩
      have HB2 := hide hb2
      have HG2 := hide (grown_trans (grown_drewN (grown_below (row := some g) (Below.refl _ w)) _) hg2)
      clear hb2 hg2
      go_wp2_with fail
      go_ret
      exact ⟨rfl, FRL.mk hac HB2.out, HG2.out⟩

theorem byteL_at {s : ByteArray} {a : Nat} (h : a < s.size) : byteL (some ((bl s).drop a)) = (s[a].toNat, some ((bl s).drop (a + 1))) := by
  rw [bl_drop s a h]
  rfl

theorem byteL_out {s : ByteArray} {a : Nat} (h : ¬ a < s.size) : byteL (some ((bl s).drop a)) = (0, none) := by
  rw [List.drop_eq_nil_of_le (by rw [bl_length]; omega)]
  rfl

set_option maxHeartbeats 2000000 in
theorem oneByte_any (g : Nat) (s : ByteArray) (hs : s.size ≤ 1048576) (r : Lf) (w : World) (h : FRL w g s r) :
    Calls Tryz.prog 63 #[.pointer (some ⟨g, 0, none⟩)] w fun e w' => e = .returned (.int .i64 ((byteL r).1 : Int)) ∧ FRL w' g s (byteL r).2 ∧ w.grownBy w' (some g) := by
  have hwr : IntKind.i64.wrap ((s.size : Int) - 1) = (s.size : Int) - 1 := by rw [IntKind.wrap_i64]; omega
  have key : ∀ {ty : TypeId} (x : Int), (x < 0 ∨ (s.size : Int) - 1 < x) → w.heap[g]? = some (.cells #[.string s, .int .i64 x] ty (0, 0)) →
      Calls Tryz.prog 63 #[.pointer (some ⟨g, 0, none⟩)] w fun e w' => e = .returned (.int .i64 0) ∧ FRL w' g s none ∧ w.grownBy w' (some g) := by
    intro ty x hx hblk
    obtain ⟨c0, c1, z1⟩ := fr_cells hblk
    have HB := hide hblk
    clear hblk
    go_enter Tryz.func63, Tryz.ntmps63
    go_wp2_with fail
    go_quiet ((go_at_call 24; exact Calls.quiet_of_same (same_back (within_no x 0 ((s.size : Int) - 1) hx _))))
    go_wp2_with fail
    refine (goTo_no g s x 0 (w.drewN _) HB.out).mono ?_
    rintro e w2 ⟨rfl, hb2, hg2⟩
    have HB2 := hide hb2
    have HG2 := hide (grown_trans (grown_drewN (grown_below (row := some g) (Below.refl _ w)) _) hg2)
    clear hb2 hg2
    go_wp2_with fail
    go_ret
    exact ⟨rfl, FRL.off HB2.out, HG2.out⟩
  obtain ⟨p, ⟨hp, ty, hblk⟩, rfl⟩ := h
  cases p with
  | none => exact key (-1) (by omega) hblk
  | some a =>
    have ha := hp a rfl
    simp only [plI] at hblk
    simp only [Option.map_some]
    by_cases hlt : a < s.size
    · rw [byteL_at hlt]
      obtain ⟨c0, c1, z1⟩ := fr_cells hblk
      have HB := hide hblk
      have hw2 : IntKind.i64.wrap ((a : Int) + 1) = (a : Int) + 1 := by rw [IntKind.wrap_i64]; omega
      have hidx : ∀ wx, (Instr.index 9 (.string s) (.int .i64 (a : Int))).run Tryz.prog wx = .ok (.int .u8 (s[a].toNat : Int)) wx := fun wx => idx_any s .i64 a hlt wx
      have hb0 : (s[a].toNat : Int) < 256 := by have := s[a].toNat_lt; omega
      have hb1 : 0 ≤ (s[a].toNat : Int) := by omega
      generalize s[a].toNat = bv at hidx hb0 hb1 ⊢
      clear hblk hp key
      go_enter Tryz.func63, Tryz.ntmps63
      go_wp2_with fail
      go_quiet ((go_at_call 24; exact Calls.quiet_of_same (same_back (within_yes (a : Int) 0 ((s.size : Int) - 1) (by omega) (by omega) _))))
      go_wp2_with fail
      go_quiet (fail)
      go_wp2_with fail
      refine (goTo_yes g s (a : Int) ((a : Int) + 1) (w.drewN _) HB.out).mono ?_
      rintro e w2 ⟨rfl, hb2, hg2⟩
      have HB2 := hide (show w2.heap[g]? = some (.cells #[.string s, .int .i64 ((a + 1 : Nat) : Int)] ty (0, 0)) by rw [hb2]; rfl)
      have HG2 := hide (grown_trans (grown_drewN (grown_below (row := some g) (Below.refl _ w)) _) hg2)
      clear hb2 hg2
      go_wp2_with fail
      go_ret
      exact ⟨rfl, FRL.mk (by omega) HB2.out, HG2.out⟩
    · rw [byteL_out hlt]
      exact key (a : Int) (by omega) hblk

theorem shL_yes {s : ByteArray} {a v c : Nat} (h : rdGo 5 [] ((bl s).drop a) = some (v, c)) (hv : v ≤ 20000) (hf : a + c + v ≤ s.size) : shL 20000 (some ((bl s).drop a)) = (bl (s.extract (a + c) (a + c + v)), some ((bl s).drop (a + c + v))) := by
  have h1 : rdS ((bl s).drop a) = some (bl (s.extract (a + c) (a + c + v)), (bl s).drop (a + c + v)) := by
    unfold rdS rdV
    rw [h]
    simp only
    rw [drop_add8, if_pos (by rw [List.length_drop, bl_length]; omega), extract_list s (a + c) v hf, drop_add8, bl_mk8]
  unfold shL
  simp only
  rw [h1]
  simp only
  rw [if_pos (by rw [bl_length, ByteArray.size_extract]; omega)]

theorem shL_no {s : ByteArray} {a : Nat} (ha : a ≤ s.size) (h : rdGo 5 [] ((bl s).drop a) = none ∨ ∃ v c, rdGo 5 [] ((bl s).drop a) = some (v, c) ∧ ¬ (v ≤ 20000 ∧ a + c + v ≤ s.size)) : shL 20000 (some ((bl s).drop a)) = ([], none) := by
  unfold shL
  simp only
  rcases h with h | ⟨v, c, h, hn⟩
  · have h1 : rdS ((bl s).drop a) = none := by unfold rdS rdV; rw [h]
    rw [h1]
  · have hbd := rdGo_some 5 [] _ v c h
    rw [List.length_drop, bl_length, List.length_nil] at hbd
    by_cases hf : a + c + v ≤ s.size
    · have h1 : rdS ((bl s).drop a) = some (((bl s).drop (a + c)).take v, (bl s).drop (a + c + v)) := by
        unfold rdS rdV
        rw [h]
        simp only
        rw [drop_add8, if_pos (by rw [List.length_drop, bl_length]; omega), drop_add8]
      rw [h1]
      simp only
      rw [if_neg (by rw [List.length_take, List.length_drop, bl_length]; omega)]
    · have h1 : rdS ((bl s).drop a) = none := by
        unfold rdS rdV
        rw [h]
        simp only
        rw [drop_add8, if_neg (by rw [List.length_drop, bl_length]; omega)]
      rw [h1]

set_option maxHeartbeats 2000000 in
theorem short_any (g : Nat) (s : ByteArray) (hs : s.size ≤ 1048576) (r : Lf) (w : World) (h : FRL w g s r) :
    Calls Tryz.prog 90 #[.pointer (some ⟨g, 0, none⟩)] w fun e w' => e = .returned (.string ⟨(shL 20000 r).1.toArray⟩) ∧ FRL w' g s (shL 20000 r).2 ∧ w.grownBy w' (some g) := by
  have key : ∀ {ty : TypeId} (x : Int) (w : World), w.heap[g]? = some (.cells #[.string s, .int .i64 x] ty (0, 0)) → (∀ w, Calls Tryz.prog 117 #[.string s, .int .i64 x] w fun e w' => e = .returned (.tuple #[.string ⟨#[]⟩, .int .i64 0, .bool false]) ∧ Below w.heap.size w w') →
      Calls Tryz.prog 90 #[.pointer (some ⟨g, 0, none⟩)] w fun e w' => e = .returned (.string ⟨#[]⟩) ∧ FRL w' g s none ∧ w.grownBy w' (some g) := by
    intro ty x w hblk HRS
    have hgl := blk_lt hblk
    obtain ⟨c0, c1, z1⟩ := fr_cells hblk
    have HB := hide hblk
    have HR := hide HRS
    clear hblk HRS
    go_enter Tryz.func90, Tryz.ntmps90
    go_wp2_with fail
    go_region_held3 (fun w' => w'.cell? ⟨g, 0, none⟩ = some (.string s) ∧ w'.cell? ⟨g, 1, none⟩ = some (.int .i64 x)) (first | go_keep | exact ⟨(hb1.cell (by simpa using hgl)).trans c0, (hb1.cell (by simpa using hgl)).trans c1⟩)
      (first | (go_at_call 117; refine (HR.out _).mono ?_; rintro e w1 ⟨rfl, hb1⟩))
    have HB1 := hide (show w1.heap[g]? = some (.cells #[.string s, .int .i64 x] ty (0, 0)) from (hb1.block g (by simpa using hgl)).trans HB.out)
    have HG1 := hide (grown_trans (grown_drewN (grown_below (row := some g) (Below.refl _ w)) 1) (grown_below hb1))
    clear hb1 c0 c1 z1
    go_wp2_with fail
    refine (goTo_no g s x 0 _ HB1.out).mono ?_
    rintro e w2 ⟨rfl, hb2, hg2⟩
    have HB2 := hide hb2
    have HG2 := hide (grown_trans HG1.out hg2)
    clear hb2 hg2
    go_wp2_with fail
    go_ret
    exact ⟨rfl, FRL.off HB2.out, HG2.out⟩
  obtain ⟨p, ⟨hp, ty, hblk⟩, rfl⟩ := h
  cases p with
  | none => exact key (-1) w hblk (fun w => (implReadShort_off s hs (-1) (by omega) w).mono fun e w' q => ⟨q.1, q.2 ▸ Below.refl _ _⟩)
  | some a =>
    have ha := hp a rfl
    simp only [plI] at hblk
    simp only [Option.map_some]
    have HRS := fun w => implReadShort_any s hs a ha w
    cases hrd : rdGo 5 [] ((bl s).drop a) with
    | none =>
      rw [shL_no ha (Or.inl hrd)]
      rw [hrd] at HRS
      exact key (a : Int) w hblk HRS
    | some q =>
      obtain ⟨v, c⟩ := q
      by_cases hf : v ≤ 20000 ∧ a + c + v ≤ s.size
      · rw [shL_yes hrd hf.1 hf.2]
        rw [hrd, show rsVal s a (some (v, c)) = .tuple #[.string (s.extract (a + c) (a + c + v)), .int .i64 (a + c + v : Nat), .bool true] from if_pos hf] at HRS
        have hac := hf.2
        simp only
        rw [show (⟨(bl (s.extract (a + c) (a + c + v))).toArray⟩ : ByteArray) = s.extract (a + c) (a + c + v) from rfl]
        generalize s.extract (a + c) (a + c + v) = X at HRS ⊢
        generalize a + c + v = a' at hac HRS ⊢
        clear hf hrd key hp
        have hgl := blk_lt hblk
        obtain ⟨c0, c1, z1⟩ := fr_cells hblk
        have HB := hide hblk
        have HR := hide HRS
        clear hblk HRS
        go_enter Tryz.func90, Tryz.ntmps90
        go_wp2_with fail
        go_region_held3 (fun w' => w'.cell? ⟨g, 0, none⟩ = some (.string s) ∧ w'.cell? ⟨g, 1, none⟩ = some (.int .i64 (a : Int))) (first | go_keep | exact ⟨(hb1.cell (by simpa using hgl)).trans c0, (hb1.cell (by simpa using hgl)).trans c1⟩)
          (first | (go_at_call 117; refine (HR.out _).mono ?_; rintro e w1 ⟨rfl, hb1⟩))
        have HB1 := hide (show w1.heap[g]? = some (.cells #[.string s, .int .i64 (a : Int)] ty (0, 0)) from (hb1.block g (by simpa using hgl)).trans HB.out)
        have HG1 := hide (grown_trans (grown_drewN (grown_below (row := some g) (Below.refl _ w)) 1) (grown_below hb1))
        clear hb1 c0 c1 z1
        go_wp2_with fail
        refine (goTo_yes g s (a : Int) (a' : Int) _ HB1.out).mono ?_
        rintro e w2 ⟨rfl, hb2, hg2⟩
        have HB2 := hide hb2
        have HG2 := hide (grown_trans HG1.out hg2)
        clear hb2 hg2
        go_wp2_with fail
        go_ret
        exact ⟨rfl, FRL.mk hac HB2.out, HG2.out⟩
      · rw [shL_no ha (Or.inr ⟨v, c, hrd, hf⟩)]
        rw [hrd, show rsVal s a (some (v, c)) = .tuple #[.string ⟨#[]⟩, .int .i64 0, .bool false] from if_neg hf] at HRS
        exact key (a : Int) w hblk HRS

theorem ended_val {s : ByteArray} {p : Option Nat} (hp : ∀ a, p = some a → a ≤ s.size) : (p.map (fun a => (bl s).drop a) = some []) ↔ plI p = (s.size : Int) := by
  cases p with
  | none => (simp [plI]; try omega)
  | some a =>
    have := hp a rfl
    simp only [Option.map_some, Option.some.injEq, List.drop_eq_nil_iff, plI, bl_length]
    omega

set_option maxHeartbeats 1000000 in
theorem ended_any (g : Nat) (s : ByteArray) (hs : s.size ≤ 1048576) (r : Lf) (w : World) (h : FRL w g s r) :
    Calls Tryz.prog 39 #[.pointer (some ⟨g, 0, none⟩)] w fun e w' => e = .returned (.bool (decide (r = some []))) ∧ Drew w w' := by
  obtain ⟨p, ⟨hp, ty, hblk⟩, rfl⟩ := h
  have hE : decide (p.map (fun a => (bl s).drop a) = some []) = decide (plI p = (s.size : Int)) := decide_eq_decide.2 (ended_val hp)
  rw [hE]
  obtain ⟨c0, c1, z1⟩ := fr_cells hblk
  clear hE hp hblk
  generalize plI p = x at c1 ⊢
  by_cases hx : x = (s.size : Int)
  · subst hx
    go_enter Tryz.func39, Tryz.ntmps39
    go_wp2_with fail
    go_quiet (fail)
    go_wp2_with fail
    go_ret
    exact ⟨by simp, ⟨_, rfl⟩⟩
  · have hx2 : (x == (s.size : Int)) = false := by simpa using hx
    go_enter Tryz.func39, Tryz.ntmps39
    go_wp2_with fail
    go_quiet (fail)
    go_wp2_with fail
    go_ret
    exact ⟨by simp [hx], ⟨_, rfl⟩⟩

end Go.Proofs.YtckkfjmjcknjdaaGreatDoor

namespace Go.Proofs.YtckkfjmjcknjdaaGreatDoor
open Go.RowKit P1 P3 P9 P11 P12 K
set_option linter.unusedVariables false
set_option linter.unusedSimpArgs false

def lsL (f : Lf → Nat × Lf) (most : Nat) (r : Lf) : List Int × Lf := if (numL r).1 > most then ([], none) else itL f (numL r).1 (numL r).2

def LsPost (f : Lf → Nat × Lf) (most : Nat) (r : Lf) (g : Nat) (s : ByteArray) (w : World) (e : Ending) (w' : World) : Prop :=
  ∃ v, e = .returned v ∧ w'.ownsRow w.heap.size 3 1 v (lsL f most r).1.length ((lsL f most r).1.map icell) ∧ FRL w' g s (lsL f most r).2 ∧ w.grownBy w' (some g)

set_option maxHeartbeats 2000000 in
theorem list_byte (g : Nat) (s : ByteArray) (hs : s.size ≤ 1048576) (most : Nat) (hm : most ≤ 1000) (r : Lf) (w : World) (h : FRL w g s r) :
    Calls Tryz.prog 89 #[.pointer (some ⟨g, 0, none⟩), .int .i64 (most : Int), .func (.func 63) #[.pointer (some ⟨g, 0, none⟩)] #[]] w fun e w' => LsPost byteL most r g s w e w' := by
  have hgl := h.lt
  have HN := hide (number_any g s hs r w h)
  unfold LsPost lsL
  have hcl := numL_le r
  generalize numL r = q at HN hcl ⊢
  obtain ⟨c, r1⟩ := q
  simp only at HN hcl ⊢
  clear h
  by_cases hc : c > most
  · rw [if_pos hc]
    have g1 : (most : Int) < (c : Int) := by omega
    go_enter Tryz.func89, Tryz.ntmps89
    go_wp2_with fail
    refine HN.out.mono ?_
    rintro e w1 ⟨rfl, hc1, hg1⟩
    obtain ⟨p, ⟨hp, ty, hblk⟩, hr1⟩ := hc1
    have HB := hide hblk
    have HG := hide hg1
    clear hp hblk hr1 hg1
    go_wp2_with fail
    refine (goTo_no g s _ 0 _ HB.out).mono ?_
    rintro e w2 ⟨rfl, hb2, hg2⟩
    have HB2 := hide hb2
    have HG2 := hide (grown_trans HG.out hg2)
    clear hb2 hg2
    go_wp2_with fail
    refine bodyPost_ret (v := .slice none 0 0) (by simp [results, Tryz.results89, go_sem]) rfl ?_
    exact ⟨.slice none 0 0, rfl, World.ownsRow_nil _ _ _ _, FRL.off HB2.out, HG2.out⟩
  · rw [if_neg hc]
    have g1 : ¬ (most : Int) < (c : Int) := by omega
    have g2 : decide (most < c) = false := by simp; omega
    have hc20 : c ≤ 1000 := by omega
    clear hc hcl
    go_enter Tryz.func89, Tryz.ntmps89
    go_wp2_with fail
    refine HN.out.mono ?_
    rintro e w1 ⟨rfl, hc1, hg1⟩
    have HC1 := hide hc1
    have HG1 := hide hg1
    clear hc1 hg1
    go_wp2_with fail
    go_loopw [7, 18] (fun v i wr => ∃ (j : Nat), i = .int .i64 (j : Int) ∧ j ≤ c ∧ FRL wr g s (itL byteL j r1).2 ∧ wr.ownsRow w.heap.size 3 1 v j ((itL byteL j r1).1.map icell) ∧ w.grownBy wr (some g)) (fun _ i _ => c - (intOf i).toNat)
    case atStart => exact ⟨0, rfl, Nat.zero_le _, HC1.out, World.ownsRow_nil _ _ _ _, HG1.out⟩
    case round =>
      obtain ⟨j, rfl, hj, hcur, hown, hgr⟩ := hrel
      have HCU := hide hcur
      have HOW := hide hown
      have HGR := hide hgr
      clear hcur hown hgr
      by_cases hlt : j < c
      · have j0 : (j : Int) < (c : Int) := by omega
        have HE := hide (oneByte_any g s hs _ wr HCU.out)
        have e1 : (itL byteL (j + 1) r1).1.map icell = (itL byteL j r1).1.map icell ++ [.int .i64 (((byteL (itL byteL j r1).2).1 : Nat) : Int)] := by simp [itL, icell]
        have e2 : (itL byteL (j + 1) r1).2 = (byteL (itL byteL j r1).2).2 := rfl
        rw [← e2] at HE
        have E1 := hide e1
        generalize (byteL (itL byteL j r1).2).1 = bv at HE E1
        clear e1 e2
        go_wp2_with fail
        refine HE.out.mono ?_
        rintro e w2 ⟨rfl, hc2, hg2⟩
        have HC2 := hide hc2
        have HG2 := hide (grown_trans HGR.out hg2)
        have hown2 := HOW.out.kept hg2 (Or.inr (fun q => by have := HOW.out.lt g q; omega))
        have hsz := HG2.out.size
        have hbel := Below.refl w.heap.size w2
        clear hc2 hg2
        go_wp2_with (at_builtin; refine wpList_push rfl _ _ 22 rfl Tryz.underlying22 infoIz rfl rfl hown2 rfl rfl hbel hsz (by unfold maxLen; omega) (by omega) ?_)
        intro v' w3 hown' hbel' hsz'
        have HO3 := hide (show w3.ownsRow w.heap.size 3 1 v' (j + 1) ((itL byteL (j + 1) r1).1.map icell) by rw [E1.out]; exact hown')
        have HC3 := hide (HC2.out.kept (hbel'.block g hgl))
        have HG3 := hide (grown_low HG2.out hbel')
        clear hown' hbel' hsz' hown2 hbel hsz
        go_wp2_with fail
        go_roundw
        case rel => exact ⟨j + 1, by go_num, by omega, HC3.out, HO3.out, HG3.out⟩
        case measure => simp [intOf]; omega
      · have hjn : j = c := by omega
        subst hjn
        have HLN := hide (itL_len byteL j r1)
        go_wp2_with fail
        obtain ⟨ov, cv, hv⟩ := row_form HOW.out
        subst hv
        refine bodyPost_ret (v := .slice ov j cv) (by simp [results, Tryz.results89, go_sem]) rfl ?_
        exact ⟨.slice ov j cv, rfl, by rw [HLN.out]; exact HOW.out, HCU.out, HGR.out⟩

set_option maxHeartbeats 2000000 in
theorem list_num (g : Nat) (s : ByteArray) (hs : s.size ≤ 1048576) (most : Nat) (hm : most ≤ 1000) (r : Lf) (w : World) (h : FRL w g s r) :
    Calls Tryz.prog 89 #[.pointer (some ⟨g, 0, none⟩), .int .i64 (most : Int), .func (.func 64) #[.pointer (some ⟨g, 0, none⟩)] #[]] w fun e w' => LsPost numL most r g s w e w' := by
  have hgl := h.lt
  have HN := hide (number_any g s hs r w h)
  unfold LsPost lsL
  have hcl := numL_le r
  generalize numL r = q at HN hcl ⊢
  obtain ⟨c, r1⟩ := q
  simp only at HN hcl ⊢
  clear h
  by_cases hc : c > most
  · rw [if_pos hc]
    have g1 : (most : Int) < (c : Int) := by omega
    go_enter Tryz.func89, Tryz.ntmps89
    go_wp2_with fail
    refine HN.out.mono ?_
    rintro e w1 ⟨rfl, hc1, hg1⟩
    obtain ⟨p, ⟨hp, ty, hblk⟩, hr1⟩ := hc1
    have HB := hide hblk
    have HG := hide hg1
    clear hp hblk hr1 hg1
    go_wp2_with fail
    refine (goTo_no g s _ 0 _ HB.out).mono ?_
    rintro e w2 ⟨rfl, hb2, hg2⟩
    have HB2 := hide hb2
    have HG2 := hide (grown_trans HG.out hg2)
    clear hb2 hg2
    go_wp2_with fail
    refine bodyPost_ret (v := .slice none 0 0) (by simp [results, Tryz.results89, go_sem]) rfl ?_
    exact ⟨.slice none 0 0, rfl, World.ownsRow_nil _ _ _ _, FRL.off HB2.out, HG2.out⟩
  · rw [if_neg hc]
    have g1 : ¬ (most : Int) < (c : Int) := by omega
    have g2 : decide (most < c) = false := by simp; omega
    have hc20 : c ≤ 1000 := by omega
    clear hc hcl
    go_enter Tryz.func89, Tryz.ntmps89
    go_wp2_with fail
    refine HN.out.mono ?_
    rintro e w1 ⟨rfl, hc1, hg1⟩
    have HC1 := hide hc1
    have HG1 := hide hg1
    clear hc1 hg1
    go_wp2_with fail
    go_loopw [7, 18] (fun v i wr => ∃ (j : Nat), i = .int .i64 (j : Int) ∧ j ≤ c ∧ FRL wr g s (itL numL j r1).2 ∧ wr.ownsRow w.heap.size 3 1 v j ((itL numL j r1).1.map icell) ∧ w.grownBy wr (some g)) (fun _ i _ => c - (intOf i).toNat)
    case atStart => exact ⟨0, rfl, Nat.zero_le _, HC1.out, World.ownsRow_nil _ _ _ _, HG1.out⟩
    case round =>
      obtain ⟨j, rfl, hj, hcur, hown, hgr⟩ := hrel
      have HCU := hide hcur
      have HOW := hide hown
      have HGR := hide hgr
      clear hcur hown hgr
      by_cases hlt : j < c
      · have j0 : (j : Int) < (c : Int) := by omega
        have HE := hide (number_any g s hs _ wr HCU.out)
        have e1 : (itL numL (j + 1) r1).1.map icell = (itL numL j r1).1.map icell ++ [.int .i64 (((numL (itL numL j r1).2).1 : Nat) : Int)] := by simp [itL, icell]
        have e2 : (itL numL (j + 1) r1).2 = (numL (itL numL j r1).2).2 := rfl
        rw [← e2] at HE
        have E1 := hide e1
        generalize (numL (itL numL j r1).2).1 = bv at HE E1
        clear e1 e2
        go_wp2_with fail
        refine HE.out.mono ?_
        rintro e w2 ⟨rfl, hc2, hg2⟩
        have HC2 := hide hc2
        have HG2 := hide (grown_trans HGR.out hg2)
        have hown2 := HOW.out.kept hg2 (Or.inr (fun q => by have := HOW.out.lt g q; omega))
        have hsz := HG2.out.size
        have hbel := Below.refl w.heap.size w2
        clear hc2 hg2
        go_wp2_with (at_builtin; refine wpList_push rfl _ _ 22 rfl Tryz.underlying22 infoIz rfl rfl hown2 rfl rfl hbel hsz (by unfold maxLen; omega) (by omega) ?_)
        intro v' w3 hown' hbel' hsz'
        have HO3 := hide (show w3.ownsRow w.heap.size 3 1 v' (j + 1) ((itL numL (j + 1) r1).1.map icell) by rw [E1.out]; exact hown')
        have HC3 := hide (HC2.out.kept (hbel'.block g hgl))
        have HG3 := hide (grown_low HG2.out hbel')
        clear hown' hbel' hsz' hown2 hbel hsz
        go_wp2_with fail
        go_roundw
        case rel => exact ⟨j + 1, by go_num, by omega, HC3.out, HO3.out, HG3.out⟩
        case measure => simp [intOf]; omega
      · have hjn : j = c := by omega
        subst hjn
        have HLN := hide (itL_len numL j r1)
        go_wp2_with fail
        obtain ⟨ov, cv, hv⟩ := row_form HOW.out
        subst hv
        refine bodyPost_ret (v := .slice ov j cv) (by simp [results, Tryz.results89, go_sem]) rfl ?_
        exact ⟨.slice ov j cv, rfl, by rw [HLN.out]; exact HOW.out, HCU.out, HGR.out⟩

end Go.Proofs.YtckkfjmjcknjdaaGreatDoor

namespace Go.Proofs.YtckkfjmjcknjdaaGreatDoor
open Go.RowKit P1 P3 P9 P11 P12 K
set_option linter.unusedVariables false
set_option linter.unusedSimpArgs false

structure EvR (w W : World) (g : Nat) (s : ByteArray) (r : Lf) (id kd sn us mb dp : Int) (xl xp : Value) (tx : List UInt8) (n m : Nat) (zl zp : List Int) : Prop where
  c : FRL W g s r
  e : EB W (w.heap.size + 1) id kd sn us mb dp xl xp tx
  z : EB W w.heap.size 0 0 0 0 0 0 (.slice none 0 0) (.slice none 0 0) []
  gr : w.grownBy W (some g)
  own : EvOwn W (w.heap.size + 1 + 1) xl xp n m zl zp
  hg : g < w.heap.size
  sz : w.heap.size + 1 + 1 ≤ W.heap.size

section
variable {w W W' : World} {g : Nat} {s : ByteArray} {r r' : Lf} {id kd sn us mb dp : Int} {xl xp : Value} {tx : List UInt8} {n m : Nat} {zl zp : List Int}

theorem EvR.step (h : EvR w W g s r id kd sn us mb dp xl xp tx n m zl zp) (hc : FRL W' g s r') (hg : W.grownBy W' (some g)) : EvR w W' g s r' id kd sn us mb dp xl xp tx n m zl zp :=
  ⟨hc, h.e.kept hg (fun q => by have := Option.some.inj q; have := h.hg; omega), h.z.kept hg (fun q => by have := Option.some.inj q; have := h.hg; omega), grown_trans h.gr hg, h.own.kept hg (by have := h.hg; omega), h.hg, Nat.le_trans h.sz hg.size⟩

theorem EvR.put (h : EvR w W g s r id kd sn us mb dp xl xp tx n m zl zp) {id' kd' sn' us' mb' dp' : Int} {xl' xp' : Value} {tx' : List UInt8} {n' m' : Nat} {zl' zp' : List Int} {k : Nat} {v : Value}
    (he : EB (W.setCell ⟨w.heap.size + 1, k, none⟩ v) (w.heap.size + 1) id' kd' sn' us' mb' dp' xl' xp' tx') (ho : EvOwn W (w.heap.size + 1 + 1) xl' xp' n' m' zl' zp') :
    EvR w (W.setCell ⟨w.heap.size + 1, k, none⟩ v) g s r id' kd' sn' us' mb' dp' xl' xp' tx' n' m' zl' zp' := by
  have hg := blk_grown W (w.heap.size + 1) k v
  have := h.hg
  refine ⟨h.c.kept (hg.block g h.c.lt (fun q => by have := Option.some.inj q; omega)), he, h.z.set _ (by omega), grown_low h.gr ((Below.refl _ _).setCell (by show w.heap.size ≤ w.heap.size + 1; omega) _), ho.kept hg (by omega), h.hg, ?_⟩
  have := hg.size
  have := h.sz
  omega

theorem EvOwn.two {base : Nat} {v : Value} {k : Nat} {zs : List Int} (hs : base ≤ W.heap.size) (h0 : EvOwn W base xl xp n m zl zp) (h : W'.ownsRow base 3 1 xl n (zl.map icell)) (ho : W'.ownsRow W.heap.size 3 1 v k (zs.map icell)) : EvOwn W' base xl v n k zl zs :=
  ⟨h, own_base ho hs, fun j hj q => by have h1 := (h0.l.lt j hj).2; have h2 := (ho.lt j q).1; omega⟩
end

def EvPost (i k sn u m d : Nat) (zl : List Int) (tx : List UInt8) (zp : List Int) (r9 : Lf) (g : Nat) (s : ByteArray) (w : World) (e : Ending) (w' : World) : Prop :=
  ∃ vl vp, e = .returned (evval i k sn u m d vl vp tx) ∧ FRL w' g s r9 ∧ EvOwn w' w.heap.size vl vp zl.length zp.length zl zp ∧ w.grownBy w' (some g)

set_option maxHeartbeats 8000000 in
theorem event_any (g : Nat) (s : ByteArray) (hs : s.size ≤ 1048576) (r : Lf) (w : World) (h : FRL w g s r) {r1 r2 r3 r4 r5 r6 r7 r8 r9 : Lf} {i k sn u m d : Nat} {zl zp : List Int} {tx : List UInt8}
    (h1 : numL r = (i, r1)) (h2 : byteL r1 = (k, r2)) (h3 : byteL r2 = (sn, r3)) (h4 : byteL r3 = (u, r4)) (h5 : byteL r4 = (m, r5)) (h6 : lsL byteL 5 r5 = (zl, r6)) (h7 : shL 20000 r6 = (tx, r7)) (h8 : lsL numL 3 r7 = (zp, r8)) (h9 : numL r8 = (d, r9)) :
    Calls Tryz.prog 118 #[.pointer (some ⟨g, 0, none⟩)] w fun e w' => EvPost i k sn u m d zl tx zp r9 g s w e w' := by
  have hgl := h.lt
  have HV1 := hide (fun w hc => number_any g s hs r w hc)
  have HV2 := hide (fun w hc => oneByte_any g s hs r1 w hc)
  have HV3 := hide (fun w hc => oneByte_any g s hs r2 w hc)
  have HV4 := hide (fun w hc => oneByte_any g s hs r3 w hc)
  have HV5 := hide (fun w hc => oneByte_any g s hs r4 w hc)
  have HV6 := hide (fun w hc => list_byte g s hs 5 (by omega) r5 w hc)
  have HV7 := hide (fun w hc => short_any g s hs r6 w hc)
  have HV8 := hide (fun w hc => list_num g s hs 3 (by omega) r7 w hc)
  have HV9 := hide (fun w hc => number_any g s hs r8 w hc)
  unfold LsPost at HV6 HV8
  rw [h1] at HV1
  rw [h2] at HV2
  rw [h3] at HV3
  rw [h4] at HV4
  rw [h5] at HV5
  rw [h6] at HV6
  rw [h7] at HV7
  rw [h8] at HV8
  rw [h9] at HV9
  simp only at HV1 HV2 HV3 HV4 HV5 HV6 HV7 HV8 HV9
  obtain ⟨NL, hNL⟩ : ∃ NL, zl.length = NL := ⟨_, rfl⟩
  obtain ⟨NP, hNP⟩ : ∃ NP, zp.length = NP := ⟨_, rfl⟩
  rw [hNL] at HV6
  rw [hNP] at HV8
  have H0 := hide (show EvR w ((w.alloc (.cells #[.int .i64 0, .int .i64 0, .int .i64 0, .int .i64 0, .int .i64 0, .slice none 0 0, .string ⟨#[]⟩, .slice none 0 0, .int .i64 0] 29)).alloc (.cells #[.int .i64 0, .int .i64 0, .int .i64 0, .int .i64 0, .int .i64 0, .slice none 0 0, .string ⟨#[]⟩, .slice none 0 0, .int .i64 0] 29)) g s r 0 0 0 0 0 0 (.slice none 0 0) (.slice none 0 0) [] 0 0 [] [] by
    have k1 := (Below.refl w.heap.size w).alloc (Nat.le_refl _) (.cells #[.int .i64 0, .int .i64 0, .int .i64 0, .int .i64 0, .int .i64 0, .slice none 0 0, .string ⟨#[]⟩, .slice none 0 0, .int .i64 0] 29)
    have k2 := (Below.refl (w.alloc (.cells #[.int .i64 0, .int .i64 0, .int .i64 0, .int .i64 0, .int .i64 0, .slice none 0 0, .string ⟨#[]⟩, .slice none 0 0, .int .i64 0] 29)).heap.size (w.alloc (.cells #[.int .i64 0, .int .i64 0, .int .i64 0, .int .i64 0, .int .i64 0, .slice none 0 0, .string ⟨#[]⟩, .slice none 0 0, .int .i64 0] 29))).alloc (Nat.le_refl _) (.cells #[.int .i64 0, .int .i64 0, .int .i64 0, .int .i64 0, .int .i64 0, .slice none 0 0, .string ⟨#[]⟩, .slice none 0 0, .int .i64 0] 29)
    have e1 := EB.new w 0 0 0 0 0 0 (.slice none 0 0) (.slice none 0 0) []
    have e2 := EB.new (w.alloc (.cells #[.int .i64 0, .int .i64 0, .int .i64 0, .int .i64 0, .int .i64 0, .slice none 0 0, .string ⟨#[]⟩, .slice none 0 0, .int .i64 0] 29)) 0 0 0 0 0 0 (.slice none 0 0) (.slice none 0 0) []
    rw [World.size_alloc] at e2
    exact ⟨(h.kept (k1.block g hgl)).kept (k2.block g (by simp; omega)), e2, e1.on k2 (by simp), grown_below (k1.trans (k2.mono (by simp))), ⟨World.ownsRow_nil _ _ _ _, World.ownsRow_nil _ _ _ _, fun j hj => by cases hj⟩, hgl, by simp⟩)
  have HNL := hide hNL
  have HNP := hide hNP
  clear h h1 h2 h3 h4 h5 h6 h7 h8 h9 hNL hNP
  go_enter Tryz.func118, Tryz.ntmps118
  go_wp2_with fail
  generalize (w.alloc (.cells #[.int .i64 0, .int .i64 0, .int .i64 0, .int .i64 0, .int .i64 0, .slice none 0 0, .string ⟨#[]⟩, .slice none 0 0, .int .i64 0] 29)).alloc (.cells #[.int .i64 0, .int .i64 0, .int .i64 0, .int .i64 0, .int .i64 0, .slice none 0 0, .string ⟨#[]⟩, .slice none 0 0, .int .i64 0] 29) = v0 at H0 ⊢
  refine (HV1.out _ H0.out.c).mono ?_
  rintro e x1 ⟨rfl, hc1, hg1⟩
  have G1 := hide (H0.out.step hc1 hg1)
  have H1 := hide (G1.out.put (G1.out.e.put0 (i : Int)) G1.out.own)
  clear hc1 hg1 H0
  obtain ⟨e0, e1, e2, e3, e4, e5, e6, e7, e8⟩ := G1.out.e.ev
  have f0 := G1.out.e.free 0
  go_wp2_with fail
  clear e0 e1 e2 e3 e4 e5 e6 e7 e8 f0 G1
  generalize x1.setCell ⟨w.heap.size + 1, 0, none⟩ (.int .i64 (i : Int)) = v1 at H1 ⊢
  refine (HV2.out _ H1.out.c).mono ?_
  rintro e x2 ⟨rfl, hc2, hg2⟩
  have G2 := hide (H1.out.step hc2 hg2)
  have H2 := hide (G2.out.put (G2.out.e.put1 (k : Int)) G2.out.own)
  clear hc2 hg2 H1
  obtain ⟨e0, e1, e2, e3, e4, e5, e6, e7, e8⟩ := G2.out.e.ev
  have f1 := G2.out.e.free 1
  go_wp2_with fail
  clear e0 e1 e2 e3 e4 e5 e6 e7 e8 f1 G2
  generalize x2.setCell ⟨w.heap.size + 1, 1, none⟩ (.int .i64 (k : Int)) = v2 at H2 ⊢
  refine (HV3.out _ H2.out.c).mono ?_
  rintro e x3 ⟨rfl, hc3, hg3⟩
  have G3 := hide (H2.out.step hc3 hg3)
  have H3 := hide (G3.out.put (G3.out.e.put2 (sn : Int)) G3.out.own)
  clear hc3 hg3 H2
  obtain ⟨e0, e1, e2, e3, e4, e5, e6, e7, e8⟩ := G3.out.e.ev
  have f2 := G3.out.e.free 2
  go_wp2_with fail
  clear e0 e1 e2 e3 e4 e5 e6 e7 e8 f2 G3
  generalize x3.setCell ⟨w.heap.size + 1, 2, none⟩ (.int .i64 (sn : Int)) = v3 at H3 ⊢
  refine (HV4.out _ H3.out.c).mono ?_
  rintro e x4 ⟨rfl, hc4, hg4⟩
  have G4 := hide (H3.out.step hc4 hg4)
  have H4 := hide (G4.out.put (G4.out.e.put3 (u : Int)) G4.out.own)
  clear hc4 hg4 H3
  obtain ⟨e0, e1, e2, e3, e4, e5, e6, e7, e8⟩ := G4.out.e.ev
  have f3 := G4.out.e.free 3
  go_wp2_with fail
  clear e0 e1 e2 e3 e4 e5 e6 e7 e8 f3 G4
  generalize x4.setCell ⟨w.heap.size + 1, 3, none⟩ (.int .i64 (u : Int)) = v4 at H4 ⊢
  refine (HV5.out _ H4.out.c).mono ?_
  rintro e x5 ⟨rfl, hc5, hg5⟩
  have G5 := hide (H4.out.step hc5 hg5)
  have H5 := hide (G5.out.put (G5.out.e.put4 (m : Int)) G5.out.own)
  clear hc5 hg5 H4
  obtain ⟨e0, e1, e2, e3, e4, e5, e6, e7, e8⟩ := G5.out.e.ev
  have f4 := G5.out.e.free 4
  go_wp2_with fail
  clear e0 e1 e2 e3 e4 e5 e6 e7 e8 f4 G5
  generalize x5.setCell ⟨w.heap.size + 1, 4, none⟩ (.int .i64 (m : Int)) = v5 at H5 ⊢
  refine (HV6.out _ H5.out.c).mono ?_
  rintro e x6 ⟨q6, rfl, ho6, hc6, hg6⟩
  obtain ⟨oa6, ca6, hq6⟩ := row_form ho6
  subst hq6
  have G6 := hide (H5.out.step hc6 hg6)
  have HO6 := hide (show EvOwn x6 (w.heap.size + 1 + 1) (.slice oa6 NL ca6) (.slice none 0 0) NL 0 zl [] from ⟨own_base ho6 H5.out.sz, World.ownsRow_nil _ _ _ _, fun j hj q => by cases q⟩)
  have H6 := hide (G6.out.put (G6.out.e.put5 (.slice oa6 NL ca6)) HO6.out)
  clear hc6 hg6 H5 ho6
  obtain ⟨e0, e1, e2, e3, e4, e5, e6, e7, e8⟩ := G6.out.e.ev
  have f5 := G6.out.e.free 5
  go_wp2_with fail
  clear e0 e1 e2 e3 e4 e5 e6 e7 e8 f5 G6 HO6
  generalize x6.setCell ⟨w.heap.size + 1, 5, none⟩ (.slice oa6 NL ca6) = v6 at H6 ⊢
  refine (HV7.out _ H6.out.c).mono ?_
  rintro e x7 ⟨rfl, hc7, hg7⟩
  have G7 := hide (H6.out.step hc7 hg7)
  have H7 := hide (G7.out.put (G7.out.e.put6 tx) G7.out.own)
  clear hc7 hg7 H6
  obtain ⟨e0, e1, e2, e3, e4, e5, e6, e7, e8⟩ := G7.out.e.ev
  have f6 := G7.out.e.free 6
  go_wp2_with fail
  clear e0 e1 e2 e3 e4 e5 e6 e7 e8 f6 G7
  generalize x7.setCell ⟨w.heap.size + 1, 6, none⟩ (.string ⟨tx.toArray⟩) = v7 at H7 ⊢
  refine (HV8.out _ H7.out.c).mono ?_
  rintro e x8 ⟨q8, rfl, ho8, hc8, hg8⟩
  obtain ⟨oa8, ca8, hq8⟩ := row_form ho8
  subst hq8
  have G8 := hide (H7.out.step hc8 hg8)
  have HO8 := hide (EvOwn.two H7.out.sz H7.out.own G8.out.own.l ho8)
  have H8 := hide (G8.out.put (G8.out.e.put7 (.slice oa8 NP ca8)) HO8.out)
  clear hc8 hg8 H7 ho8
  obtain ⟨e0, e1, e2, e3, e4, e5, e6, e7, e8⟩ := G8.out.e.ev
  have f7 := G8.out.e.free 7
  go_wp2_with fail
  clear e0 e1 e2 e3 e4 e5 e6 e7 e8 f7 G8 HO8
  generalize x8.setCell ⟨w.heap.size + 1, 7, none⟩ (.slice oa8 NP ca8) = v8 at H8 ⊢
  refine (HV9.out _ H8.out.c).mono ?_
  rintro e x9 ⟨rfl, hc9, hg9⟩
  have G9 := hide (H8.out.step hc9 hg9)
  have H9 := hide (G9.out.put (G9.out.e.put8 (d : Int)) G9.out.own)
  clear hc9 hg9 H8
  obtain ⟨e0, e1, e2, e3, e4, e5, e6, e7, e8⟩ := G9.out.e.ev
  have f8 := G9.out.e.free 8
  have H9E := hide (G9.out.e.put8 (d : Int))
  obtain ⟨t0, t1, t2, t3, t4, t5, t6, t7, t8⟩ := H9E.out.ev
  have y0 := (H9.out.z).free 0
  have y1 := (H9.out.z).free 1
  have y2 := (H9.out.z).free 2
  have y3 := (H9.out.z).free 3
  have y4 := (H9.out.z).free 4
  have y5 := (H9.out.z).free 5
  have y6 := (H9.out.z).free 6
  have y7 := (H9.out.z).free 7
  have y8 := (H9.out.z).free 8
  obtain ⟨p0, p1, p2, p3, p4, p5, p6, p7, p8⟩ := H9.out.z.ev
  go_wp2_with fail
  clear e0 e1 e2 e3 e4 e5 e6 e7 e8 f8 t0 t1 t2 t3 t4 t5 t6 t7 t8 y0 y1 y2 y3 y4 y5 y6 y7 y8 p0 p1 p2 p3 p4 p5 p6 p7 p8 H9E G9
  generalize x9.setCell ⟨w.heap.size + 1, 8, none⟩ (.int .i64 (d : Int)) = v9 at H9 ⊢
  obtain ⟨w6, hw6, hE6, hg6⟩ := H9.out.z.all (i : Int) (k : Int) (sn : Int) (u : Int) (m : Int) (d : Int) (.slice oa6 NL ca6) (.slice oa8 NP ca8) tx
  rw [hw6]
  obtain ⟨c0, c1, c2, c3, c4, c5, c6, c7, c8⟩ := hE6.ev
  refine bodyPost_ret (v := evval (i : Int) (k : Int) (sn : Int) (u : Int) (m : Int) (d : Int) (.slice oa6 NL ca6) (.slice oa8 NP ca8) tx) (by simp [results, Tryz.results118, go_sem, c0, c1, c2, c3, c4, c5, c6, c7, c8]) rfl ?_
  have hb6 : Below w.heap.size v9 w6 := (Below.refl _ _).grown hg6 H9.out.gr.size (fun j hj => by cases hj; exact Nat.le_refl _)
  refine ⟨.slice oa6 NL ca6, .slice oa8 NP ca8, rfl, H9.out.c.kept (hg6.block g H9.out.c.lt (fun q => by have := Option.some.inj q; omega)), ?_, grown_low H9.out.gr hb6⟩
  rw [HNL.out, HNP.out]
  exact (H9.out.own.kept hg6 (by omega)).down (by omega)

end Go.Proofs.YtckkfjmjcknjdaaGreatDoor
