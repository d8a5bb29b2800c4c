/-
  Walks of chapter 8: names of snapshots, and the number that a name tells, of the specification and of the program.
  Regions that draw their order, held: what is held may grow on the way.
  A struct that was handed over, in a block of its own: its cells, while only new memory is made.
  A region that draws its order, whose operations only read and whose callees may make new memory: one walk, in a class of worlds of our own.
-/
import Derived.Test.YtpenpbopehbncaaDoorSnap1
import Derived.Test.YtpenpbopehbncaaDoorPack11
import Derived.Test.YtpenpbopehbncaaDoorWalk5a
import Derived.Deep.RegionHeld3
import Derived.Deep.DrawnRows
import Derived.Test.YtpenpbopehbncaaDoorPack6
import Derived.WalkSmall
import Derived.Laws.IdiomCopy
import Derived.BigQuiet
namespace Go.Proofs.YtpenpbopehbncaaDoor
open Go.RowKit P1 P3 P9 P11 K
set_option linter.unusedVariables false
set_option linter.unusedSimpArgs false

theorem cat_nameS (d : List UInt8) : (⟨#[115]⟩ : ByteArray) ++ ⟨d.toArray⟩ = ⟨(115 :: d).toArray⟩ := by
  apply ByteArray.ext
  simp

set_option maxHeartbeats 1000000 in
theorem specSnapName_any (n : Int) (h0 : -9223372036854775808 ≤ n) (h1 : n ≤ 9223372036854775807) (w : World) :
    Calls Tryd.prog 9 #[.int .i64 n] w fun e w' => e = .returned (.string ⟨(snName n).toArray⟩) ∧ Below w.heap.size w w' := by
  by_cases hi : 0 ≤ n ∧ n ≤ 1000000
  · obtain ⟨i0, i1⟩ := hi
    obtain ⟨N, rfl⟩ := Int.eq_ofNat_of_zero_le i0
    have R := hide (show snName (N : Int) = 115 :: Lib.decDigits N by unfold snName; rw [if_pos (snIn_iff.2 ⟨i0, i1⟩)]; rfl)
    have hr := dec_roomS N (by omega)
    have C := cat_nameS (Lib.decDigits N)
    go_enter Tryd.func9, Tryd.ntmps9
    go_wp2_with (first
      | (go_at_call 33; refine (l01In_yes _ _ _ (by omega) (by omega) _).mono ?_; rintro e w1 ⟨rfl, rfl⟩)
      | (go_at_call 34; refine (specDecimal_any (N : Int) (by omega) (by omega) _).mono ?_; rw [Lib.itoa_nonneg]; rintro e w1 ⟨rfl, hb1⟩))
    go_ret
    exact ⟨by rw [R.out]; rfl, hb1⟩
  · have R := hide (show snName n = [] by unfold snName; rw [if_neg (fun h => hi (snIn_iff.1 h))])
    go_enter Tryd.func9, Tryd.ntmps9
    go_wp2_with (go_at_call 33; refine (l01In_no _ _ _ (by omega) _).mono ?_; rintro e w1 ⟨rfl, rfl⟩)
    go_ret
    exact ⟨by rw [R.out]; rfl, Below.refl _ _⟩

set_option maxHeartbeats 1000000 in
theorem implSnapName_any (n : Int) (h0 : -9223372036854775808 ≤ n) (h1 : n ≤ 9223372036854775807) (w : World) (ht : Lib.TabIs Tryd.prog w "internal/strconv.uint64pow10" .u64 Lib.pow10Tab) :
    Calls Tryd.prog 10 #[.int .i64 n] w fun e w' => e = .returned (.string ⟨(snName n).toArray⟩) ∧ Below w.heap.size w w' := by
  have HT := hide ht
  clear ht
  by_cases hi : 0 ≤ n ∧ n ≤ 1000000
  · obtain ⟨i0, i1⟩ := hi
    obtain ⟨N, rfl⟩ := Int.eq_ofNat_of_zero_le i0
    have R := hide (show snName (N : Int) = 115 :: Lib.decDigits N by unfold snName; rw [if_pos (snIn_iff.2 ⟨i0, i1⟩)]; rfl)
    have hr := dec_roomS N (by omega)
    have C := cat_nameS (Lib.decDigits N)
    go_enter Tryd.func10, Tryd.ntmps10
    go_wp2_with (first
      | (go_at_call 35; refine (within_yes _ _ _ (by omega) (by omega) _).mono ?_; rintro e w1 ⟨rfl, rfl⟩)
      | (go_at_call 36; refine (implDecimal_any (N : Int) (by omega) (by omega) _ HT.out).mono ?_; rw [Lib.itoa_nonneg]; rintro e w1 ⟨rfl, hb1⟩))
    go_ret
    exact ⟨by rw [R.out]; rfl, hb1⟩
  · have R := hide (show snName n = [] by unfold snName; rw [if_neg (fun h => hi (snIn_iff.1 h))])
    go_enter Tryd.func10, Tryd.ntmps10
    go_wp2_with (go_at_call 35; refine (within_no _ _ _ (by omega) _).mono ?_; rintro e w1 ⟨rfl, rfl⟩)
    go_ret
    exact ⟨by rw [R.out]; rfl, Below.refl _ _⟩

theorem bl_restS (l : List UInt8) : bl ((⟨l.toArray⟩ : ByteArray).extract 1 (⟨l.toArray⟩ : ByteArray).size) = l.drop 1 := by
  unfold bl
  rw [ByteArray.data_extract, Array.toList_extract, List.extract_eq_take_drop]
  show List.take (l.length - 1) (l.drop 1) = l.drop 1
  exact List.take_of_length_le (by simp)

set_option maxHeartbeats 1000000 in
theorem l08Index_any (l : List UInt8) (hl : l.length ≤ 1048576) (w : World) :
    Calls Tryd.prog 69 #[.string ⟨l.toArray⟩] w fun e w' => e = .returned (.int .i64 (snNumber l)) ∧ Below w.heap.size w w' := by
  have hsz : (⟨l.toArray⟩ : ByteArray).size = l.length := rfl
  by_cases h2 : l.length < 2
  · have R := hide (show snNumber l = -1 by unfold snNumber; rw [if_pos h2])
    have g0 : (l.length : Int) < 2 := by omega
    go_enter Tryd.func69, Tryd.ntmps69
    go_wp2_with fail
    go_ret
    exact ⟨by rw [R.out]; rfl, Below.refl _ _⟩
  · have g0 : ¬ (l.length : Int) < 2 := by omega
    have HRD := hide (specReadDecimal_any ((⟨l.toArray⟩ : ByteArray).extract 1 (⟨l.toArray⟩ : ByteArray).size) (by rw [ByteArray.size_extract, hsz]; omega))
    rw [bl_restS] at HRD
    cases hrd : rdDec (l.drop 1) with
    | none =>
      have R := hide (show snNumber l = -1 by unfold snNumber; rw [if_neg h2, hrd])
      rw [hrd] at HRD
      go_enter Tryd.func69, Tryd.ntmps69
      go_wp2_with (go_at_call 90; refine (HRD.out _).mono ?_; unfold rdVal; rintro e w1 ⟨rfl, hb1⟩)
      go_ret
      exact ⟨by rw [R.out]; rfl, hb1⟩
    | some n =>
      rw [hrd] at HRD
      have hn := rdDec_some hrd
      have HJN := hide (specSnapName_any (n : Int) (by omega) (by omega))
      by_cases he : snName n = l
      · have R := hide (show snNumber l = (n : Int) by unfold snNumber; rw [if_neg h2, hrd]; simp only; rw [if_pos he])
        rw [he] at HJN
        clear hrd he
        go_enter Tryd.func69, Tryd.ntmps69
        go_wp2_with (first
          | (go_at_call 90; refine (HRD.out _).mono ?_; unfold rdVal; rintro e w1 ⟨rfl, hb1⟩)
          | (go_at_call 9; refine (HJN.out _).mono ?_; rintro e w2 ⟨rfl, hb2⟩))
        go_ret
        exact ⟨by rw [R.out]; rfl, hb1.trans (hb2.mono hb1.size)⟩
      · have R := hide (show snNumber l = -1 by unfold snNumber; rw [if_neg h2, hrd]; simp only; rw [if_neg he])
        have hne : (snName n == l) = false := by rw [beq_eq_false_iff_ne]; exact he
        clear hrd he
        go_enter Tryd.func69, Tryd.ntmps69
        go_wp2_with (first
          | (go_at_call 90; refine (HRD.out _).mono ?_; unfold rdVal; rintro e w1 ⟨rfl, hb1⟩)
          | (go_at_call 9; refine (HJN.out _).mono ?_; rintro e w2 ⟨rfl, hb2⟩))
        go_ret
        exact ⟨by rw [R.out]; rfl, hb1.trans (hb2.mono hb1.size)⟩

end Go.Proofs.YtpenpbopehbncaaDoor

namespace Go.Proofs.YtpenpbopehbncaaDoor.K
open Go

/-- To hold more is enough. -/
theorem held_more {P : Program} {md : Region.Mode} {ops : Array Oper} {Q : Exit → Act → World → Prop} {S S' : World → Prop} (h : ∀ w, S' w → S w) :
    ∀ (fuel : Nat) (listed : Array Bool) (a : Act) (w : World), wpAnyH P md ops Q S' fuel listed a w → wpAnyH P md ops Q S fuel listed a w
  | 0, _, _, _, k => k
  | fuel + 1, _, _, _, k => ⟨k.1, fun i hi => wpOp_mono (fun a' w' h' => ⟨h w' h'.1, held_more h fuel _ a' w' h'.2⟩) (k.2 i hi)⟩

end Go.Proofs.YtpenpbopehbncaaDoor.K

namespace Go.Proofs.YtpenpbopehbncaaDoor
open Go.RowKit K
set_option linter.unusedVariables false

/-- A block that is known whole: a cell of it, and that it may be written. -/
theorem blk_cell {w : World} {b : Nat} {cs : Array Value} {t : TypeId} (h : w.heap[b]? = some (.cells cs t (0, 0))) (j : Nat) {u : Value} (hu : cs[j]? = some u) : w.cell? ⟨b, j, none⟩ = some u := by
  rw [cell_of_row w b j _ _ _ h]; exact hu
theorem blk_free {w : World} {b : Nat} {cs : Array Value} {t : TypeId} (h : w.heap[b]? = some (.cells cs t (0, 0))) (j : Nat) : w.frozen? ⟨b, j, none⟩ = false := by
  simp [World.frozen?, h]
theorem blk_lt {w : World} {b : Nat} {x : Obj} (h : w.heap[b]? = some x) : b < w.heap.size := (Array.getElem?_eq_some_iff.1 h).1
theorem blk_set {w : World} {p k : Nat} {cs : Array Value} {e : TypeId} (v : Value) (h : w.heap[p]? = some (.cells cs e (0, 0))) : (w.setCell ⟨p, k, none⟩ v).heap[p]? = some (.cells (cs.setIfInBounds k v) e (0, 0)) := by
  simp only [World.setCell, Array.getElem?_modify, if_true, h]
  rfl
theorem blk_grown (w : World) (p k : Nat) (v : Value) : w.grownBy (w.setCell ⟨p, k, none⟩ v) (some p) :=
  ⟨rfl, rfl, rfl, by simp [World.setCell], fun j hj hne => Below.heap_setCell _ _ _ _ (fun e => hne (by rw [e]))⟩

/-- Cells of a block written one behind the other. -/
def setArr (cs : Array Value) : Nat → List Value → Array Value
  | _, [] => cs
  | o, v :: r => setArr (cs.setIfInBounds o v) (o + 1) r

theorem blk_setAll {p : Nat} {e : TypeId} : ∀ (vs : List Value) (w : World) (cs : Array Value) (o : Nat), w.heap[p]? = some (.cells cs e (0, 0)) →
    (w.setCells p o vs).heap[p]? = some (.cells (setArr cs o vs) e (0, 0)) ∧ w.grownBy (w.setCells p o vs) (some p)
  | [], w, cs, o, h => ⟨h, World.grownBy.refl _ _⟩
  | v :: r, w, cs, o, h => by
    have h1 := blk_setAll r (w.setCell ⟨p, o, none⟩ v) (cs.setIfInBounds o v) (o + 1) (blk_set (k := o) v h)
    exact ⟨h1.1, grown_trans (blk_grown w p o v) h1.2⟩

/-- A row's value, written out. -/
theorem row_form {w : World} {base : Nat} {e : TypeId} {size : Nat} {v : Value} {n : Nat} {xs : List Value} (h : w.ownsRow base e size v n xs) : ∃ oa cap, v = .slice oa n cap := by
  rcases h.2 with ⟨rfl, rfl⟩ | ⟨g, cap, cur, rfl, _⟩
  · exact ⟨_, _, rfl⟩
  · exact ⟨_, _, rfl⟩

/-- What was handed over stands where it was laid: at the first new block. -/
def BoxS (w : World) (cs : Array Value) (t : TypeId) (w' : World) : Prop := Below w.heap.size w w' ∧ w'.heap[w.heap.size]? = some (.cells cs t (0, 0))

theorem BoxS.new (w : World) (cs : Array Value) (t : TypeId) : BoxS w cs t (w.alloc (.cells cs t)) := ⟨(Below.refl _ _).alloc (Nat.le_refl _) _, heap_alloc_new _ _⟩
theorem BoxS.lt {w : World} {cs : Array Value} {t : TypeId} {w' : World} (h : BoxS w cs t w') : w.heap.size < w'.heap.size := blk_lt h.2
theorem BoxS.call {w : World} {cs : Array Value} {t : TypeId} {w' w'' : World} (h : BoxS w cs t w') (hb : Below w'.heap.size w' w'') : BoxS w cs t w'' :=
  ⟨h.1.trans (hb.mono (Nat.le_of_lt h.lt)), (hb.block _ h.lt).trans h.2⟩
theorem BoxS.alloc {w : World} {cs : Array Value} {t : TypeId} {w' : World} (h : BoxS w cs t w') (o : Obj) : BoxS w cs t (w'.alloc o) := h.call ((Below.refl _ _).alloc (Nat.le_refl _) _)
theorem BoxS.drew {w : World} {cs : Array Value} {t : TypeId} {w' : World} (h : BoxS w cs t w') : BoxS w cs t w'.drew := h.call (Below.refl _ _).drew
theorem BoxS.cell {w : World} {cs : Array Value} {t : TypeId} {w' : World} (h : BoxS w cs t w') (j : Nat) {u : Value} (hu : cs[j]? = some u) : w'.cell? ⟨w.heap.size, j, none⟩ = some u := blk_cell h.2 j hu

end Go.Proofs.YtpenpbopehbncaaDoor

namespace Go.Proofs.YtpenpbopehbncaaDoor.K
open Go

/-- A world of which F holds. -/
structure InW (F : World → Prop) where
  w : World
  h : F w

theorem wp_region_in {P : Program} {F : World → Prop} {id : Nat} {Q : Exit → Act → World → Prop} {a : Act} {w : World} {l : List Oper} (hm : P.follows .mixedOrders = true) (hB : Region.lexB .any l.toArray = true) (hF : F w.drew)
    (h : wpQuiet P l.toArray (fun w' => ∃ n : InW F, w' = n.w) (fun a' => ∀ w', (∃ n : InW F, w' = n.w) → Q .normal a' w') l a) : (Code.region id l.toArray true).wp P Q a w :=
  wp_region_quiet (C := fun w' => ∃ n : InW F, w' = n.w) hm hB ⟨⟨_, hF⟩, rfl⟩ (by simpa using h)

end Go.Proofs.YtpenpbopehbncaaDoor.K
