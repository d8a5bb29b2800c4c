/-
  Walks of chapter 7: right journals, records, frames one behind the other, of the program.
  Walks of chapter 7: JournalText of the program (made by wip/tools/gen7t.py).
-/
import Derived.Test.YthbgklmnmoclhaaGreatDoorPack24
import Derived.Test.YthbgklmnmoclhaaGreatDoorPack26
import Derived.Test.YthbgklmnmoclhaaGreatDoorPack20
import Derived.Test.YthbgklmnmoclhaaGreatDoorPack11
import Derived.Test.YthbgklmnmoclhaaGreatDoorShelf
import Derived.Test.YthbgklmnmoclhaaGreatDoorPack13
import Derived.Test.YthbgklmnmoclhaaGreatDoorPack12
namespace Go.Proofs.YthbgklmnmoclhaaGreatDoor
open Go.RowKit P1 P3 P9 K
attribute [local go_sem ↓] Go.wp_at_zero Go.wp_at_succ
set_option linter.unusedVariables false
set_option linter.unusedSimpArgs false

set_option maxHeartbeats 1000000 in
theorem pairRecord_nat (x : UInt8) (T V : Nat) (hT : T ≤ 1000000000) (hV : V ≤ 1000000000) (w : World) :
    Calls Tryz.prog 121 #[.string ⟨#[x]⟩, .int .i64 (T : Int), .int .i64 (V : Int)] w fun e w' => e = .returned (.string ⟨(twoB x T V).toArray⟩) ∧ Below w.heap.size w w' := by
  have h1 := varB_room T
  have h2 := varB_room V
  obtain ⟨A1, f1, f2⟩ := cat3_facts Tryz.prog ⟨#[x]⟩ ⟨(varB T).toArray⟩ ⟨(varB V).toArray⟩ _ (by show 1 + (varB T).length + (varB V).length ≤ 1048576; omega) (cat_hard x T V)
  generalize (⟨(twoB x T V).toArray⟩ : ByteArray) = TX at f2
  have H1 := hide (implVarText_yes T hT)
  have H2 := hide (implVarText_yes V hV)
  generalize (⟨(varB T).toArray⟩ : ByteArray) = VT at H1 f1
  generalize (⟨(varB V).toArray⟩ : ByteArray) = VV at H2 f2
  clear h1 h2
  go_enter Tryz.func121, Tryz.ntmps121
  go_wp2_with fail
  refine (H1.out _).mono ?_
  rintro e w1 ⟨rfl, hb1⟩
  go_wp2_with fail
  refine (H2.out _).mono ?_
  rintro e w2 ⟨rfl, hb2⟩
  go_wp2_with fail
  go_ret
  exact ⟨rfl, hb1.trans (hb2.mono hb1.size)⟩

theorem pairRecord_any (x : UInt8) (t v : Int) (ht : 0 ≤ t ∧ t ≤ 1000000000) (hv : 0 ≤ v ∧ v ≤ 1000000000) (w : World) :
    Calls Tryz.prog 121 #[.string ⟨#[x]⟩, .int .i64 t, .int .i64 v] w fun e w' => e = .returned (.string ⟨(twoB x t.toNat v.toNat).toArray⟩) ∧ Below w.heap.size w w' := by
  obtain ⟨T, rfl⟩ := Int.eq_ofNat_of_zero_le ht.1
  obtain ⟨V, rfl⟩ := Int.eq_ofNat_of_zero_le hv.1
  exact pairRecord_nat x T V (by omega) (by omega) w

set_option maxHeartbeats 1000000 in
theorem beginRecord_any (n t v s u : Int) (x : Value) (hx : x.oneCell' = true) (hs : 0 ≤ s ∧ s ≤ 1000000000) (hu : 0 ≤ u ∧ u ≤ 1000000000) (w : World) :
    Calls Tryz.prog 101 #[jval n t v s u x] w fun e w' => e = .returned (.string ⟨(twoB 66 s.toNat u.toNat).toArray⟩) ∧ Below w.heap.size w w' := by
  have HB0 := hide ((Below.refl w.heap.size w).alloc (Nat.le_refl _) (.cells #[.int .i64 n, .int .i64 t, .int .i64 v, .int .i64 s, .int .i64 u, x] 30))
  have HP := hide (pairRecord_any 66 s u hs hu)
  clear hs hu
  go_enter Tryz.func101, Tryz.ntmps101
  go_wp2_with fail
  refine (HP.out _).mono ?_
  rintro e w1 ⟨rfl, hb1⟩
  go_wp2_with fail
  go_ret
  exact ⟨rfl, HB0.out.trans (hb1.mono (by simp))⟩

set_option maxHeartbeats 1000000 in
theorem voteRecord_any (n t v s u : Int) (x : Value) (hx : x.oneCell' = true) (hs : 0 ≤ t ∧ t ≤ 1000000000) (hu : 0 ≤ v ∧ v ≤ 1000000000) (w : World) :
    Calls Tryz.prog 102 #[jval n t v s u x] w fun e w' => e = .returned (.string ⟨(twoB 72 t.toNat v.toNat).toArray⟩) ∧ Below w.heap.size w w' := by
  have HB0 := hide ((Below.refl w.heap.size w).alloc (Nat.le_refl _) (.cells #[.int .i64 n, .int .i64 t, .int .i64 v, .int .i64 s, .int .i64 u, x] 30))
  have HP := hide (pairRecord_any 72 t v hs hu)
  clear hs hu
  go_enter Tryz.func102, Tryz.ntmps102
  go_wp2_with fail
  refine (HP.out _).mono ?_
  rintro e w1 ⟨rfl, hb1⟩
  go_wp2_with fail
  go_ret
  exact ⟨rfl, HB0.out.trans (hb1.mono (by simp))⟩

/-- The records of entries behind an index. -/
def recsB : Int → List EntV → List (List UInt8)
  | _, [] => []
  | s, e :: r => entB (s + 1) e :: recsB (s + 1) r
def framedB (xs : List (List UInt8)) : List UInt8 := xs.flatMap frameL
theorem framedB_recs : ∀ (es : List EntV) (s : Int), framedB (recsB s es) = framesB s es
  | [], _ => rfl
  | e :: r, s => by
    simp only [recsB, framesB, framedB, List.flatMap_cons]
    rw [← framedB_recs r (s + 1)]
    rfl
theorem recsB_append : ∀ (xs ys : List EntV) (s : Int), recsB s (xs ++ ys) = recsB s xs ++ recsB (s + xs.length) ys
  | [], ys, s => by simp [recsB]
  | e :: r, ys, s => by
    simp only [List.cons_append, recsB, recsB_append r ys (s + 1), List.length_cons]
    congr 3
    push_cast
    omega
theorem recsB_length : ∀ (es : List EntV) (s : Int), (recsB s es).length = es.length
  | [], _ => rfl
  | e :: r, s => by simp [recsB, recsB_length r (s + 1)]
theorem recs_next {es : List EntV} {s : Int} {k j : Nat} {f : EntV} (hf : es[j]? = some f) (hk : k ≤ j) : recsB (s + k) ((es.take (j + 1)).drop k) = recsB (s + k) ((es.take j).drop k) ++ [entB (s + 1 + j) f] := by
  have hlt := (List.getElem?_eq_some_iff.1 hf).1
  rw [take_next hf hk, recsB_append]
  congr 1
  simp only [recsB]
  congr 2
  rw [List.length_drop, List.length_take]
  omega
theorem recsB_mem : ∀ (es : List EntV) (s : Int) (x : List UInt8), x ∈ recsB s es → (∀ e ∈ es, e.ok = true) → 1 ≤ x.length ∧ x.length ≤ 142
  | [], _, x, h, _ => by simp [recsB] at h
  | e :: r, s, x, h, ho => by
    simp only [recsB, List.mem_cons] at h
    rcases h with rfl | h
    · exact entB_length (ho e (by simp))
    · exact recsB_mem r (s + 1) x h (fun e he => ho e (List.mem_cons_of_mem _ he))

theorem implEntryText_in (i : Int) (e : EntV) (ho : e.ok = true) (h1 : 1 ≤ i) (h2 : i ≤ 1000000) (w : World) :
    Calls Tryz.prog 122 #[.int .i64 i, .agg #[.int .i64 e.term, .int .i64 e.kind, .string e.data]] w fun r w' => r = .returned (.tuple #[.string ⟨(entB i e).toArray⟩, .bool true]) ∧ Below w.heap.size w w' := by
  have h := implEntryText_any i e (by have := ok_data ho; omega) w
  rw [etVal_yes (by rw [ho]; simp [indexOk, h1, h2])] at h
  exact h

/-- A row of strings that is handed back. -/
def StrRes (w : World) (xs : List (List UInt8)) (e : Ending) (w' : World) : Prop :=
  ∃ v, e = .returned v ∧ w'.ownsRow w.heap.size 9 1 v xs.length (strs xs) ∧ Below w.heap.size w w'

set_option maxHeartbeats 2000000 in
theorem entryRecords_any (n0 t0 v0 s u : Int) (oa : Option Addr) (n cap : Nat) (es : List EntV) (k : Nat) (w : World) (hat : EntsAt w oa n cap es) (hok : lgOk s u es = true) (hk : k ≤ n) :
    Calls Tryz.prog 103 #[jval n0 t0 v0 s u (.slice oa n cap), .int .i64 (k : Int)] w fun e w' => StrRes w (recsB (s + k) (es.drop k)) e w' := by
  have hn := hat.len
  have hrm := lgOk_rm hok
  rw [hn] at hrm
  obtain ⟨s0, s1, -, -, n1, sn⟩ := hrm
  have HOK := hide hok
  have HN := hide hn
  have HAT := hide hat
  clear hok hn hat
  go_enter Tryz.func103, Tryz.ntmps103
  go_wp2_with fail
  go_loopw [5, 6] (fun v i wr => ∃ (j : Nat), i = .int .i64 (j : Int) ∧ k ≤ j ∧ j ≤ n ∧ wr.ownsRow (w.heap.size + 1) 9 1 v (recsB (s + k) ((es.take j).drop k)).length (strs (recsB (s + k) ((es.take j).drop k))) ∧ JV wr w.heap.size n0 t0 v0 s u (.slice oa n cap) ∧ Below w.heap.size w wr) (fun _ i _ => n - (intOf i).toNat)
  case atStart =>
    have e0 : recsB (s + k) ((es.take k).drop k) = [] := by rw [List.drop_eq_nil_of_le (by rw [List.length_take]; omega)]; rfl
    refine ⟨k, rfl, Nat.le_refl _, hk, ?_, JV.new w n0 t0 v0 s u (.slice oa n cap) 30, (Below.refl w.heap.size w).alloc (Nat.le_refl _) _⟩
    rw [e0]
    exact World.ownsRow_nil _ _ _ _
  case round =>
    obtain ⟨j, rfl, hkj, hj, hown, hjv, hbel⟩ := hrel
    have HOW := hide hown
    have HJV := hide hjv
    have HBL := hide hbel
    have c5 := hjv.c5
    have c3 := hjv.c3
    clear hown hjv hbel
    by_cases hlt : j < n
    · have j0 : (j : Int) < (n : Int) := by omega
      obtain ⟨f, b, q, hf, hidx, hb, d0, d1, d2⟩ := (HAT.out.below HBL.out).get3 Tryz.underlying26 infoIE j hlt
      have hfo := lgOk_ok HOK.out f (List.mem_of_getElem? hf)
      have HET := hide (implEntryText_in (s + 1 + j) f hfo (by omega) (by omega))
      have HNX := hide (recs_next (s := s) hf hkj)
      have hrl : (recsB (s + k) ((es.take j).drop k)).length ≤ 60 := by rw [recsB_length, List.length_drop, List.length_take]; omega
      have hsz := HBL.out.size
      generalize entB (s + 1 + j) f = E at HET HNX
      clear hf hfo
      go_wp2_with fail
      refine wp_region_in (F := (fun w' => Below wr.heap.size wr w')) (by kernel_rfl) (by kernel_rfl) (Below.refl _ _).drew ?_
      have hne : Nonempty (InW (fun w' => Below wr.heap.size wr w')) := ⟨⟨_, Below.refl _ _⟩⟩
      have k0 : ∀ m : InW (fun w' => Below wr.heap.size wr w'), m.w.cell? ⟨w.heap.size, 3, none⟩ = some (.int .i64 s) := fun m => (HJV.out.on m.h).c3
      have k2 : ∀ m : InW (fun w' => Below wr.heap.size wr w'), m.w.cell? ⟨w.heap.size, 5, none⟩ = some (.slice oa n cap) := fun m => (HJV.out.on m.h).c5
      have e0 : ∀ m : InW (fun w' => Below wr.heap.size wr w'), m.w.cell? ⟨b, q, none⟩ = some (.int .i64 f.term) := fun m => (m.h.cell (p := ⟨b, q, none⟩) hb).trans d0
      have e1 : ∀ m : InW (fun w' => Below wr.heap.size wr w'), m.w.cell? ⟨b, q + 1, none⟩ = some (.int .i64 f.kind) := fun m => (m.h.cell (p := ⟨b, q + 1, none⟩) hb).trans d1
      have e2 : ∀ m : InW (fun w' => Below wr.heap.size wr w'), m.w.cell? ⟨b, q + 2, none⟩ = some (.string f.data) := fun m => (m.h.cell (p := ⟨b, q + 2, none⟩) hb).trans d2
      repeat (go_big_quiet_step (first | (go_at_call 122; refine (HET.out _).mono ?_; rintro r w9 ⟨rfl, hb9⟩; exact ⟨rfl, ⟨w9, Below.trans (InW.h _) (hb9.mono (Below.size (InW.h (F := (fun w' => Below wr.heap.size wr w')) ‹_›)))⟩, rfl⟩)))
      refine wpQuiet_nil ?_
      intro _ hw'
      obtain ⟨nq, hw''⟩ := hw'
      subst hw''
      have hbx := nq.h
      generalize nq.w = wx at hbx ⊢
      clear hne k0 k2 e0 e1 e2
      have HJX := hide (HJV.out.on hbx)
      have HOX := hide (own_below HOW.out hbx)
      have HBX := hide (HBL.out.trans (hbx.mono hsz))
      have hsx := HBX.out.size
      clear hb d0 d1 d2 HJV HOW HBL hbx c5 c3
      generalize recsB (s + k) ((es.take j).drop k) = X at HOX HNX hrl
      go_wp2_with (at_builtin; refine wpList_push rfl _ _ 78 rfl Tryz.underlying78 infoStr rfl rfl HOX.out rfl rfl (Below.refl (w.heap.size + 1) wx) (Nat.succ_le_of_lt HJX.out.lt) (by unfold maxLen; omega) (by omega) ?_)
      intro v' w1 hown' hbel' hg'
      have ho2 : w1.ownsRow (w.heap.size + 1) 9 1 v' (X ++ [E]).length (strs (X ++ [E])) := by
        rw [strs_append, List.length_append]; exact hown'
      have HO2 := hide ho2
      have HB2 := hide (HBX.out.trans (hbel'.mono (Nat.le_succ _)))
      have HJ2 := hide (HJX.out.under hbel' (Nat.lt_succ_self _))
      clear ho2 hown' hbel' HOX HBX HJX
      go_wp2_with fail
      go_roundw
      case rel => exact ⟨j + 1, by go_num, by omega, by omega, by rw [HNX.out]; exact HO2.out, HJ2.out, HB2.out⟩
      case measure => simp [intOf]; omega
    · obtain rfl : j = n := by omega
      have j1 : decide ((j : Int) < (j : Int)) = false := by simp
      have RD := hide (show recsB (s + k) (es.drop k) = recsB (s + k) ((es.take j).drop k) by rw [List.take_of_length_le (by rw [HN.out]; exact Nat.le_refl _)])
      go_wp2_with fail
      refine bodyPost_ret (v := u5) (by simp [results, Tryz.results103, go_sem]) rfl ?_
      exact ⟨_, rfl, by rw [RD.out]; exact own_base HOW.out (Nat.le_succ _), HBL.out⟩

/-- A slice of texts. -/
def scell (x : List UInt8) : List Value := [.string ⟨x.toArray⟩]
abbrev StrsAt (w : World) (oa : Option Addr) (n cap : Nat) (xs : List (List UInt8)) : Prop := RowsAt 1 scell w oa n cap xs
theorem scell_length (x : List UInt8) : (scell x).length = 1 := rfl
theorem strs_flat (xs : List (List UInt8)) : strs xs = xs.flatMap scell := by
  induction xs with
  | nil => rfl
  | cons x r ih => rw [List.flatMap_cons, ← ih]; rfl
theorem strsAt_own {w : World} {base : Nat} {e : TypeId} {v : Value} {n : Nat} {xs : List (List UInt8)} (h : w.ownsRow base e 1 v n (strs xs)) : ∃ oa cap, v = .slice oa n cap ∧ StrsAt w oa n cap xs := by
  rw [strs_flat] at h
  exact rowsAt_of_own scell_length (by decide) h
theorem infoStr1 : (Tryz.prog.info? 9).map (·.size) = some 1 := by kernel_rfl
theorem strCells_mk (l : List UInt8) : Lib.strCells ⟨l.toArray⟩ = Lib.byteCells l := rfl
theorem byteCells_append (l k : List UInt8) : Lib.byteCells (l ++ k) = Lib.byteCells l ++ Lib.byteCells k := by simp [Lib.byteCells]
theorem byteCells_length (l : List UInt8) : (Lib.byteCells l).length = l.length := by simp [Lib.byteCells]
theorem framedB_next {xs : List (List UInt8)} {j : Nat} {x : List UInt8} (h : xs[j]? = some x) : framedB (xs.take (j + 1)) = framedB (xs.take j) ++ frameL x := by
  rw [List.take_add_one, h]
  simp [framedB]
theorem framedB_room : ∀ (xs : List (List UInt8)), (∀ x ∈ xs, x.length ≤ 9000) → (framedB xs).length ≤ 9014 * xs.length
  | [], _ => Nat.zero_le _
  | x :: r, h => by
    have h1 := framedB_room r (fun y hy => h y (List.mem_cons_of_mem _ hy))
    have h2 := frameL_room (h x (by simp))
    unfold framedB at h1 ⊢
    simp only [List.flatMap_cons, List.length_append, List.length_cons]
    omega

theorem implFrame_in (l : List UInt8) (h1 : 1 ≤ l.length) (h2 : l.length ≤ 9000) (w : World) (ht : SumTabIs w) :
    Calls Tryz.prog 111 #[.string ⟨l.toArray⟩] w fun e w' => e = .returned (.tuple #[.string ⟨(frameL l).toArray⟩, .bool true]) ∧ Below w.heap.size w w' := by
  have h := implFrame_any ⟨l.toArray⟩ (by rw [size_mk7]; omega) w ht
  rw [bl_mk7, frameVal_yes h1 h2] at h
  exact h

set_option maxHeartbeats 2000000 in
theorem framed_any (oa : Option Addr) (n cap : Nat) (xs : List (List UInt8)) (hn : n ≤ 1000) (hl : ∀ x ∈ xs, 1 ≤ x.length ∧ x.length ≤ 9000) (w : World) (hat : StrsAt w oa n cap xs) (ht : SumTabIs w) :
    Calls Tryz.prog 100 #[.slice oa n cap] w fun e w' => e = .returned (.string ⟨(framedB xs).toArray⟩) ∧ Below w.heap.size w w' := by
  have HN := hide hat.len
  have HAT := hide hat
  have HT := hide ht
  have HL := hide hl
  clear hat ht hl
  go_enter Tryz.func100, Tryz.ntmps100
  go_wp2_with fail
  go_loopw [10] (fun i wr => ∃ (j : Nat), i = .int .i64 (j : Int) ∧ j ≤ n ∧ Lib.IsBuilder 182 5 w.heap.size w.heap.size (Lib.byteCells (framedB (xs.take j))) wr ∧ Below w.heap.size w wr) (fun i _ => n - (intOf i).toNat)
  case atStart => exact ⟨0, rfl, Nat.zero_le _, Lib.fresh_isBuilder _ _ _, (Below.refl w.heap.size w).alloc (Nat.le_refl _) _⟩
  case round =>
    obtain ⟨j, rfl, hj, hib, hbel⟩ := hrel
    have HIB := hide hib
    have HBL := hide hbel
    clear hib hbel
    by_cases hlt : j < n
    · have j0 : (j : Int) < (n : Int) := by omega
      obtain ⟨x, b, q, hx, hidx, hb, hc⟩ := (HAT.out.below HBL.out).get Tryz.underlying78 infoStr1 scell_length (by decide) j hlt
      have c0 := hc 0 _ rfl
      rw [Nat.add_zero] at c0
      have hxl := HL.out x (List.mem_of_getElem? hx)
      have hrm := framedB_room (xs.take j) (fun y hy => (HL.out y (List.mem_of_mem_take hy)).2)
      have hxt : (xs.take j).length ≤ 1000 := by rw [List.length_take]; omega
      have hfl := frameL_room hxl.2
      have HNX := hide (framedB_next hx)
      have HFR := hide (implFrame_in x hxl.1 hxl.2)
      have hsz := HBL.out.size
      clear hc hx hxl
      generalize framedB (xs.take j) = X at HIB hrm HNX
      generalize frameL x = Fr at HFR hfl HNX
      go_wp2_with fail
      refine (HFR.out _ (tab_below HT.out HBL.out)).mono ?_
      rintro e w1 ⟨rfl, hb1⟩
      have HI1 := hide (isBuilder_on HIB.out hb1)
      have HB1 := hide (HBL.out.trans (hb1.mono hsz))
      clear hb1 HIB HBL hb c0
      go_wp2_with fail
      refine (writeString_any w.heap.size w.heap.size _ ⟨Fr.toArray⟩ w1 HI1.out (by rw [byteCells_length, size_mk7]; omega) HB1.out.size).mono ?_
      rintro e w2 ⟨rfl, hi2, hb2⟩
      rw [strCells_mk, ← byteCells_append] at hi2
      have HI2 := hide hi2
      have HB2 := hide (HB1.out.trans hb2)
      clear hi2 hb2 HI1 HB1
      go_wp2_with fail
      go_roundw
      case rel => exact ⟨j + 1, by go_num, by omega, by rw [HNX.out]; exact HI2.out, HB2.out⟩
      case measure => simp [intOf]; omega
    · obtain rfl : j = n := by omega
      have j1 : decide ((j : Int) < (j : Int)) = false := by simp
      have RD := hide (show framedB xs = framedB (xs.take j) by rw [List.take_of_length_le (by rw [HN.out]; exact Nat.le_refl _)])
      go_wp2_with fail
      refine (Tryz.Builder_String_any w.heap.size w.heap.size _ wr HIB.out HBL.out.size).mono ?_
      rintro e w1 ⟨rfl, hb1⟩
      go_wp2_with fail
      go_ret
      exact ⟨by rw [RD.out]; rfl, HBL.out.trans hb1⟩

end Go.Proofs.YthbgklmnmoclhaaGreatDoor

namespace Go.Proofs.YthbgklmnmoclhaaGreatDoor
open Go.RowKit P1 P3 P9 K
attribute [local go_sem ↓] Go.wp_at_zero Go.wp_at_succ
set_option linter.unusedVariables false
set_option linter.unusedSimpArgs false

/-- Two texts in a new row. -/
theorem strsAt_two (w : World) (x y : List UInt8) : StrsAt (w.alloc (.cells #[.string ⟨x.toArray⟩, .string ⟨y.toArray⟩] 9)) (some ⟨w.heap.size, 0, none⟩) 2 2 [x, y] := by
  have h := World.ownsRow_lit (base := w.heap.size) (size := 1) (e := 9) w #[.string ⟨x.toArray⟩, .string ⟨y.toArray⟩] 2 (Nat.le_refl _) (by decide) rfl
  have h2 : (w.alloc (.cells #[.string ⟨x.toArray⟩, .string ⟨y.toArray⟩] 9)).ownsRow w.heap.size 9 1 (.slice (some ⟨w.heap.size, 0, none⟩) 2 2) 2 (strs [x, y]) := h
  obtain ⟨oa, cap, he, hat⟩ := strsAt_own h2
  cases he
  exact hat

theorem framed_two (j : JnV) : framedB [twoB 66 j.s.toNat j.u.toNat, twoB 72 j.term.toNat j.vote.toNat] = headB j.s j.u ++ hardB j.term j.vote := by
  simp [framedB, headB, hardB]

set_option maxHeartbeats 4000000 in
theorem implJournalText_any (j : JnV) (oa : Option Addr) (n cap : Nat) (w : World) (hat : EntsAt w oa n cap j.es) (hw : ∀ f ∈ j.es, f.data.size ≤ 1048576) (htb : SumTabIs w) :
    Calls Tryz.prog 80 #[jval j.number j.term j.vote j.s j.u (.slice oa n cap)] w fun e w' => e = .returned (jtVal j) ∧ Below w.heap.size w w' := by
  have hx0 := BoxS.new w #[.int .i64 j.number, .int .i64 j.term, .int .i64 j.vote, .int .i64 j.s, .int .i64 j.u, .slice oa n cap] 30
  have HJO := hide (implJournalOk_any j oa n cap _ (hat.below hx0.1) hw)
  have HB0 := hide hx0
  have HAT := hide hat
  have HTB := hide htb
  clear hat hw hx0 htb
  cases hok : j.ok with
  | false =>
    have R := hide (show jtVal j = .tuple #[.string ⟨#[]⟩, .bool false] by unfold jtVal; rw [hok]; rfl)
    rw [hok] at HJO
    clear hok
    go_enter Tryz.func80, Tryz.ntmps80
    go_wp2_with fail
    refine HJO.out.mono ?_
    rintro r w1 ⟨rfl, hb1⟩
    go_wp2_with fail
    go_ret2
    exact ⟨by rw [R.out]; rfl, (HB0.out.call hb1).1⟩
  | true =>
    obtain ⟨-, hH, hL⟩ := JnV.parts hok
    obtain ⟨s0, s1, u0, u1, n1, sn⟩ := lgOk_rm hL
    have hlen := HAT.out.len
    have R := hide (show jtVal j = .tuple #[.string ⟨j.text.toArray⟩, .bool true] by unfold jtVal; rw [hok]; rfl)
    have htl := text_room hL
    have htw := twoB_length 66 j.s.toNat j.u.toNat
    have htv := twoB_length 72 j.term.toNat j.vote.toNat
    have H1 := hide (beginRecord_any j.number j.term j.vote j.s j.u (.slice oa n cap) rfl ⟨s0, by omega⟩ ⟨u0, by omega⟩)
    have H3 := hide (voteRecord_any j.number j.term j.vote j.s j.u (.slice oa n cap) rfl ⟨hH.1, by omega⟩ ⟨hH.2.2.1, by omega⟩)
    have H5 := hide (fun (g : Nat) wx hat => framed_any (some ⟨g, 0, none⟩) 2 2 [twoB 66 j.s.toNat j.u.toNat, twoB 72 j.term.toNat j.vote.toNat] (by decide) (fun x hx => by
      rcases List.mem_cons.1 hx with rfl | hx
      · omega
      · rcases List.mem_cons.1 hx with rfl | hx
        · omega
        · simp at hx) wx hat)
    rw [framed_two] at H5
    have H7 := hide (fun wx hat => entryRecords_any j.number j.term j.vote j.s j.u oa n cap j.es 0 wx hat hL (Nat.zero_le _))
    rw [List.drop_zero, show j.s + ((0 : Nat) : Int) = j.s by omega] at H7
    have hrl := recsB_length j.es j.s
    have H8 := hide (fun (oa' : Option Addr) (cap' : Nat) wx hat => framed_any oa' (recsB j.s j.es).length cap' (recsB j.s j.es) (by omega) (fun x hx => by have := recsB_mem j.es j.s x hx (lgOk_ok hL); omega) wx hat)
    rw [framedB_recs] at H8
    have hl2 : (headB j.s j.u ++ hardB j.term j.vote).length ≤ 100 := by
      have h3 := frameL_room htw.2
      have h4 := frameL_room htv.2
      simp only [headB, hardB, List.length_append]
      omega
    have hl3 : (framesB j.s j.es).length ≤ 9360 := by have := framesB_length j.es j.s (lgOk_ok hL); omega
    have f9 : ∀ wx, (Op.stringOp .add ⟨(headB j.s j.u ++ hardB j.term j.vote).toArray⟩ ⟨(framesB j.s j.es).toArray⟩).run Tryz.prog wx = .ok (.string ⟨j.text.toArray⟩) wx := fun wx => by
      have := run_string_add_sum (P := Tryz.prog) (w := wx) ⟨(headB j.s j.u ++ hardB j.term j.vote).toArray⟩ ⟨(framesB j.s j.es).toArray⟩ (by rw [size_mk7, size_mk7]; omega)
      rw [cat_two7] at this
      exact this
    have htl : (⟨j.text.toArray⟩ : ByteArray).size ≤ 20000 := by rw [size_mk7]; omega
    generalize (⟨j.text.toArray⟩ : ByteArray) = TX at R htl f9
    generalize (⟨(headB j.s j.u ++ hardB j.term j.vote).toArray⟩ : ByteArray) = HH at H5 f9
    generalize (⟨(framesB j.s j.es).toArray⟩ : ByteArray) = FS at H8 f9
    generalize recsB j.s j.es = RS at H7 H8 hrl
    generalize twoB 66 j.s.toNat j.u.toNat = TB at H1 H5 htw
    generalize twoB 72 j.term.toNat j.vote.toNat = TH at H3 H5 htv
    rw [hok] at HJO
    clear hok hL hH hl2 hl3
    generalize j.number = jN at HJO HB0 H1 H3 H7 ⊢
    generalize j.term = jT at HJO HB0 H1 H3 H7 ⊢
    generalize j.vote = jV at HJO HB0 H1 H3 H7 ⊢
    generalize j.s = jS at HJO HB0 H1 H3 H7 ⊢
    generalize j.u = jU at HJO HB0 H1 H3 H7 ⊢
    clear s0 s1 u0 u1 sn n1 htw htv hrl hlen
    go_enter Tryz.func80, Tryz.ntmps80
    go_wp2_with fail
    refine HJO.out.mono ?_
    rintro r w1 ⟨rfl, hb1⟩
    have hHeld := HB0.out.call hb1
    clear hb1 HJO HB0
    have z0 := hHeld.cell 0 rfl
    have HHE := hide hHeld
    clear hHeld z0
    go_wp2_with fail
    refine wp_region_held_drew (S := BoxS w #[.int .i64 jN, .int .i64 jT, .int .i64 jV, .int .i64 jS, .int .i64 jU, .slice oa n cap] 30) (by kernel_rfl) HHE.out.drew (fun hHeld => ?_)
    refine wpAnyH_take (i := 0) (v := ?_) rfl (by kernel_rfl) (by kernel_rfl) (by kernel_rfl) (fun _ _ _ h => h) (Or.inl ⟨by rfl, ?_⟩) (by assumption) ?_; rotate_left
    · (intro wz hSw; have z0 := BoxS.cell hSw 0 rfl; have z1 := BoxS.cell hSw 1 rfl; have z2 := BoxS.cell hSw 2 rfl; have z3 := BoxS.cell hSw 3 rfl; have z4 := BoxS.cell hSw 4 rfl; have z5 := BoxS.cell hSw 5 rfl; clear hSw; go_simp; first | done | with_reducible rfl)
    try simp only [Act.put, List.getElem_toArray, List.getElem_cons_zero, List.getElem_cons_succ, List.setIfInBounds_toArray, List.set_cons_zero, List.set_cons_succ]
    refine wpAnyH_take (i := 2) (v := ?_) rfl (by kernel_rfl) (by kernel_rfl) (by kernel_rfl) (fun _ _ _ h => h) (Or.inl ⟨by rfl, ?_⟩) (by assumption) ?_; rotate_left
    · (intro wz hSw; have z0 := BoxS.cell hSw 0 rfl; have z1 := BoxS.cell hSw 1 rfl; have z2 := BoxS.cell hSw 2 rfl; have z3 := BoxS.cell hSw 3 rfl; have z4 := BoxS.cell hSw 4 rfl; have z5 := BoxS.cell hSw 5 rfl; clear hSw; go_simp; first | done | with_reducible rfl)
    try simp only [Act.put, List.getElem_toArray, List.getElem_cons_zero, List.getElem_cons_succ, List.setIfInBounds_toArray, List.set_cons_zero, List.set_cons_succ]
    refine wpAnyH_take (i := 6) (v := ?_) rfl (by kernel_rfl) (by kernel_rfl) (by kernel_rfl) (fun _ _ _ h => h) (Or.inl ⟨by rfl, ?_⟩) (by assumption) ?_; rotate_left
    · (intro wz hSw; have z0 := BoxS.cell hSw 0 rfl; have z1 := BoxS.cell hSw 1 rfl; have z2 := BoxS.cell hSw 2 rfl; have z3 := BoxS.cell hSw 3 rfl; have z4 := BoxS.cell hSw 4 rfl; have z5 := BoxS.cell hSw 5 rfl; clear hSw; go_simp; first | done | with_reducible rfl)
    try simp only [Act.put, List.getElem_toArray, List.getElem_cons_zero, List.getElem_cons_succ, List.setIfInBounds_toArray, List.set_cons_zero, List.set_cons_succ]
    refine wpAnyH_ready (rs := [1]) (by kernel_rfl) (by simp) ?_
    refine AllReadyH.cons rfl (fun K hK => ?_) ?_
    · rw [if_pos (by rfl)]
      go_simp
      go_at_call 101
      refine (H1.out _).mono ?_
      rintro r x1 ⟨rfl, hb1⟩
      try go_simp
      refine hK.out _ _ ?_ (fun hHeld => ?_)
      · exact BoxS.call hHeld hb1
      clear hK K
      try simp only [Act.put, List.getElem_toArray, List.getElem_cons_zero, List.getElem_cons_succ, List.setIfInBounds_toArray, List.set_cons_zero, List.set_cons_succ]
      clear hb1
      refine wpAnyH_ready (rs := [3]) (by kernel_rfl) (by simp) ?_
      refine AllReadyH.cons rfl (fun K hK => ?_) ?_
      · rw [if_pos (by rfl)]
        go_simp
        go_at_call 102
        refine (H3.out _).mono ?_
        rintro r x3 ⟨rfl, hb3⟩
        try go_simp
        refine hK.out _ _ ?_ (fun hHeld => ?_)
        · exact BoxS.call hHeld hb3
        clear hK K
        try simp only [Act.put, List.getElem_toArray, List.getElem_cons_zero, List.getElem_cons_succ, List.setIfInBounds_toArray, List.set_cons_zero, List.set_cons_succ]
        clear hb3
        refine wpAnyH_ready (rs := [4]) (by kernel_rfl) (by simp) ?_
        refine AllReadyH.cons rfl (fun K hK => ?_) ?_
        · have HAT4 := hide (strsAt_two x3 TB TH)
          rw [if_pos (by rfl)]
          go_simp
          refine hK.out _ _ ?_ (fun hHeld => ?_)
          · exact BoxS.alloc hHeld _
          clear hK K
          try simp only [Act.put, List.getElem_toArray, List.getElem_cons_zero, List.getElem_cons_succ, List.setIfInBounds_toArray, List.set_cons_zero, List.set_cons_succ]
          generalize x3.heap.size = g4 at HAT4 ⊢
          generalize x3.alloc (Obj.cells #[Value.string ⟨TB.toArray⟩, Value.string ⟨TH.toArray⟩] 9) = x4 at HAT4 hHeld ⊢
          refine wpAnyH_ready (rs := [5]) (by kernel_rfl) (by simp) ?_
          refine AllReadyH.cons rfl (fun K hK => ?_) ?_
          · rw [if_pos (by rfl)]
            go_simp
            go_at_call 100
            refine (H5.out _ _ HAT4.out (tab_below HTB.out hHeld.1)).mono ?_
            rintro r x5 ⟨rfl, hb5⟩
            try go_simp
            refine hK.out _ _ ?_ (fun hHeld => ?_)
            · exact BoxS.call hHeld hb5
            clear hK K
            try simp only [Act.put, List.getElem_toArray, List.getElem_cons_zero, List.getElem_cons_succ, List.setIfInBounds_toArray, List.set_cons_zero, List.set_cons_succ]
            clear hb5
            refine wpAnyH_ready (rs := [7]) (by kernel_rfl) (by simp) ?_
            refine AllReadyH.cons rfl (fun K hK => ?_) ?_
            · rw [if_pos (by rfl)]
              go_simp
              go_at_call 103
              refine (H7.out _ (HAT.out.below hHeld.1)).mono ?_
              rintro r x7 ⟨v7, rfl, ho7, hb7⟩
              obtain ⟨oa7, cap7, rfl, hat7⟩ := strsAt_own ho7
              have HAT7 := hide hat7
              clear ho7 hat7
              try go_simp
              refine hK.out _ _ ?_ (fun hHeld => ?_)
              · exact BoxS.call hHeld hb7
              clear hK K
              try simp only [Act.put, List.getElem_toArray, List.getElem_cons_zero, List.getElem_cons_succ, List.setIfInBounds_toArray, List.set_cons_zero, List.set_cons_succ]
              clear hb7
              refine wpAnyH_ready (rs := [8]) (by kernel_rfl) (by simp) ?_
              refine AllReadyH.cons rfl (fun K hK => ?_) ?_
              · rw [if_pos (by rfl)]
                go_simp
                go_at_call 100
                refine (H8.out _ _ _ HAT7.out (tab_below HTB.out hHeld.1)).mono ?_
                rintro r x8 ⟨rfl, hb8⟩
                try go_simp
                refine hK.out _ _ ?_ (fun hHeld => ?_)
                · exact BoxS.call hHeld hb8
                clear hK K
                try simp only [Act.put, List.getElem_toArray, List.getElem_cons_zero, List.getElem_cons_succ, List.setIfInBounds_toArray, List.set_cons_zero, List.set_cons_succ]
                clear hb8
                refine wpAnyH_take (i := 9) (v := ?_) rfl (by kernel_rfl) (by kernel_rfl) (by kernel_rfl) (fun _ _ _ h => h) (Or.inl ⟨by rfl, ?_⟩) (by assumption) ?_; rotate_left
                · (intro wz hSw; have z0 := BoxS.cell hSw 0 rfl; have z1 := BoxS.cell hSw 1 rfl; have z2 := BoxS.cell hSw 2 rfl; have z3 := BoxS.cell hSw 3 rfl; have z4 := BoxS.cell hSw 4 rfl; have z5 := BoxS.cell hSw 5 rfl; clear hSw; go_simp; first | done | with_reducible rfl)
                try simp only [Act.put, List.getElem_toArray, List.getElem_cons_zero, List.getElem_cons_succ, List.setIfInBounds_toArray, List.set_cons_zero, List.set_cons_succ]
                refine wpAnyH_take (i := 10) (v := ?_) rfl (by kernel_rfl) (by kernel_rfl) (by kernel_rfl) (fun _ _ _ h => h) (Or.inl ⟨by rfl, ?_⟩) (by assumption) ?_; rotate_left
                · (intro wz hSw; have z0 := BoxS.cell hSw 0 rfl; have z1 := BoxS.cell hSw 1 rfl; have z2 := BoxS.cell hSw 2 rfl; have z3 := BoxS.cell hSw 3 rfl; have z4 := BoxS.cell hSw 4 rfl; have z5 := BoxS.cell hSw 5 rfl; clear hSw; go_simp; first | done | with_reducible rfl)
                try simp only [Act.put, List.getElem_toArray, List.getElem_cons_zero, List.getElem_cons_succ, List.setIfInBounds_toArray, List.set_cons_zero, List.set_cons_succ]
                refine wpAnyH_done (by kernel_rfl) ?_ _
                have BZ := hide hHeld.1
                clear hHeld
                go_wp2_with fail
                go_ret2
                exact ⟨by rw [R.out]; rfl, BZ.out⟩
              exact AllReadyH.nil
            exact AllReadyH.nil
          exact AllReadyH.nil
        exact AllReadyH.nil
      exact AllReadyH.nil
    exact AllReadyH.nil

end Go.Proofs.YthbgklmnmoclhaaGreatDoor
