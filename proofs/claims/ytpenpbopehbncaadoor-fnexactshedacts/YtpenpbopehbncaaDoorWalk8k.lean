/-
  Walks of chapter 8: the acts that drop NameSnapNew, and those that drop the other snapshots, of the specification and of the program.
-/
import Derived.Test.YtpenpbopehbncaaDoorPack37
import Derived.Test.YtpenpbopehbncaaDoorWalk8h
import Derived.Test.YtpenpbopehbncaaDoorPack38
namespace Go.Proofs.YtpenpbopehbncaaDoor
open Go.RowKit P1 P3 P5 P9 P11 K
attribute [local go_sem ↓] Go.wp_at_zero Go.wp_at_succ
set_option linter.unusedVariables false
set_option linter.unusedSimpArgs false

/-- A row of acts that is handed back. -/
def ActR (w : World) (xs : List ActV) (e : Ending) (w' : World) : Prop :=
  ∃ v, e = .returned v ∧ w'.ownsRow w.heap.size 79 4 v xs.length (xs.flatMap akc) ∧ Below w.heap.size w w'

theorem acts_one (xs : List ActV) : ∀ u ∈ xs.flatMap akc, u.oneCell' = true := by
  intro u hu
  obtain ⟨a, -, ha⟩ := List.mem_flatMap.1 hu
  exact akc_one a u ha

theorem newDrop_yes {fs : List FileV} (h : (fileAt fs nmSnap).isSome = true) : newDropS fs = [dropSA nmSnap] := by unfold newDropS; rw [if_pos h]
theorem newDrop_no {fs : List FileV} (h : (fileAt fs nmSnap).isSome = false) : newDropS fs = [] := by unfold newDropS; rw [h]; rfl

theorem own_dropNew (w : World) : (w.alloc (.cells #[.int .i64 4, .string ⟨#[115, 43]⟩, .string ⟨#[]⟩, .string ⟨#[]⟩] 79)).ownsRow w.heap.size 79 4 (.slice (some ⟨w.heap.size, 0, none⟩) 1 1) 1 ([dropSA nmSnap].flatMap akc) :=
  World.ownsRow_lit (base := w.heap.size) (size := 4) w #[.int .i64 4, .string ⟨#[115, 43]⟩, .string ⟨#[]⟩, .string ⟨#[]⟩] 1 (Nat.le_refl _) (by decide) rfl

set_option maxHeartbeats 2000000 in
theorem l08New_any (oa : Option Addr) (n cap : Nat) (fs : List FileV) (w : World) (hat : FilesAt w oa n cap fs) :
    Calls Tryd.prog 58 #[.agg #[.slice oa n cap]] w fun e w' => ActR w (newDropS fs) e w' := by
  have hb0 := (Below.refl w.heap.size w).alloc (Nat.le_refl _) (.cells #[.slice oa n cap] 47)
  have HAT0 := hide (l03At_any oa n cap fs nmSnap _ (hat.below hb0))
  have HB0 := hide hb0
  clear hat hb0
  rcases atFrom_spec nmSnap fs 0 with ⟨e1, e2⟩ | ⟨i, f, e1, e2, e3, e4⟩
  · have HN := hide (newDrop_no (fs := fs) (by rw [e2]; rfl))
    rw [e1] at HAT0
    clear e1 e2
    go_enter Tryd.func58, Tryd.ntmps58
    go_wp2_with fail
    refine HAT0.out.mono ?_
    rintro e w1 ⟨rfl, hb1⟩
    have HB1 := hide (HB0.out.trans (hb1.mono (by simp)))
    clear hb1
    go_wp2_with fail
    refine bodyPost_ret (v := .slice (some ⟨w1.heap.size, 0, none⟩) 0 0) (by simp [results, Tryd.results58, go_sem]) rfl ?_
    refine ⟨_, rfl, ?_, HB1.out.alloc HB1.out.size _⟩
    rw [HN.out]
    exact own_base (World.ownsRow_made (w := w1) (e := 79) (base := w1.heap.size) (size := 4) #[] 0 (Nat.le_refl _) (by decide) rfl) HB1.out.size
  · have HN := hide (newDrop_yes (fs := fs) (by rw [e3]; rfl))
    rw [e1] at HAT0
    clear e1 e2 e3 e4
    have g0 : (0 : Int) ≤ ((0 + i : Nat) : Int) := by omega
    generalize ((0 + i : Nat) : Int) = y at HAT0 g0
    go_enter Tryd.func58, Tryd.ntmps58
    go_wp2_with fail
    refine HAT0.out.mono ?_
    rintro e w1 ⟨rfl, hb1⟩
    have HB1 := hide (HB0.out.trans (hb1.mono (by simp)))
    clear hb1
    go_wp2_with fail
    refine bodyPost_ret (v := .slice (some ⟨w1.heap.size, 0, none⟩) 1 1) (by simp [results, Tryd.results58, go_sem]) rfl ?_
    refine ⟨_, rfl, ?_, HB1.out.alloc HB1.out.size _⟩
    rw [HN.out]
    exact own_base (own_dropNew w1) HB1.out.size

set_option maxHeartbeats 2000000 in
theorem dropSnapNew_any (oa : Option Addr) (n cap : Nat) (fs : List FileV) (w : World) (hat : FilesAt w oa n cap fs) (hw : ∀ f ∈ fs, Fine f) :
    Calls Tryd.prog 62 #[.agg #[.slice oa n cap]] w fun e w' => ActR w (newDropS fs) e w' := by
  have hb0 := (Below.refl w.heap.size w).alloc (Nat.le_refl _) (.cells #[.slice oa n cap] 47)
  have HAT0 := hide (implFileAt_any oa n cap fs nmSnap _ (hat.below hb0) hw)
  have HB0 := hide hb0
  clear hat hb0 hw
  cases hh : hasAt fs nmSnap with
  | false =>
    have HN := hide (newDrop_no (fs := fs) hh)
    rw [hh] at HAT0
    clear hh
    generalize (⟨(textAt fs nmSnap).toArray⟩ : ByteArray) = T at HAT0
    go_enter Tryd.func62, Tryd.ntmps62
    go_wp2_with fail
    refine HAT0.out.mono ?_
    rintro e w1 ⟨rfl, hb1⟩
    have HB1 := hide (HB0.out.trans (hb1.mono (by simp)))
    clear hb1
    go_wp2_with fail
    refine bodyPost_ret (v := .slice (some ⟨w1.heap.size, 0, none⟩) 0 0) (by simp [results, Tryd.results62, go_sem]) rfl ?_
    refine ⟨_, rfl, ?_, HB1.out.alloc HB1.out.size _⟩
    rw [HN.out]
    exact own_base (World.ownsRow_made (w := w1) (e := 79) (base := w1.heap.size) (size := 4) #[] 0 (Nat.le_refl _) (by decide) rfl) HB1.out.size
  | true =>
    have HN := hide (newDrop_yes (fs := fs) hh)
    rw [hh] at HAT0
    clear hh
    generalize (⟨(textAt fs nmSnap).toArray⟩ : ByteArray) = T at HAT0
    go_enter Tryd.func62, Tryd.ntmps62
    go_wp2_with fail
    refine HAT0.out.mono ?_
    rintro e w1 ⟨rfl, hb1⟩
    have HB1 := hide (HB0.out.trans (hb1.mono (by simp)))
    clear hb1
    go_wp2_with fail
    refine bodyPost_ret (v := .slice (some ⟨w1.heap.size, 0, none⟩) 1 1) (by simp [results, Tryd.results62, go_sem]) rfl ?_
    refine ⟨_, rfl, ?_, HB1.out.alloc HB1.out.size _⟩
    rw [HN.out]
    exact own_base (own_dropNew w1) HB1.out.size

theorem othersS_next {fs : List FileV} {k : Nat} {f : FileV} (b : Int) (h : fs[k]? = some f) : othersS b (fs.take (k + 1)) = othersS b (fs.take k) ++ (if isOtherS b f = true then [dropSA f.name] else []) := by
  unfold othersS
  rw [List.take_add_one, h, List.filter_append, List.map_append]
  congr 1
  simp only [Option.toList_some, List.filter_cons, List.filter_nil]
  split <;> rfl
theorem othersS_room (b : Int) (fs : List FileV) : (othersS b fs).length ≤ fs.length := by
  unfold othersS
  rw [List.length_map]
  exact List.length_filter_le _ _
theorem os_own {w : World} {base : Nat} {v : Value} {X Y : List ActV} {l : List UInt8} (h : Y = X ++ [dropSA l]) (ho : w.ownsRow base 79 4 v (X.length + 1) (X.flatMap akc ++ [.int .i64 4, .string ⟨l.toArray⟩, .string ⟨#[]⟩, .string ⟨#[]⟩])) : w.ownsRow base 79 4 v Y.length (Y.flatMap akc) := by
  subst h
  rw [List.length_append, List.flatMap_append]
  exact ho

set_option maxHeartbeats 4000000 in
theorem l08Drops_any (oa : Option Addr) (n cap : Nat) (fs : List FileV) (b : Int) (hb : 0 ≤ b ∧ b ≤ 1000000) (w : World) (hat : FilesAt w oa n cap fs) (hn : n ≤ 1000) (hw : ∀ f ∈ fs, f.name.length ≤ 1048576) :
    Calls Tryd.prog 59 #[.agg #[.slice oa n cap], .int .i64 b] w fun e w' => ActR w (othersS b fs) e w' := by
  have HN := hide hat.len
  have HAT := hide hat
  have HW := hide hw
  clear hat hw
  go_enter Tryd.func59, Tryd.ntmps59
  go_wp2_with fail
  go_loopw [5, 6] (fun v i wr => ∃ (k : Nat), i = .int .i64 (k : Int) ∧ k ≤ n ∧ wr.ownsRow (w.heap.size + 1) 79 4 v (othersS b (fs.take k)).length ((othersS b (fs.take k)).flatMap akc) ∧ Below (w.heap.size + 1) (w.alloc (.cells #[.slice oa n cap] 47)) wr) (fun _ i _ => n - (intOf i).toNat)
  case atStart =>
    refine ⟨0, rfl, Nat.zero_le _, ?_, ?_⟩
    · have := World.ownsRow_made (w := w.alloc (.cells #[.slice oa n cap] 47)) (e := 79) (base := w.heap.size + 1) (size := 4) #[] 0 (by simp) (by decide) rfl
      simpa [othersS] using this
    · exact (Below.refl _ _).alloc (by simp) _
  case round =>
    obtain ⟨k, rfl, hk, hown, hbel0⟩ := hrel
    have hbel := ((Below.refl w.heap.size w).alloc (Nat.le_refl _) (.cells #[.slice oa n cap] 47)).trans (hbel0.mono (by omega))
    have hdv : DV8 wr w.heap.size (.slice oa n cap) := (show DV8 (w.alloc (.cells #[.slice oa n cap] 47)) w.heap.size (.slice oa n cap) from heap_alloc_new _ _).on hbel0 (by omega)
    have HBZ := hide hbel0
    have hz0 : w.heap.size + 1 ≤ wr.heap.size := by have := hbel0.size; simpa using this
    clear hbel0
    have HOW := hide hown
    have HBL := hide hbel
    have HDV := hide hdv
    have d0 := hdv.cell
    clear hown hdv
    by_cases hlt : k < n
    · have k0 : (k : Int) < (n : Int) := by omega
      obtain ⟨f, bk, q, hf, hidx, hbk, c0, c1, c2⟩ := (HAT.out.below hbel).get Tryd.underlying45 infoIF8 k hlt
      have HNX := hide (othersS_next b hf)
      have hr2 := snNumber_range f.name
      have hnl := HW.out f (List.mem_of_getElem? hf)
      have hdl : (othersS b (fs.take k)).length ≤ 1000 := by have := othersS_room b (fs.take k); rw [List.length_take] at this; omega
      clear hf hbel
      generalize othersS b (fs.take k) = X at HNX HOW hdl
      have hid : isOtherS b f = (decide (0 ≤ snNumber f.name) && decide (snNumber f.name ≠ b)) := rfl
      rw [hid] at HNX
      clear hid
      have HIX := hide (fun w => l08Index_any f.name hnl w)
      generalize snNumber f.name = y at HNX hr2 HIX
      go_wp2_with fail
      refine (HIX.out _).mono ?_
      rintro e w1 ⟨rfl, hb1⟩
      have HB2 := hide (HBZ.out.trans (hb1.mono hz0))
      have hsz2 : w.heap.size + 1 ≤ w1.heap.size := Nat.le_trans hz0 hb1.size
      have HO2 := hide (own_below HOW.out hb1)
      have HD2 := hide (HDV.out.on hb1 HDV.out.lt)
      have c01 := (hb1.cell (p := ⟨bk, q, none⟩) hbk).trans c0
      clear hb1 HBL HBZ HOW HDV c0 c1 c2 HIX d0
      have d0 := HD2.out.cell
      obtain ⟨ov, cv, hv⟩ := own_slice HO2.out
      subst hv
      by_cases hy : 0 ≤ y ∧ y ≠ b
      · rw [decide_eq_true hy.1, decide_eq_true hy.2, Bool.true_and, if_pos rfl] at HNX
        have y1 : decide (0 ≤ y) = true := by simpa using hy.1
        have y2 : (y == b) = false := by simpa using hy.2
        clear hy
        go_wp2_with (at_builtin; refine wpList_pushK (cs := #[.int .i64 4, .string ⟨f.name.toArray⟩, .string ⟨#[]⟩, .string ⟨#[]⟩]) rfl _ _ 42 rfl (by decide) Tryd.underlying42 infoKAz rfl rfl HO2.out rfl rfl (akc_one (dropSA f.name)) HB2.out hsz2 (by unfold maxLen; omega) (by omega) ?_)
        intro v' w3 ho3 hb3 hz3
        have HO4 := hide ho3
        have HB4 := hide hb3
        clear ho3 hb3
        go_wp2_with fail
        go_roundw
        case rel => exact ⟨k + 1, by go_num, by omega, os_own HNX.out HO4.out, HB4.out⟩
        case measure => simp [intOf]; omega
      · have hnx : othersS b (fs.take (k + 1)) = X := by
          rw [HNX.out, if_neg, List.append_nil]
          simpa using hy
        have HNY := hide hnx
        clear hnx
        by_cases hy0 : 0 ≤ y
        · have hyb : y = b := Classical.byContradiction fun e => hy ⟨hy0, e⟩
          have y1 : decide (0 ≤ y) = true := by simpa using hy0
          have y2 : (y == b) = true := by simpa using hyb
          clear hy hy0 hyb
          go_wp2_with fail
          go_roundw
          case rel => exact ⟨k + 1, by go_num, by omega, by rw [HNY.out]; exact HO2.out, HB2.out⟩
          case measure => simp [intOf]; omega
        · have y1 : decide (0 ≤ y) = false := by simpa using hy0
          clear hy hy0
          go_wp2_with fail
          go_roundw
          case rel => exact ⟨k + 1, by go_num, by omega, by rw [HNY.out]; exact HO2.out, HB2.out⟩
          case measure => simp [intOf]; omega
    · obtain rfl : k = n := by omega
      have k1 : decide ((k : Int) < (k : Int)) = false := by simp
      have RD := hide (show othersS b fs = othersS b (fs.take k) by rw [List.take_of_length_le (by rw [HN.out]; exact Nat.le_refl _)])
      go_wp2_with fail
      refine bodyPost_ret (v := u5) (by simp [results, Tryd.results59, go_sem]) rfl ?_
      exact ⟨_, rfl, by rw [RD.out]; exact own_base HOW.out (by omega), HBL.out⟩

theorem stays_iff {l : List UInt8} {b : Int} (hb : 0 ≤ b ∧ b ≤ 1000000) (h : 0 ≤ snNumber l) : l = snName b ↔ snNumber l = b := by
  constructor
  · intro e; rw [e]; exact snName_number hb
  · intro e; rw [← e]; exact (snNumber_name h).symm

set_option maxHeartbeats 4000000 in
theorem dropSnaps_any (oa : Option Addr) (n cap : Nat) (fs : List FileV) (b : Int) (hb : 0 ≤ b ∧ b ≤ 1000000) (w : World) (hat : FilesAt w oa n cap fs) (hn : n ≤ 1000) (hw : ∀ f ∈ fs, f.name.length ≤ 1048576) (ht : Pow8 w) :
    Calls Tryd.prog 64 #[.agg #[.slice oa n cap], .string ⟨(snName b).toArray⟩] w fun e w' => ActR w (othersS b fs) e w' := by
  have HN := hide hat.len
  have HAT := hide hat
  have HW := hide hw
  have HT := hide ht
  clear hat hw ht
  obtain ⟨ST, hST⟩ : ∃ ST, snName b = ST := ⟨_, rfl⟩
  have HSI := hide (fun (l : List UInt8) (h : 0 ≤ snNumber l) => stays_iff (l := l) hb h)
  rw [hST] at HSI
  rw [hST]
  clear hST
  go_enter Tryd.func64, Tryd.ntmps64
  go_wp2_with fail
  go_loopw [5, 13] (fun v i wr => ∃ (k : Nat), i = .int .i64 (k : Int) ∧ k ≤ n ∧ wr.ownsRow w.heap.size 79 4 v (othersS b (fs.take k)).length ((othersS b (fs.take k)).flatMap akc) ∧ Below w.heap.size w wr) (fun _ i _ => n - (intOf i).toNat)
  case atStart =>
    exact ⟨0, rfl, Nat.zero_le _, World.ownsRow_nil _ _ _ _, (Below.refl w.heap.size w).alloc (Nat.le_refl _) _⟩
  case round =>
    obtain ⟨k, rfl, hk, hown, hbel⟩ := hrel
    have HOW := hide hown
    have HBL := hide hbel
    clear hown
    by_cases hlt : k < n
    · have k0 : (k : Int) < (n : Int) := by omega
      obtain ⟨f, bk, q, hf, hidx, hbk, c0, c1, c2⟩ := (HAT.out.below hbel).get Tryd.underlying45 infoIF8 k hlt
      have HNX := hide (othersS_next b hf)
      have hnl := HW.out f (List.mem_of_getElem? hf)
      have hdl : (othersS b (fs.take k)).length ≤ 1000 := by have := othersS_room b (fs.take k); rw [List.length_take] at this; omega
      clear hf hbel
      generalize othersS b (fs.take k) = X at HNX HOW hdl
      have hid : isOtherS b f = (decide (0 ≤ snNumber f.name) && decide (snNumber f.name ≠ b)) := rfl
      rw [hid] at HNX
      clear hid
      have HB1 := hide (HBL.out.alloc HBL.out.size (.cells #[.string ⟨f.name.toArray⟩, .string ⟨f.text.toArray⟩, .int .i64 f.kept] 89))
      have HO1 := hide (HOW.out.alloc (.cells #[.string ⟨f.name.toArray⟩, .string ⟨f.text.toArray⟩, .int .i64 f.kept] 89))
      have HF1 := hide (heap_alloc_new wr (.cells #[.string ⟨f.name.toArray⟩, .string ⟨f.text.toArray⟩, .int .i64 f.kept] 89))
      have HIX := hide (fun w ht => indexOf_any f.name hnl w ht)
      have HCL := hide (stringsClone_any ⟨f.name.toArray⟩ (by rw [size_mk8]; omega))
      have HSF := hide (HSI.out f.name)
      go_wp2_with fail
      generalize wr.alloc (.cells #[.string ⟨f.name.toArray⟩, .string ⟨f.text.toArray⟩, .int .i64 f.kept] 89) = wf at HB1 HO1 HF1 ⊢
      refine (HIX.out _ (tab_below HT.out HB1.out)).mono ?_
      rintro e w1 ⟨x, hx, rfl, hxe, hb1⟩
      have HB2 := hide (HB1.out.trans (hb1.mono HB1.out.size))
      have HO2 := hide (own_below HO1.out hb1)
      have HF2 := (hb1.block _ (blk_lt HF1.out)).trans HF1.out
      have d0 := blk_cell HF2 0 rfl
      simp only [List.getElem_toArray, List.getElem_cons_zero] at d0
      clear hb1 HB1 HBL HO1 HOW HF1 HF2 hidx hbk c0 c1 c2 HIX hxe
      obtain ⟨ov, cv, hv⟩ := own_slice HO2.out
      subst hv
      have hsz2 := HB2.out.size
      generalize snNumber f.name = y at HNX HSF ⊢
      by_cases hy0 : 0 ≤ y
      · rw [decide_eq_true hy0] at HNX ⊢
        rw [Bool.true_and] at HNX
        have hiff := HSF.out hy0
        by_cases hyb : y = b
        · have hnm : f.name = ST := hiff.2 hyb
          have HNY := hide (show othersS b (fs.take (k + 1)) = X by rw [HNX.out, decide_eq_false (by simpa using hyb), if_neg (by decide), List.append_nil])
          have q1 : ((⟨f.name.toArray⟩ : ByteArray).toList == (⟨ST.toArray⟩ : ByteArray).toList) = true := by rw [Lib.toList_data, Lib.toList_data, hnm]; simp
          have q2 : (f.name == ST) = true := by rw [hnm]; simp
          clear hiff hyb hnm
          generalize hFN : f.name = FN at d0 q1 q2 HCL ⊢
          go_wp2_with fail
          go_roundw
          case rel => exact ⟨k + 1, by go_num, by omega, by rw [HNY.out]; exact HO2.out, HB2.out⟩
          case measure => simp [intOf]; omega
        · have hnm : ¬ f.name = ST := fun e => hyb (hiff.1 e)
          have HNY := hide (show othersS b (fs.take (k + 1)) = X ++ [dropSA f.name] by rw [HNX.out, decide_eq_true (by simpa using hyb), if_pos rfl])
          have q1 : ((⟨f.name.toArray⟩ : ByteArray).toList == (⟨ST.toArray⟩ : ByteArray).toList) = false := by rw [Lib.toList_data, Lib.toList_data, beq_eq_false_iff_ne]; exact hnm
          have q2 : (f.name == ST) = false := by rw [beq_eq_false_iff_ne]; exact hnm
          clear hiff hyb hnm
          go_wp2_with fail
          refine (HCL.out _).mono ?_
          rintro e w2 ⟨rfl, hb2⟩
          have HB3 := hide (HB2.out.trans (hb2.mono hsz2))
          have HO3 := hide (own_below HO2.out hb2)
          clear hb2 HB2 HO2 d0
          go_wp2_with (at_builtin; refine wpList_pushK (cs := #[.int .i64 4, .string ⟨f.name.toArray⟩, .string ⟨#[]⟩, .string ⟨#[]⟩]) rfl _ _ 42 rfl (by decide) Tryd.underlying42 infoKAz rfl rfl HO3.out rfl rfl (akc_one (dropSA f.name)) HB3.out HB3.out.size (by unfold maxLen; omega) (by omega) ?_)
          intro v' w3 ho3 hb3 _
          have HO4 := hide ho3
          have HB4 := hide hb3
          clear ho3 hb3 HO3 HB3
          go_wp2_with fail
          go_roundw
          case rel => exact ⟨k + 1, by go_num, by omega, os_own HNY.out HO4.out, HB4.out⟩
          case measure => simp [intOf]; omega
      · have HNY := hide (show othersS b (fs.take (k + 1)) = X by rw [HNX.out, decide_eq_false hy0, Bool.false_and, if_neg (by decide), List.append_nil])
        rw [decide_eq_false hy0]
        clear HSF
        go_wp2_with fail
        go_roundw
        case rel => exact ⟨k + 1, by go_num, by omega, by rw [HNY.out]; exact HO2.out, HB2.out⟩
        case measure => simp [intOf]; omega
    · obtain rfl : k = n := by omega
      have k1 : decide ((k : Int) < (k : Int)) = false := by simp
      have RD := hide (show othersS b fs = othersS b (fs.take k) by rw [List.take_of_length_le (by rw [HN.out]; exact Nat.le_refl _)])
      go_wp2_with fail
      refine bodyPost_ret (v := u5) (by simp [results, Tryd.results64, go_sem]) rfl ?_
      exact ⟨_, rfl, by rw [RD.out]; exact HOW.out, HBL.out⟩

end Go.Proofs.YtpenpbopehbncaaDoor
