/-
  The law FnFrames, walked out of the contracts.
-/
import Derived.Test.YtlkpcdkfgagnlaaDoorWalk4d
import Derived.Test.YtlkpcdkfgagnlaaDoorSumTab
import Derived.Test.YtlkpcdkfgagnlaaDoorDraw4
import Derived.Test.YtlkpcdkfgagnlaaDoorPlain7
import Derived.Deep.RegionLaw
import Derived.Deep.CutRange
import Derived.Deep.Cut
import Derived.Deep.DeepCutAuto
namespace Go.Proofs.YtlkpcdkfgagnlaaDoor
open Go.RowKit P1 K P3
set_option linter.unusedVariables false

/-- Two slices of texts lie as rows of the same texts: the first n. -/
def TextsAt (w : World) (g : Nat) (xs : List (List UInt8)) (n : Nat) : Prop := ∀ j, j < n → ∃ l, xs[j]? = some l ∧ w.cell? ⟨g, j, none⟩ = some (.string ⟨l.toArray⟩)

theorem textsAt_own {w : World} {base g n cap : Nat} {xs : List (List UInt8)} (h : w.ownsRow base 9 1 (.slice (some ⟨g, 0, none⟩) n cap) n (strs xs)) (m : Nat) (hm : m ≤ n) : TextsAt w g xs m :=
  fun j hj => own_str h j (by omega)

set_option maxHeartbeats 1000000 in
theorem sameTexts_yes (g g' cap cap' n : Nat) (xs : List (List UInt8)) (hn : n ≤ 1000000) (w : World) (h : TextsAt w g xs n) (h' : TextsAt w g' xs n) :
    Calls Tryd.prog 11 #[.slice (some ⟨g, 0, none⟩) n cap, .slice (some ⟨g', 0, none⟩) n cap'] w fun e w' => e = .returned (.bool true) ∧ Below w.heap.size w w' := by
  go_enter Tryd.func11, Tryd.ntmps11
  go_wp2_with fail
  go_loopw [5] (fun i wr => ∃ (j q : Nat), i = .int .i64 (j : Int) ∧ j ≤ n ∧ wr = w.drewN q) (fun i _ => n - (intOf i).toNat)
  case atStart => exact ⟨0, 0, rfl, Nat.zero_le _, rfl⟩
  case round =>
    obtain ⟨j, q, rfl, hj, rfl⟩ := hrel
    by_cases hlt : j < n
    · have j0 : (j : Int) < (n : Int) := by omega
      have j1 : (0 : Int) ≤ (j : Int) := by omega
      obtain ⟨l0, hl0, hce⟩ := h j hlt
      obtain ⟨l1, hl1, hce'⟩ := h' j hlt
      rw [hl0] at hl1
      cases hl1
      clear h h'
      go_wp2_with fail
      go_quiet (fail)
      go_wp2_with fail
      go_roundw
      case rel => exact ⟨j + 1, q + nq, by go_num, by omega, by simp⟩
      case measure => simp [intOf]; omega
    · go_wp2_with fail
      go_ret
      exact ⟨rfl, below_drewN (Below.refl _ _) _⟩

/-- Where the frames of the first few end. -/
def endsL (rs : List (List UInt8)) (n : Nat) : List Nat := (List.range n).map fun j => (framesL (rs.take j)).length

theorem endsL_succ (rs : List (List UInt8)) (n : Nat) : endsL rs (n + 1) = endsL rs n ++ [(framesL (rs.take n)).length] := by simp [endsL, List.range_succ]
theorem endsL_length (rs : List (List UInt8)) (n : Nat) : (endsL rs n).length = n := by simp [endsL]
theorem endsL_at (rs : List (List UInt8)) (n j : Nat) (h : j < n) : (endsL rs n)[j]? = some (framesL (rs.take j)).length := by simp [endsL, h]

def tTwo : List UInt8 := [116, 119, 111]
def tThree : List UInt8 := [116, 104, 114, 101, 101, 32, 97, 110, 100, 32, 109, 111, 114, 101]
def tOne : List UInt8 := [111, 110, 101]

theorem run_begin4 {P : Program} {t : TypeId} (h : P.underlying t = some .string) (s : List UInt8) (k : Nat) (hk : k ≤ s.length) (wx : World) :
    (Instr.slice t (.string ⟨s.toArray⟩) none (some (.int .i64 (k : Int))) none).run P wx = .ok (.string ⟨(s.take k).toArray⟩) wx := by
  have e : (⟨s.toArray⟩ : ByteArray).extract 0 k = ⟨(s.take k).toArray⟩ := by
    apply ByteArray.ext
    simp [ByteArray.data_extract]
  have hs : (⟨s.toArray⟩ : ByteArray).size = s.length := by simp [ByteArray.size]
  have h1 : (k : Int) ≤ (s.length : Int) := by omega
  rw [← e]
  simp [Instr.slice, run_underlying h, Instr.sliceBounds, go_sem, hs, h1]

/-- What the loop carries. -/
def FrRel (rs : List (List UInt8)) (wc : World) (k : Nat) (v : Value) (wr : World) : Prop :=
  ∃ ge ce, v = .slice (some ⟨ge, 0, none⟩) (k + 1) ce ∧ wr.ownsRow wc.heap.size 3 1 (.slice (some ⟨ge, 0, none⟩) (k + 1) ce) (k + 1) (I64 (endsL rs (k + 1))) ∧ Below wc.heap.size wc wr

theorem cat_frames (rs : List (List UInt8)) (k : Nat) (r : List UInt8) (h : rs[k]? = some r) : framesL (rs.take (k + 1)) = framesL (rs.take k) ++ frameL r := by
  rw [List.take_add_one, h]
  exact framesL_snoc _ _

set_option maxRecDepth 100000 in
set_option maxHeartbeats 4000000 in
theorem FnFrames_walk (a0 : Option Addr) (len0 cap0 : Nat) (z0 : List Int) (w : World) (w0 : IsRow .u8 w a0 len0 cap0 z0) (hL : laidMetH Tryd.prog Rows.fnFramesRow.laid w) :
    Calls Tryd.prog 3 #[.slice a0 len0 cap0] w fun e w' => e = .returned (.bool true) ∧ Below w.heap.size w w' := by
  have HT := hide (sums_of_laid (by kernel_rfl) hL)
  have HC := hide (codeAt_of_row w0)
  clear hL w0
  by_cases hbig : 1048576 < len0
  · go_enter Tryd.func3, Tryd.ntmps3
    go_wp2_with (go_at_call 6; refine (big_yes a0 len0 cap0 hbig _).mono ?_; rintro e w1 ⟨rfl, rfl⟩)
    go_ret
    exact ⟨rfl, Below.refl _ _⟩
  · have hlen : len0 ≤ 1048576 := by omega
    go_enter Tryd.func3, Tryd.ntmps3
    go_wp2_with fail
    refine (big_no a0 len0 cap0 hlen _).mono ?_
    rintro e w1 ⟨rfl, rfl⟩
    go_wp2_with fail
    refine (drawPlaces_any w.heap.size a0 len0 cap0 _ hlen (Nat.le_refl _) HC.out).mono ?_
    rintro e w1 ⟨ps, v, hps, hpx, rfl, hown1, hb1⟩
    obtain ⟨gp, cp, rfl, hgp⟩ := hown1.form (by omega)
    obtain ⟨q0, ps1, rfl⟩ : ∃ q0 ps1, ps = q0 :: ps1 := by
      cases ps with
      | nil => simp at hps
      | cons x y => exact ⟨x, y, rfl⟩
    have hq0 : q0 < 10000 := hpx q0 (by simp)
    have HO1 := hide hown1
    clear hown1 hps hpx
    go_wp2_with fail
    refine (drawHex_any w.heap.size a0 len0 cap0 _ hlen hb1.size (HC.out.below hb1)).mono ?_
    rintro e w2 ⟨l, hl, rfl, hb2'⟩
    have hb2 : Below w.heap.size w w2 := hb1.trans (hb2'.mono hb1.size)
    have HO2 := hide (own_below HO1.out hb2')
    clear HO1
    go_upto_region 5 with fail
    go_cut [34] (fun s wx => s = .bool (decide (l.length = 0) || decide (900 < l.length)) ∧ wx = w2.alloc (.cells #[.string ⟨l.toArray⟩, .string ⟨tTwo.toArray⟩, .string ⟨tThree.toArray⟩] 9))
    case first =>
      by_cases c1 : l.length = 0
      · have g1 : ((l.length : Int) == 0) = true := by simp [c1]
        have HC1 := hide c1
        clear c1
        go_wp2_with fail
        go_meet
        exact ⟨by simp [HC1.out], rfl⟩
      · have g1 : ((l.length : Int) == 0) = false := by simp [c1]
        have HC1 := hide c1
        clear c1
        by_cases c2 : 900 < l.length
        · have g2 : decide ((900 : Int) < (l.length : Int)) = true := by simp; omega
          go_wp2_with fail
          go_meet
          exact ⟨by simp [c2], rfl⟩
        · have g2 : decide ((900 : Int) < (l.length : Int)) = false := by simp; omega
          go_wp2_with fail
          go_meet
          exact ⟨by simp [HC1.out, c2], rfl⟩
    case rest =>
      obtain ⟨rfl, rfl⟩ := hcut
      go_upto_if 34 with fail
      go_cut [4] (fun s wx => ∃ A : List UInt8, 1 ≤ A.length ∧ A.length ≤ 900 ∧ s = .slice (some ⟨w2.heap.size, 0, none⟩) 3 3 ∧ wx.ownsRow w2.heap.size 9 1 (.slice (some ⟨w2.heap.size, 0, none⟩) 3 3) 3 (strs [A, tTwo, tThree]) ∧ Below w2.heap.size w2 wx)
      case first =>
        have hown : (w2.alloc (.cells #[.string ⟨l.toArray⟩, .string ⟨tTwo.toArray⟩, .string ⟨tThree.toArray⟩] 9)).ownsRow w2.heap.size 9 1 (.slice (some ⟨w2.heap.size, 0, none⟩) 3 3) 3 (strs [l, tTwo, tThree]) :=
          World.ownsRow_lit (base := w2.heap.size) (size := 1) w2 #[.string ⟨l.toArray⟩, .string ⟨tTwo.toArray⟩, .string ⟨tThree.toArray⟩] 3 (Nat.le_refl _) (by decide) rfl
        have hbel : Below w2.heap.size w2 (w2.alloc (.cells #[.string ⟨l.toArray⟩, .string ⟨tTwo.toArray⟩, .string ⟨tThree.toArray⟩] 9)) := (Below.refl _ _).alloc (Nat.le_refl _) _
        have HOW := hide hown
        have HBE := hide hbel
        clear hown hbel
        cases hbad : (decide (l.length = 0) || decide (900 < l.length)) with
        | true =>
          clear hbad
          go_wp2_with fail
          go_meet
          exact ⟨tOne, by decide, by decide, rfl, World.ownsRow_lit (base := w2.heap.size) (size := 1) w2 #[.string ⟨tOne.toArray⟩, .string ⟨tTwo.toArray⟩, .string ⟨tThree.toArray⟩] 3 (Nat.le_refl _) (by decide) rfl, (Below.refl _ _).alloc (Nat.le_refl _) _⟩
        | false =>
          have hA : 1 ≤ l.length ∧ l.length ≤ 900 := by rw [Bool.or_eq_false_iff, decide_eq_false_iff_not, decide_eq_false_iff_not] at hbad; omega
          have HA := hide hA
          clear hbad hA
          go_wp2_with fail
          go_meet
          exact ⟨l, HA.out.1, HA.out.2, rfl, HOW.out, HBE.out⟩
      case rest =>
        obtain ⟨A, hA1, hA2, rfl, hlist, hbx⟩ := hcut
        obtain ⟨rs, hrs⟩ : ∃ rs, [A, tTwo, tThree] = rs := ⟨_, rfl⟩
        have hrl : rs.length = 3 := by rw [← hrs]; rfl
        have hR : ∀ r ∈ rs, 1 ≤ r.length ∧ r.length ≤ 900 := by
          rw [← hrs]
          intro r hr
          simp at hr
          rcases hr with rfl | rfl | rfl
          · exact ⟨hA1, hA2⟩
          · exact ⟨by decide, by decide⟩
          · exact ⟨by decide, by decide⟩
        rw [hrs] at hlist
        clear hrs
        have hFl : ∀ k, (framesL (rs.take k)).length ≤ 3000 := by
          intro k
          have h1 := framesL_take_le rs k
          have h2 : (framesL rs).length ≤ 3000 := by
            match rs, hrl with
            | [r0, r1, r2], _ =>
              have a0 := hR r0 (by simp); have a1 := hR r1 (by simp); have a2 := hR r2 (by simp)
              have b0 := varB_length r0.length; have b1 := varB_length r1.length; have b2 := varB_length r2.length
              rw [framesL_cons, framesL_cons, framesL_cons]
              simp only [List.length_append, frameL_length]
              simp [framesL]
              omega
          omega
        have HLI := hide hlist
        have HRL := hide hrl
        have HRR := hide hR
        have HFL := hide hFl
        have hbc : Below w.heap.size w wc := hb2.trans (hbx.mono hb2.size)
        have HO3 := hide (own_below HO2.out hbx)
        have hgl : w2.heap.size < wc.heap.size := (hlist.lt w2.heap.size rfl).2
        clear hlist hrl hR hFl HO2 hbx
        go_wp2_with fail
        go_loopw [5, 6, 7] (fun f v i wr => ∃ k : Nat, i = .int .i64 (k : Int) ∧ k ≤ 3 ∧ f = .string ⟨(framesL (rs.take k)).toArray⟩ ∧ FrRel rs wc k v wr) (fun _ _ i _ => 3 - (intOf i).toNat)
        case atStart =>
          refine ⟨0, rfl, by omega, rfl, wc.heap.size, 1, rfl, ?_, (Below.refl _ _).alloc (Nat.le_refl _) _⟩
          exact World.ownsRow_lit (base := wc.heap.size) (size := 1) wc #[.int .i64 0] 1 (Nat.le_refl _) (by decide) rfl
        case round =>
          obtain ⟨k, rfl, hk, rfl, ge, ce, rfl, hends, hbel⟩ := hrel
          have hli := own_below HLI.out hbel
          have hsz := hbel.size
          by_cases hlt : k < 3
          · have j0 : (k : Int) < 3 := by omega
            have j1 : (0 : Int) ≤ (k : Int) := by omega
            obtain ⟨r, hr, hce⟩ := own_str hli k hlt
            have hrr := HRR.out r (List.mem_of_getElem? hr)
            have V := hide (show frameVal (bl ⟨r.toArray⟩) = .tuple #[.string ⟨(frameL r).toArray⟩, .bool true] from frameVal_yes (l := r) (by omega) (by omega))
            have hFR := hide (fun wx h => implFrame_any ⟨r.toArray⟩ (by rw [size_mk]; omega) wx h)
            have E := hide (cat_frames rs k r hr)
            have hl1 := HFL.out k
            have hl2 := frameL_length r
            have hl3 := varB_length r.length
            have hl4 : (frameL r).length ≤ 914 := by omega
            obtain ⟨Fk, hFk⟩ : ∃ Fk, framesL (rs.take k) = Fk := ⟨_, rfl⟩
            obtain ⟨fr, hfr⟩ : ∃ fr, frameL r = fr := ⟨_, rfl⟩
            rw [hFk] at E hl1 ⊢
            rw [hfr] at E V hl4
            clear hFk hfr hl2 hl3 hli hr
            go_wp2_with (first
              | (go_at_call 9; refine (hFR.out _ (tab_below HT.out (hbc.trans (hbel.mono hbc.size)))).mono ?_; rw [V.out]; rintro e w3 ⟨rfl, hb3⟩; have hends3 := own_below hends hb3; have hbel3 := hbel.trans (hb3.mono hsz); have hsz3 := hbel3.size)
              | (at_builtin; refine wpList_push rfl _ _ 24 rfl Tryd.underlying24 infoInt rfl rfl hends3 rfl rfl hbel3 hsz3 (by unfold maxLen; omega) (by omega) ?_))
            intro v' w4 hown' hbel' _
            have he : endsL rs (k + 1 + 1) = endsL rs (k + 1) ++ [Fk.length + fr.length] := by rw [endsL_succ, E.out, List.length_append]
            have ho2 : w4.ownsRow wc.heap.size 3 1 v' (k + 1 + 1) (I64 (endsL rs (k + 1 + 1))) := by
              rw [he, ← I64_snoc]
              exact hown'
            obtain ⟨g', cap', rfl, _⟩ := ho2.form (by omega)
            clear hown' hends hbel hends3 hbel3 hsz3
            go_wp2_with fail
            go_roundw
            case rel => exact ⟨k + 1, by go_num, by omega, congrArg Value.string (by rw [E.out]; apply ByteArray.ext; simp), g', cap', rfl, ho2, hbel'⟩
            case measure => simp [intOf]; omega
          · obtain rfl : k = 3 := by omega
            have hall : rs.take 3 = rs := List.take_of_length_le (by rw [HRL.out]; exact Nat.le_refl _)
            have hF := HFL.out 3
            have hback := hide (unframe_back rs (fun r hr => by have := HRR.out r hr; omega) (by rw [hall] at hF; omega))
            have hsome := hide (unframe_some rs (fun r hr => by have := HRR.out r hr; omega) (by rw [hall] at hF; omega))
            rw [hall] at hF ⊢
            obtain ⟨F, hFe⟩ : ∃ F, framesL rs = F := ⟨_, rfl⟩
            rw [hFe] at hback hsome hF ⊢
            have HFE := hide hFe
            have HE := hide hends
            have HB := hide hbel
            have HLI2 := hide hli
            have HP := hide (own_below HO3.out hbel)
            have hBw : Below w.heap.size w wr := hbc.trans (hbel.mono hbc.size)
            clear hFe hall hends hbel hli
            have hUN := hide (fun wx h => implUnframe_any ⟨F.toArray⟩ (by rw [size_mk]; omega) wx h)
            go_wp2_with fail
            refine (hUN.out _ (tab_below HT.out hBw)).mono ?_
            unfold UnfPost
            rw [bl_mk, hback.out]
            rintro e w5 ⟨gb, cb, rfl, hb5, hbel5⟩
            rw [HRL.out] at hb5 ⊢
            have li5 := own_below HLI2.out hbel5
            have e5 := hide (own_below HE.out hbel5)
            have p5 := hide (own_below HP.out hbel5)
            have hB5 : Below w.heap.size w w5 := hBw.trans (hbel5.mono hBw.size)
            have hST := hide (sameTexts_yes gb w2.heap.size cb 3 3 rs (by omega) w5 (textsAt_own hb5 3 (Nat.le_refl _)) (textsAt_own li5 3 (Nat.le_refl _)))
            have LI5 := hide li5
            clear hb5 li5 hUN
            obtain ⟨kk, hkk⟩ : ∃ kk, q0 % (F.length + 1) = kk := ⟨_, rfl⟩
            have hkl : kk ≤ F.length := by rw [← hkk]; exact Nat.le_of_lt_succ (Nat.mod_lt _ (by omega))
            have hmod : (q0 : Int) % ((F.length : Int) + 1) = (kk : Int) := by rw [← hkk]; simp
            have hsl := run_begin4 (P := Tryd.prog) Tryd.underlying9 F kk hkl
            clear hkk
            simp only []
            go_wp2_with (go_at_call 11; refine hST.out.mono ?_; rintro e w6 ⟨rfl, hb6⟩; have hp0 := own_cell (own_below p5.out hb6) 0 _ rfl)
            obtain ⟨m, m1, m2, m3, m4⟩ := hsome.out kk hkl
            rw [HRL.out] at m1 m4
            have hml : (rs.take m).length = m := by rw [List.length_take, HRL.out]; omega
            have hB6 : Below w.heap.size w w6 := hB5.trans (hb6.mono hB5.size)
            have hUN2 := hide (fun wx h => implUnframe_any ⟨(F.take kk).toArray⟩ (by rw [size_mk, List.length_take]; omega) wx h)
            refine (hUN2.out _ (tab_below HT.out hB6)).mono ?_
            unfold UnfPost
            rw [bl_mk, m2]
            rintro e w7 ⟨gs, cs, rfl, hs7, hb7⟩
            simp only [hml] at hs7 ⊢
            have hB7 : Below w.heap.size w w7 := hB6.trans (hb7.mono hB6.size)
            have e7 := own_below (own_below e5.out hb6) hb7
            have l7 := own_below (own_below LI5.out hb6) hb7
            have t1 : TextsAt w7 gs rs m := fun j hj => by
              obtain ⟨x, hx, hc⟩ := own_str hs7 j hj
              rw [List.getElem?_take_of_lt hj] at hx
              exact ⟨x, hx, hc⟩
            have hST2 := hide (sameTexts_yes gs w2.heap.size cs 3 m rs (by omega) w7 t1 (textsAt_own l7 m m1))
            obtain ⟨Em, hEm⟩ : ∃ Em, (framesL (rs.take m)).length = Em := ⟨_, rfl⟩
            have he1 : w7.cell? ⟨ge, m, none⟩ = some (.int .i64 (Em : Int)) := own_cell e7 m _ (by rw [← hEm]; simp only [I64, List.getElem?_map, endsL_at rs (3 + 1) m (by omega), Option.map_some])
            rw [hEm] at m3 ⊢
            have hEl : Em ≤ 3000 := by rw [← hEm]; exact HFL.out m
            have j2 : (m : Int) ≤ 3 := by omega
            have j3 : (m : Int) < 4 := by omega
            have j4 : (0 : Int) ≤ (m : Int) := by omega
            have j5 : (Em : Int) ≤ (kk : Int) := by omega
            have g1 : decide ((m : Int) ≤ 3) = true := by simp; omega
            have g2 : ((Em : Int) == (Em : Int)) = true := by simp
            have g3 : decide ((Em : Int) ≤ (kk : Int)) = true := by simp; omega
            by_cases hm3 : m = 3
            · subst hm3
              clear m2 m4 hEm e7 l7 hs7 t1
              go_wp2_with (go_at_call 11; refine hST2.out.mono ?_; rintro e w8 ⟨rfl, hb8⟩)
              go_ret
              exact ⟨rfl, hB7.trans (hb8.mono hB7.size)⟩
            · have hk1 : kk < (framesL (rs.take (m + 1))).length := by rcases m4 with m4 | m4; exact absurd m4 hm3; exact m4
              obtain ⟨En, hEn⟩ : ∃ En, (framesL (rs.take (m + 1))).length = En := ⟨_, rfl⟩
              have he2 : ∀ w8, Below w7.heap.size w7 w8 → w8.cell? ⟨ge, m + 1, none⟩ = some (.int .i64 (En : Int)) := fun w8 hb8 => own_cell (own_below e7 hb8) (m + 1) _ (by rw [← hEn]; simp only [I64, List.getElem?_map, endsL_at rs (3 + 1) (m + 1) (by omega), Option.map_some])
              rw [hEn] at hk1
              have g4 : ((m : Int) == 3) = false := by simp; omega
              have g5 : decide ((kk : Int) < (En : Int)) = true := by simp; omega
              have j6 : (m : Int) + 1 < 4 := by omega
              have HE2 := hide he2
              clear m2 m4 hEm hEn e7 l7 hs7 t1 he2
              go_wp2_with (go_at_call 11; refine hST2.out.mono ?_; rintro e w8 ⟨rfl, hb8⟩; have he3 := HE2.out w8 hb8)
              go_ret
              exact ⟨rfl, hB7.trans (hb8.mono hB7.size)⟩

end Go.Proofs.YtlkpcdkfgagnlaaDoor
