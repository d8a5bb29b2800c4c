/-
  The laws' own small functions over slices of acts: sizes, copies.
-/
import Derived.Test.YtefmigdojnielaaWalkActs
import Derived.Test.YtefmigdojnielaaWalk3d
namespace Go.Proofs.Ytefmigdojnielaa
open Go.RowKit P5 K
set_option linter.unusedVariables false
set_option linter.unusedSimpArgs false

theorem infoLA : (Try.prog.info? 52).map (·.size) = some 4 := by kernel_rfl
theorem infoIA : (Try.prog.info? 45).map (·.size) = some 4 := by kernel_rfl
theorem infoIAz : (Try.prog.info? 45).map (fun i => (i.zero, i.size, i.bytes)) = some (some (.agg #[.int .i64 0, .string ⟨#[]⟩, .string ⟨#[]⟩, .string ⟨#[]⟩]), 4, 56) := by kernel_rfl

def szAsGo : List ActV → Int → Int
  | [], left => left
  | f :: r, left => if szA f left < 0 then -1 else szAsGo r (szA f left)
def szAs (fs : List ActV) (left : Int) : Int := if left - fs.length < 0 then -1 else szAsGo fs (left - fs.length)
theorem szAsGo_cons (f : ActV) (r : List ActV) (left : Int) : szAsGo (f :: r) left = if szA f left < 0 then -1 else szAsGo r (szA f left) := rfl

theorem szAsGo_fine : ∀ (fs : List ActV) (left : Int), left ≤ 1048576 → 0 ≤ left → 0 ≤ szAsGo fs left → (∀ f ∈ fs, ActWide f) → ∀ f ∈ fs, ActFine f
  | [], left, _, _, _, _, f, hf => by simp at hf
  | a :: r, left, h1, h0, h, hw, f, hf => by
    rw [szAsGo_cons] at h
    by_cases c : szA a left < 0
    · rw [if_pos c] at h; omega
    · rw [if_neg c] at h
      have hl := szA_le a left h0
      rcases List.mem_cons.1 hf with rfl | hf
      · exact szA_fine (by omega) h1 (hw _ (by simp))
      · exact szAsGo_fine r _ (by omega) (by omega) h (fun g hg => hw g (by simp [hg])) f hf

theorem szAs_fine {fs : List ActV} {left : Int} (h1 : left ≤ 1048576) (h0 : 0 ≤ left) (h : 0 ≤ szAs fs left) (hw : ∀ f ∈ fs, ActWide f) : fs.length ≤ 1048576 ∧ ∀ f ∈ fs, ActFine f := by
  unfold szAs at h
  by_cases c : left - fs.length < 0
  · rw [if_pos c] at h; omega
  · rw [if_neg c] at h
    exact ⟨by omega, szAsGo_fine fs _ (by omega) (by omega) h hw⟩

set_option maxHeartbeats 1000000 in
theorem szActS_any (oa : Option Addr) (n cap : Nat) (fs : List ActV) (left : Int) (h0 : 0 ≤ left) (h1 : left ≤ 1048576) (w : World) (hat : ActsAt w oa n cap fs) (hw : ∀ f ∈ fs, ActWide f) :
    Calls Try.prog 32 #[.slice oa n cap, .int .i64 left] w fun e w' => e = .returned (.int .i64 (szAs fs left)) ∧ Below w.heap.size w w' := by
  have hn := hat.len
  have hc := hat.room
  have hm := hat.most
  unfold maxLen at hm
  unfold szAs
  rw [hn]
  by_cases c1 : left - n < 0
  · have g1 : decide (left - (n : Int) < 0) = true := by simpa using c1
    rw [if_pos c1]
    go_enter Try.func32, Try.ntmps32
    go_wp2_with fail
    go_ret
    exact ⟨rfl, Below.refl _ _⟩
  · have g1 : decide (left - (n : Int) < 0) = false := by simpa using c1
    rw [if_neg c1]
    have HN := hide hn
    have HAT := hide hat
    have HW := hide hw
    clear hn hat hw
    go_enter Try.func32, Try.ntmps32
    go_wp2_with fail
    go_loopw [5, 1] (fun i l wr => ∃ (j : Nat) (x : Int), i = .int .i64 (j : Int) ∧ l = .int .i64 x ∧ j ≤ n ∧ 0 ≤ x ∧ x ≤ 1048576 ∧ szAsGo (fs.drop j) x = szAsGo fs (left - n) ∧ Below w.heap.size w wr) (fun i _ _ => n - (intOf i).toNat)
    case atStart => exact ⟨0, left - n, rfl, rfl, Nat.zero_le _, by omega, by omega, by simp, Below.refl _ _⟩
    case round =>
      obtain ⟨j, x, rfl, rfl, hj, hx0, hx1, hrest, hbel⟩ := hrel
      by_cases hlt : j < n
      · have j0 : (j : Int) < (n : Int) := by omega
        obtain ⟨f, b, q, hf, hidx, hb, c0, c1', c2, c3⟩ := (HAT.out.below hbel).get Try.underlying59 infoLA j hlt
        have hwf := HW.out f (List.mem_of_getElem? hf)
        have hSZ := hide (szAct_any f x hx0 hx1 hwf)
        unfold aval at hSZ
        have hd : fs.drop j = f :: fs.drop (j + 1) := by
          rw [List.drop_eq_getElem_cons (by rw [HN.out]; exact hlt)]
          congr 1
          rw [List.getElem?_eq_getElem (by rw [HN.out]; exact hlt)] at hf
          exact Option.some.inj hf
        rw [hd, szAsGo_cons] at hrest
        have HR := hide hrest
        clear hrest hd
        by_cases c2 : szA f x < 0
        · have g2 : decide (szA f x < 0) = true := by simpa using c2
          have HR2 := HR.out
          rw [if_pos c2] at HR2
          have HR2 := hide HR2
          go_wp2_with (go_at_call 25; refine (hSZ.out _).mono ?_; rintro e w2 ⟨rfl, hb2⟩)
          go_ret
          exact ⟨by rw [← HR2.out]; rfl, hbel.trans (hb2.mono hbel.size)⟩
        · have g2 : decide (szA f x < 0) = false := by simpa using c2
          have HR2 := HR.out
          rw [if_neg c2] at HR2
          have HR2 := hide HR2
          have hle := szA_le f x hx0
          go_wp2_with (go_at_call 25; refine (hSZ.out _).mono ?_; rintro e w2 ⟨rfl, hb2⟩)
          go_roundw
          case rel => exact ⟨j + 1, szA f x, by go_num, rfl, by omega, by omega, by omega, HR2.out, hbel.trans (hb2.mono hbel.size)⟩
          case measure => simp [intOf]; omega
      · have hjn : j = n := by omega
        have HR := hide hrest
        go_wp2_with fail
        go_ret
        refine ⟨?_, hbel⟩
        rw [← HR.out, hjn, ← HN.out, List.drop_length]
        rfl

/-- The first j acts lie in the row. -/
def Filled4 (fs : List ActV) (j : Nat) (xs : List Value) : Prop := ∀ (i : Nat) f, i < j → fs[i]? = some f → ∀ (c : Nat) u, (acells f)[c]? = some u → xs[i * 4 + c]? = some u

theorem filled4_zero (fs : List ActV) (xs : List Value) : Filled4 fs 0 xs := fun i f h => absurd h (Nat.not_lt_zero _)

def set4 (xs : List Value) (j : Nat) (f : ActV) : List Value := (((xs.set (j * 4) (.int .i64 f.kind)).set (j * 4 + 1) (.string ⟨f.name.toArray⟩)).set (j * 4 + 2) (.string ⟨f.text.toArray⟩)).set (j * 4 + 3) (.string ⟨f.to.toArray⟩)

theorem filled4_step {fs : List ActV} {j : Nat} {xs : List Value} (h : Filled4 fs j xs) {f : ActV} (hf : fs[j]? = some f) (hl : j * 4 + 4 ≤ xs.length) : Filled4 fs (j + 1) (set4 xs j f) := by
  intro i g hi hg c u hu
  have hc : c < 4 := by
    have := (List.getElem?_eq_some_iff.1 hu).1
    simpa [acells] using this
  by_cases e : i = j
  · subst e
    rw [hf] at hg
    cases hg
    unfold set4
    match c, hc with
    | 0, _ =>
      simp only [acells, List.getElem?_cons_zero] at hu
      cases hu
      rw [List.getElem?_set_ne (by omega), List.getElem?_set_ne (by omega), List.getElem?_set_ne (by omega), Nat.add_zero, List.getElem?_set_self (by omega)]
    | 1, _ =>
      simp only [acells, List.getElem?_cons_succ, List.getElem?_cons_zero] at hu
      cases hu
      rw [List.getElem?_set_ne (by omega), List.getElem?_set_ne (by omega), List.getElem?_set_self (by simp; omega)]
    | 2, _ =>
      simp only [acells, List.getElem?_cons_succ, List.getElem?_cons_zero] at hu
      cases hu
      rw [List.getElem?_set_ne (by omega), List.getElem?_set_self (by simp; omega)]
    | 3, _ =>
      simp only [acells, List.getElem?_cons_succ, List.getElem?_cons_zero] at hu
      cases hu
      rw [List.getElem?_set_self (by simp; omega)]
  · unfold set4
    rw [List.getElem?_set_ne (by omega), List.getElem?_set_ne (by omega), List.getElem?_set_ne (by omega), List.getElem?_set_ne (by omega)]
    exact h i g (by omega) hg c u hu

theorem filled4_end {fs : List ActV} {n : Nat} {xs : List Value} (h : Filled4 fs n xs) (hn : fs.length = n) (hl : xs.length = n * 4) : xs = fs.flatMap acells := by
  apply List.ext_getElem?
  intro k
  by_cases hk : k < n * 4
  · have h1 : k / 4 < fs.length := by omega
    have e1 : k = k / 4 * 4 + k % 4 := by omega
    obtain ⟨f, hf⟩ : ∃ f, fs[k / 4]? = some f := ⟨_, List.getElem?_eq_getElem h1⟩
    have hfe : fs[k / 4] = f := (List.getElem?_eq_some_iff.1 hf).2
    obtain ⟨u, hu⟩ : ∃ u, (acells f)[k % 4]? = some u := ⟨_, List.getElem?_eq_getElem (by rw [acells_length]; omega)⟩
    have h2 := h (k / 4) f (by omega) hf (k % 4) u hu
    rw [← e1] at h2
    have h3 := flat_get acells 4 acells_length fs (k / 4) (k % 4) h1 (by omega)
    rw [← e1, hfe] at h3
    rw [h2, h3, hu]
  · rw [List.getElem?_eq_none (by omega), List.getElem?_eq_none (by rw [flat_length acells 4 acells_length]; omega)]

theorem own_four {w : World} {base : Nat} {e : TypeId} {g n cap : Nat} {xs : List Value} (h : w.ownsRow base e 4 (.slice (some ⟨g, 0, none⟩) n cap) n xs) (j : Nat) (hj : j < n * 4) : ∃ u, w.cell? ⟨g, j, none⟩ = some u :=
  ⟨_, by rw [h.cellAt j hj, List.getElem?_eq_getElem (by rw [h.1]; exact hj)]⟩

theorem own_set4 {w : World} {base : Nat} {e : TypeId} {g n cap : Nat} {xs : List Value} (h : w.ownsRow base e 4 (.slice (some ⟨g, 0, none⟩) n cap) n xs) (j : Nat) (f : ActV) :
    ((((w.setCell ⟨g, j * 4, none⟩ (.int .i64 f.kind)).setCell ⟨g, j * 4 + 1, none⟩ (.string ⟨f.name.toArray⟩)).setCell ⟨g, j * 4 + 2, none⟩ (.string ⟨f.text.toArray⟩)).setCell ⟨g, j * 4 + 3, none⟩ (.string ⟨f.to.toArray⟩)).ownsRow base e 4 (.slice (some ⟨g, 0, none⟩) n cap) n (set4 xs j f) ∧
      w.grownBy ((((w.setCell ⟨g, j * 4, none⟩ (.int .i64 f.kind)).setCell ⟨g, j * 4 + 1, none⟩ (.string ⟨f.name.toArray⟩)).setCell ⟨g, j * 4 + 2, none⟩ (.string ⟨f.text.toArray⟩)).setCell ⟨g, j * 4 + 3, none⟩ (.string ⟨f.to.toArray⟩)) (some g) := by
  have s0 := h.stored (j * 4) (.int .i64 f.kind)
  have s1 := s0.1.stored (j * 4 + 1) (.string ⟨f.name.toArray⟩)
  have s2 := s1.1.stored (j * 4 + 2) (.string ⟨f.text.toArray⟩)
  have s3 := s2.1.stored (j * 4 + 3) (.string ⟨f.to.toArray⟩)
  exact ⟨s3.1, grown_trans (grown_trans (grown_trans s0.2 s1.2) s2.2) s3.2⟩

set_option maxHeartbeats 1000000 in
/-- The call's own copy of a slice of acts. -/
theorem toActS_any (oa : Option Addr) (n cap : Nat) (fs : List ActV) (hn20 : n ≤ 1048576) (w : World) (hat : ActsAt w oa n cap fs) :
    Calls Try.prog 33 #[.slice oa n cap] w fun e w' => ∃ g, e = .returned (.slice (some ⟨g, 0, none⟩) n n) ∧ w'.ownsRow w.heap.size 45 4 (.slice (some ⟨g, 0, none⟩) n n) n (fs.flatMap acells) ∧ Below w.heap.size w w' := by
  have hn := hat.len
  have hc := hat.room
  have hm := hat.most
  unfold maxLen at hm
  obtain ⟨i0, hi, hz0, hz1, hz2⟩ := info_parts infoIAz
  obtain ⟨W0, hmk, hown0, hgr0⟩ := run_make_full (P := Try.prog) w w.heap.size 38 45 i0 _ 4 Try.underlying38 hi hz0 hz1 .i64 .i64 n (by rw [hz2]; omega) (by unfold maxLen; omega) (Nat.le_refl _)
  have HOWN := hide hown0
  have HGR := hide hgr0
  have HN := hide hn
  have HAT := hide hat
  clear hown0 hgr0 hn hat hi hz0 hz1 hz2
  go_enter Try.func33, Try.ntmps33
  go_wp2_with fail
  go_loopw [4] (fun i wr => ∃ (j : Nat) (xs : List Value), i = .int .i64 (j : Int) ∧ j ≤ n ∧ Filled4 fs j xs ∧ wr.ownsRow w.heap.size 45 4 (.slice (some ⟨w.heap.size, 0, none⟩) n n) n xs ∧ Below w.heap.size w wr) (fun i _ => n - (intOf i).toNat)
  case atStart => exact ⟨0, _, rfl, Nat.zero_le _, filled4_zero _ _, HOWN.out, (Below.refl _ _).grown HGR.out (Nat.le_refl _) (fun k hk => by cases hk)⟩
  case round =>
    obtain ⟨j, xs, rfl, hj, hfill, hown, hbel⟩ := hrel
    by_cases hlt : j < n
    · have j0 : (j : Int) < (n : Int) := by omega
      obtain ⟨f, b, q, hf, hidx, hb, c0, c1', c2, c3⟩ := (HAT.out.below hbel).get Try.underlying59 infoLA j hlt
      have hidx2 : ∀ wx, (Instr.indexAt 38 (.slice (some ⟨w.heap.size, 0, none⟩) n n) (.int .i64 (j : Int))).run Try.prog wx = .ok (.pointer (some ⟨w.heap.size, j * 4, none⟩)) wx := fun wx => by
        have := run_indexAt_slice wx 38 45 4 Try.underlying38 infoIA w.heap.size 0 n n j hlt
        rwa [Nat.zero_add] at this
      have hTA := hide (toAct_any f)
      unfold aval at hTA
      have HF := hide hf
      have HFI := hide hfill
      have HO := hide hown
      have hsz := hbel.size
      clear hf hfill hown
      go_wp2_with (go_at_call 28; refine (hTA.out _).mono ?_; rintro e w2 ⟨rfl, hb2⟩; have ho2 := own_below HO.out hb2; obtain ⟨y0, z0⟩ := own_four ho2 (j * 4) (by omega); obtain ⟨y1, z1⟩ := own_four ho2 (j * 4 + 1) (by omega); obtain ⟨y2, z2⟩ := own_four ho2 (j * 4 + 2) (by omega); obtain ⟨y3, z3⟩ := own_four ho2 (j * 4 + 3) (by omega); have f0 := ho2.frozenAt (j * 4); have f1 := ho2.frozenAt (j * 4 + 1); have f2 := ho2.frozenAt (j * 4 + 2); have f3 := ho2.frozenAt (j * 4 + 3); have HO2 := hide ho2; clear ho2)
      have hst := own_set4 HO2.out j f
      have hb3 := (hbel.trans (hb2.mono hsz)).grown hst.2 (Nat.le_trans hsz hb2.size) (fun k hk => by cases hk; exact Nat.le_refl _)
      go_roundw
      case rel => exact ⟨j + 1, _, by go_num, by omega, filled4_step HFI.out HF.out (by have := HO.out.1; omega), hst.1, hb3⟩
      case measure => simp [intOf]; omega
    · have hjn : j = n := by omega
      subst hjn
      have HO := hide hown
      have HFI := hide hfill
      clear hown hfill
      go_wp2_with fail
      go_ret
      refine ⟨w.heap.size, rfl, ?_, hbel⟩
      rw [← filled4_end HFI.out HN.out HO.out.1]
      exact HO.out

end Go.Proofs.Ytefmigdojnielaa
