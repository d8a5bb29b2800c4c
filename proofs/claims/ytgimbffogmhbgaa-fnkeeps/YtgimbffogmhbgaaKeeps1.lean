/-
  FnKeeps: plain mathematics of what the power leaves; the law's own small functions.
-/
import Derived.Test.YtgimbffogmhbgaaWalk3l
import Derived.Test.YtgimbffogmhbgaaWalk3g
import Derived.Test.YtgimbffogmhbgaaDraw3
import Derived.Test.YtgimbffogmhbgaaPlain8
import Derived.Deep.QuietTactic
import Derived.BigQuiet
import Derived.Laws.StructEq
namespace Go.Proofs.Ytgimbffogmhbgaa
open Go.RowKit P5 K
set_option linter.unusedVariables false
set_option linter.unusedSimpArgs false

theorem loseF_len {f : FileV} (h : fileOk f = true) (n : Int) : (loseF f n).text.length = P5.leftOf f n := by
  have := leftOf_le h n
  simp [loseF]
  omega

theorem loseF_ok {f : FileV} (h : fileOk f = true) (n : Int) : fileOk (loseF f n) = true := by
  have h1 := loseF_len h n
  have h2 := leftOf_le h n
  have h3 := (fileOk_iff f).1 h
  refine (fileOk_iff _).2 ⟨h3.1, ?_, ?_, ?_⟩
  · rw [h1]; omega
  · show 0 ≤ (P5.leftOf f n : Int); omega
  · rw [h1]; show (P5.leftOf f n : Int) ≤ _; omega

theorem okFrom_lose (left : List Int) : ∀ (fs : List FileV) (p : Option (List UInt8)) (k : Nat), okFrom p fs = true → okFrom p (fs.mapIdx fun i f => loseF f (left.getD (i + k) 0)) = true
  | [], _, _, _ => rfl
  | f :: r, p, k, h => by
    rw [okFrom_cons] at h
    simp only [Bool.and_eq_true] at h
    rw [List.mapIdx_cons, okFrom_cons]
    simp only [Bool.and_eq_true]
    refine ⟨⟨loseF_ok h.1.1 _, h.1.2⟩, ?_⟩
    have := okFrom_lose left r (some f.name) (k + 1) h.2
    have e : (fun (i : Nat) (f : FileV) => loseF f (left.getD (i + 1 + k) 0)) = fun i f => loseF f (left.getD (i + (k + 1)) 0) := by
      funext i f
      rw [show i + 1 + k = i + (k + 1) by omega]
    rw [e]
    exact this

theorem lose_ok {fs : List FileV} (h : diskOk fs = true) (left : List Int) : diskOk (lose fs left) = true := by
  unfold diskOk at *
  simp only [Bool.and_eq_true, decide_eq_true_eq] at *
  refine ⟨by rw [lose_length]; exact h.1, ?_⟩
  have := okFrom_lose left fs none 0 h.2
  simpa [lose] using this

theorem lose_get (fs : List FileV) (left : List Int) (i : Nat) : (lose fs left)[i]? = fs[i]?.map fun f => loseF f (left.getD i 0) := by
  simp [lose, List.getElem?_mapIdx]

theorem lose_again {fs : List FileV} (h : diskOk fs = true) (left left' : List Int) : lose (lose fs left) left' = lose fs left := by
  apply List.ext_getElem?
  intro i
  rw [lose_get, lose_get]
  cases hf : fs[i]? with
  | none => rfl
  | some f =>
    simp only [Option.map_some]
    rw [loseF_again (diskOk_mem h f (List.mem_of_getElem? hf))]

theorem lose_kept {fs : List FileV} (h : diskOk fs = true) (left : List Int) : allKept (lose fs left) = true := by
  unfold allKept
  rw [lose_ok h, Bool.true_and, List.all_eq_true]
  intro y hy
  obtain ⟨i, hi⟩ := List.getElem?_of_mem hy
  rw [lose_get] at hi
  cases hf : fs[i]? with
  | none => rw [hf] at hi; cases hi
  | some f =>
    rw [hf] at hi
    cases hi
    unfold keptF
    rw [loseF_kept (diskOk_mem h f (List.mem_of_getElem? hf))]
    simp

/-- What is left begins the text; what was kept begins what is left. -/
theorem lose_begins {f : FileV} (h : fileOk f = true) (n : Int) : (loseF f n).text = f.text.take (loseF f n).text.length ∧ (loseF f n).text.length ≤ f.text.length ∧ f.kept.toNat ≤ (loseF f n).text.length ∧ f.text.take f.kept.toNat = (loseF f n).text.take f.kept.toNat := by
  have h1 := loseF_len h n
  have h2 := leftOf_le h n
  have h3 := fileOk_kept h
  have h4 : f.kept.toNat ≤ P5.leftOf f n := by unfold P5.leftOf; omega
  refine ⟨by rw [h1]; rfl, by omega, by omega, ?_⟩
  show _ = (f.text.take (P5.leftOf f n)).take f.kept.toNat
  rw [List.take_take, Nat.min_eq_left h4]

theorem begins_yes (a b : List UInt8) (hl : a.length ≤ b.length) (hp : b.take a.length = a) (hb : b.length ≤ 1048576) (w : World) :
    Calls Try.prog 18 #[.string ⟨a.toArray⟩, .string ⟨b.toArray⟩] w fun e w' => e = .returned (.bool true) ∧ w' = w := by
  have g1 : (a.length : Int) ≤ (b.length : Int) := by omega
  have hx : (⟨b.toArray⟩ : ByteArray).extract 0 a.length = ⟨a.toArray⟩ := by
    apply ByteArray.ext
    rw [ByteArray.data_extract]
    apply Array.ext'
    rw [Array.toList_extract, List.extract_eq_take_drop]
    simp [hp]
  have hsl : ∀ wx, (Instr.slice 9 (.string ⟨b.toArray⟩) none (some (.int .i64 (a.length : Int))) none).run Try.prog wx = .ok (.string ⟨a.toArray⟩) wx := fun wx => by
    rw [← hx]
    have hu := Try.underlying9
    have g0 : (0 : Int) ≤ (a.length : Int) := by omega
    have g2 : (a.length : Int) ≤ ((⟨b.toArray⟩ : ByteArray).size : Int) := g1
    have g3 : ((a.length : Int)).toNat = a.length := by omega
    have := run_slice_string_h wx 9 ⟨b.toArray⟩ hu .i64 (a.length : Int) g0 g2
    rw [g3] at this
    exact this
  clear hx hp
  go_enter Try.func18, Try.ntmps18
  go_wp2_with fail
  go_ret
  exact ⟨rfl, rfl⟩

set_option maxHeartbeats 1000000 in
theorem lefts_any (oa : Option Addr) (cap : Nat) (zs : List Int) (hz : ∀ z ∈ zs, 0 ≤ z ∧ z < 10000) (w : World) (hat : IntsAt w oa 12 cap zs) :
    Calls Try.prog 12 #[.slice oa 12 cap] w fun e w' => ∃ (v : Value) (ls : List Int), (∀ z ∈ ls, 0 ≤ z ∧ z < 300) ∧ e = .returned v ∧ w'.ownsRow w.heap.size 3 1 v 6 (ls.map icell) ∧ Below w.heap.size w w' := by
  have HAT := hide hat
  have HZ := hide hz
  clear hat hz
  go_enter Try.func12, Try.ntmps12
  go_wp2_with fail
  go_loopw [3, 4] (fun v i wr => ∃ (j : Nat) (ls : List Int), i = .int .i64 (j : Int) ∧ j ≤ 6 ∧ (∀ z ∈ ls, 0 ≤ z ∧ z < 300) ∧ wr.ownsRow w.heap.size 3 1 v j (ls.map icell) ∧ Below w.heap.size w wr) (fun _ i _ => 6 - (intOf i).toNat)
  case atStart => exact ⟨0, [], rfl, by omega, by simp, World.ownsRow_made (w := w) #[] 0 (Nat.le_refl _) (by decide) rfl, (Below.refl _ _).alloc (Nat.le_refl _) _⟩
  case round =>
    obtain ⟨j, ls, rfl, hj, hls, hown, hbel⟩ := hrel
    have hsz := hbel.size
    have HLS := hide hls
    clear hls
    by_cases hlt : j < 6
    · have j0 : (j : Int) < 6 := by omega
      obtain ⟨z, b, q, hz, hidx, hb, c0, hwf⟩ := (HAT.out.below hbel).get Try.underlying22 infoI j (by omega)
      obtain ⟨hz0, hz1⟩ := HZ.out z (List.mem_of_getElem? hz)
      clear hz
      go_wp2_with (at_builtin; refine wpList_push rfl _ _ 22 rfl Try.underlying22 infoIz rfl rfl hown rfl rfl hbel hsz (by unfold maxLen; omega) (by omega) ?_)
      intro v' w1 hown' hbel' _
      have HO := hide (show w1.ownsRow w.heap.size 3 1 v' (j + 1) ((ls ++ [z % 300]).map icell) by rw [List.map_append]; exact hown')
      clear hown' hown hbel
      go_wp2
      go_roundw
      case rel => exact ⟨j + 1, ls ++ [z % 300], by go_num, by omega, by
        intro y hy
        rcases List.mem_append.1 hy with hy | hy
        · exact HLS.out y hy
        · simp at hy; omega, HO.out, hbel'⟩
      case measure => simp [intOf]; omega
    · have hjn : j = 6 := by omega
      subst hjn
      go_wp2_with fail
      go_ret
      exact ⟨_, ls, HLS.out, rfl, hown, hbel⟩

set_option maxHeartbeats 2000000 in
theorem sameDisk_same (oa : Option Addr) (n cap : Nat) (ob : Option Addr) (cap' : Nat) (fs : List FileV) (hn20 : n ≤ 1048576) (w : World) (hat : FilesAt w oa n cap fs) (hbt : FilesAt w ob n cap' fs) :
    Calls Try.prog 15 #[.agg #[.slice oa n cap], .agg #[.slice ob n cap']] w fun e w' => e = .returned (.bool true) ∧ Below w.heap.size w w' := by
  have HB0 := hide (((Below.refl w.heap.size w).alloc (Nat.le_refl _) (.cells #[.slice oa n cap] 29)).alloc (by simp) (.cells #[.slice ob n cap'] 29))
  have HAT := hide hat
  have HBT := hide hbt
  clear hat hbt
  go_enter Try.func15, Try.ntmps15
  go_wp2_with fail
  go_loopw [5] (fun i wr => ∃ (j q : Nat), i = .int .i64 (j : Int) ∧ j ≤ n ∧ wr = ((w.alloc (.cells #[.slice oa n cap] 29)).alloc (.cells #[.slice ob n cap'] 29)).drewN q) (fun i _ => n - (intOf i).toNat)
  case atStart => exact ⟨0, 0, rfl, Nat.zero_le _, rfl⟩
  case round =>
    obtain ⟨j, q, rfl, hj, rfl⟩ := hrel
    by_cases hlt : j < n
    · have j0 : (j : Int) < (n : Int) := by omega
      obtain ⟨f, b, p, hf, hidx, hb, c0, c1, c2⟩ := (HAT.out.below HB0.out).get Try.underlying27 infoIF j hlt
      obtain ⟨f', b', p', hf', hidx', hb', c0', c1', c2'⟩ := (HBT.out.below HB0.out).get Try.underlying27 infoIF j hlt
      rw [hf] at hf'
      cases hf'
      clear hf
      go_wp2_with fail
      go_quiet (fail)
      go_wp2_with fail
      go_roundw
      case rel => exact ⟨j + 1, q + nq, by go_num, by omega, by simp⟩
      case measure => simp [intOf]; omega
    · go_wp2_with fail
      go_ret
      exact ⟨rfl, below_drewN HB0.out _⟩

end Go.Proofs.Ytgimbffogmhbgaa
