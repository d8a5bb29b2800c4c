/-
  Walks of chapter 3: LoseDisk of the specification.
-/
import Derived.Test.YtdcdlfkbdeogeaaPack16
import Derived.Test.YtdcdlfkbdeogeaaPack10
import Derived.Deep.RegionLaw
import Derived.Deep.CutRange
import Derived.Deep.Cut
import Derived.Deep.DeepCutAuto
namespace Go.Proofs.Ytdcdlfkbdeogeaa
open Go.RowKit P5 K
set_option linter.unusedVariables false
set_option linter.unusedSimpArgs false

def LF (fs : List FileV) (left : List Int) (j : Nat) : List FileV := (lose fs left).take j

theorem lose_length (fs : List FileV) (left : List Int) : (lose fs left).length = fs.length := by simp [lose]

theorem LF_step {fs : List FileV} {left : List Int} {j : Nat} {f : FileV} (hf : fs[j]? = some f) : (LF fs left (j + 1)).flatMap fcells = (LF fs left j).flatMap fcells ++ fcells (loseF f (left.getD j 0)) := by
  unfold LF
  rw [List.take_add_one, List.flatMap_append]
  congr 1
  have : (lose fs left)[j]? = some (loseF f (left.getD j 0)) := by simp [lose, List.getElem?_mapIdx, hf]
  rw [this]
  simp

theorem LF_all (fs : List FileV) (left : List Int) : LF fs left fs.length = lose fs left := by
  unfold LF
  rw [← lose_length fs left, List.take_length]

/-- The loop's memory: the variable at block d holds the slice v, which the call owns: the files cs. -/
structure Row1 (w : World) (H d B : Nat) (wr : World) (v : Value) (j : Nat) (xs : List Value) : Prop where
  bel : Below H w wr
  big : B ≤ wr.heap.size
  lt : H ≤ d ∧ d < B
  cell : wr.cell? ⟨d, 0, none⟩ = some v
  free : wr.frozen? ⟨d, 0, none⟩ = false
  own : wr.ownsRow B 49 3 v j xs

/-- One more struct at its end, stored back. -/
theorem Row1.next {w : World} {H d B : Nat} {wr : World} {v : Value} {j : Nat} {xs : List Value} (h : Row1 w H d B wr v j xs) {w1 w2 : World} (hb : Below wr.heap.size wr w1) {v' : Value} {ys : List Value} (ho : w2.ownsRow B 49 3 v' (j + 1) ys) (hg : w1.grownBy w2 v.ownBlock) :
    Row1 w H d B (w2.setCell ⟨d, 0, none⟩ v') v' (j + 1) ys := by
  have hown := h.own
  have hlt := h.lt
  have hr : ∀ k, v.ownBlock = some k → B ≤ k := fun k hk => (hown.lt k hk).1
  have hbig1 := Nat.le_trans h.big hb.size
  have hc1 : w1.cell? ⟨d, 0, none⟩ = some v := (hb.cell (cell_lt h.cell)).trans h.cell
  have hf1 : w1.frozen? ⟨d, 0, none⟩ = false := (hb.frozen (cell_lt h.cell)).trans h.free
  have hc2 := grow_cell hg hc1 (fun k hk => by have := hr k hk; show d < k; omega)
  have hf2 := grow_frozen hg hc1 (fun k hk => by have := hr k hk; show d < k; omega) hf1
  have hbel2 : Below H w w2 := (h.bel.trans (hb.mono (by have := h.big; omega))).grown hg (by omega) (fun k hk => by have := hr k hk; omega)
  refine ⟨hbel2.setCell (by simp; omega) _, Nat.le_trans (Nat.le_trans hbig1 hg.size) ((Below.refl 0 w2).setCell (Nat.zero_le _) v').size, hlt, ?_, ?_, own_setCell ho (by simp; omega) _⟩
  · exact (World.rangeAt_setCells_same w2 d 0 [v'] (fun j hj => by match j, hj with | 0, _ => exact ⟨by rw [hc2]; rfl, hf2⟩)) 0 v' rfl
  · rw [World.frozen?_setCell]
    exact hf2


theorem own_form {w : World} {base : Nat} {e : TypeId} {size n : Nat} {v : Value} {xs : List Value} (h : w.ownsRow base e size v n xs) : ∃ oa cap, v = .slice oa n cap := by
  rcases h.2 with ⟨rfl, rfl⟩ | ⟨g, cap, cur, rfl, _⟩
  · exact ⟨none, 0, rfl⟩
  · exact ⟨_, _, rfl⟩

theorem own_oneCell {w : World} {base : Nat} {e : TypeId} {size n : Nat} {v : Value} {xs : List Value} (h : w.ownsRow base e size v n xs) : v.oneCell' = true := by
  rcases h.2 with ⟨rfl, _⟩ | ⟨g, cap, cur, rfl, _⟩ <;> simp [Value.oneCell']

/-- A disk of the call's own memory, and a bool. -/
def DiskRes (w : World) (ds : List FileV) (ok : Bool) (e : Ending) (w' : World) : Prop := ∃ v, e = .returned (.tuple #[.agg #[v], .bool ok]) ∧ w'.ownsRow w.heap.size 49 3 v ds.length (ds.flatMap fcells) ∧ Below w.heap.size w w'

def lost (fs : List FileV) (left : List Int) : List FileV := if diskOk fs then lose fs left else []

theorem two_new (w : World) (X Y : Obj) : ((w.alloc X).alloc Y).drew.heap[w.heap.size + 1]? = some Y := by
  have h : ((w.alloc X).alloc Y).heap[(w.alloc X).heap.size]? = some Y := heap_alloc_new (w.alloc X) Y
  have e : (w.alloc X).heap.size = w.heap.size + 1 := by simp
  rw [e] at h
  exact h

theorem Row1.mid {w : World} {H d B : Nat} {wr : World} {v : Value} {j : Nat} {xs : List Value} (h : Row1 w H d B wr v j xs) {w1 w2 : World} (hb : Below wr.heap.size wr w1) (hg : w1.grownBy w2 v.ownBlock) :
    w2.cell? ⟨d, 0, none⟩ = some v ∧ w2.frozen? ⟨d, 0, none⟩ = false := by
  have hown := h.own
  have hlt := h.lt
  have hr : ∀ k, v.ownBlock = some k → B ≤ k := fun k hk => (hown.lt k hk).1
  have hc1 : w1.cell? ⟨d, 0, none⟩ = some v := (hb.cell (cell_lt h.cell)).trans h.cell
  have hf1 : w1.frozen? ⟨d, 0, none⟩ = false := (hb.frozen (cell_lt h.cell)).trans h.free
  exact ⟨grow_cell hg hc1 (fun k hk => by have := hr k hk; show d < k; omega), grow_frozen hg hc1 (fun k hk => by have := hr k hk; show d < k; omega) hf1⟩

theorem grow_cell' {w w' : World} {row : Option Nat} (h : w.grownBy w' row) {p : Addr} {u : Value} (hc : w.cell? p = some u) (hr : ∀ k, row = some k → k < p.block) : w'.cell? p = some u :=
  h.cell hc (fun e => by have := hr _ e.symm; omega)

theorem set_other {w : World} {p q : Addr} {u x : Value} (hc : w.cell? p = some u) (hne : q.block ≠ p.block) : (w.setCell q x).cell? p = some u := by
  have h1 := (Below.heap_setCell w q x p.block (fun e => hne e.symm))
  rw [World.cell?_of_block h1]
  exact hc

theorem below_two (w : World) (X Y : Obj) : Below w.heap.size w ((w.alloc X).alloc Y).drew := (((Below.refl w.heap.size w).alloc (Nat.le_refl _) X).alloc (by simp) Y).drew

set_option maxHeartbeats 4000000 in
theorem specLoseDisk_any (oa : Option Addr) (n cap : Nat) (fs : List FileV) (ob : Option Addr) (m cap' : Nat) (left : List Int) (w : World) (hat : FilesAt w oa n cap fs) (hw : ∀ f ∈ fs, Fine f) (hbt : IntsAt w ob m cap' left) (hm20 : m ≤ 1048576) :
    Calls Try.prog 27 #[.agg #[.slice oa n cap], .slice ob m cap'] w fun e w' => DiskRes w (lost fs left) (diskOk fs) e w' := by
  unfold lost
  have hb0 := ((Below.refl w.heap.size w).alloc (Nat.le_refl _) (.cells #[.slice oa n cap] 26)).alloc (by simp) (.cells #[.slice none 0 0] 26)
  have hn := hat.len
  have HN := hide hn
  have HAT := hide hat
  have HBT := hide hbt
  have HB0 := hide hb0
  have HW := hide hw
  clear hn hat hbt hb0 hw
  cases hok : diskOk fs with
  | false =>
    have HOK := hide hok
    clear hok
    go_enter Try.func27, Try.ntmps27
    go_wp2_with fail
    refine (specDiskOk_any oa n cap fs _ (HAT.out.below HB0.out) HW.out).mono ?_
    rw [HOK.out]
    rintro e w2 ⟨rfl, hb2⟩
    have k1 := hb2.cell (p := ⟨w.heap.size + 1, 0, none⟩) (by simp)
    have q1 := hb2.frozen (p := ⟨w.heap.size + 1, 0, none⟩) (by simp)
    go_wp2_with fail
    refine bodyPost_ret (v := .tuple #[.agg #[.slice none 0 0], .bool false]) (by simp [results, Try.results27, go_sem, k1, q1]) rfl ⟨_, rfl, World.ownsRow_nil _ _ _ _, ?_⟩
    exact (HB0.out.trans (hb2.mono (by simp; omega))).setCell (by simp) _
  | true =>
    have HOK := hide hok
    clear hok
    have hn30 : n ≤ 30 := by
      have h1 := HOK.out
      unfold diskOk at h1
      simp only [Bool.and_eq_true, decide_eq_true_eq] at h1
      rw [← HN.out]
      exact h1.1
    go_enter Try.func27, Try.ntmps27
    go_wp2_with fail
    refine (specDiskOk_any oa n cap fs _ (HAT.out.below HB0.out) HW.out).mono ?_
    rw [HOK.out]
    rintro e w2 ⟨rfl, hb2⟩
    have k0 : w2.cell? ⟨w.heap.size, 0, none⟩ = some (.slice oa n cap) := (hb2.cell (by simp; omega)).trans (by simp)
    have k1 : w2.cell? ⟨w.heap.size + 1, 0, none⟩ = some (.slice none 0 0) := (hb2.cell (by simp)).trans (by simp)
    have q1 : w2.frozen? ⟨w.heap.size + 1, 0, none⟩ = false := (hb2.frozen (by simp)).trans (by simp)
    have s2 : w.heap.size + 2 ≤ w2.heap.size := by have := hb2.size; simp at this; omega
    have B2 := hide (HB0.out.trans (hb2.mono (by simp; omega)))
    clear hb2
    go_wp2_with fail
    have hrow0 : Row1 w w.heap.size w2.heap.size (w2.heap.size + 1) (w2.alloc (.cells #[.slice none 0 0] 26)) (.slice none 0 0) 0 [] :=
      ⟨B2.out.alloc (by omega) _, by simp, by omega, by simp, by simp, World.ownsRow_nil _ _ _ _⟩
    have HR0 := hide hrow0
    clear hrow0
    go_loopw [7] (fun i wr => ∃ (j : Nat) (ov : Option Addr) (cv : Nat), i = .int .i64 (j : Int) ∧ j ≤ n ∧ Row1 w w.heap.size w2.heap.size (w2.heap.size + 1) wr (.slice ov j cv) j ((LF fs left j).flatMap fcells) ∧ Below (w.heap.size + 2) w2 wr) (fun i _ => n - (intOf i).toNat)
    case atStart => exact ⟨0, none, 0, rfl, Nat.zero_le _, HR0.out, (Below.refl _ _).alloc (by omega) _⟩
    case round =>
      obtain ⟨j, ov, cv, rfl, hj, hrow, hbel2⟩ := hrel
      have c0 : wr.cell? ⟨w.heap.size, 0, none⟩ = some (.slice oa n cap) := (hbel2.cell (by simp)).trans k0
      have HR := hide hrow
      have HB2 := hide hbel2
      clear hrow hbel2 HR0
      by_cases hlt : j < n
      · have j0 : (j : Int) < (n : Int) := by omega
        obtain ⟨f, b, q, hf, hidx, hb, e0, e1, e2⟩ := (HAT.out.below HR.out.bel).get Try.underlying24 infoIF j hlt
        have hfo := diskOk_mem HOK.out f (List.mem_of_getElem? hf)
        have HF := hide hf
        clear hf
        have hk := fileOk_kept hfo
        have hnt : f.name.length ≤ 8 ∧ f.text.length ≤ 20000 := by simp [fileOk, nameOk] at hfo; omega
        have hwn := hnt.1
        have hwt := hnt.2
        have d1 := HR.out.cell
        have d2 := HR.out.free
        have d3 : w2.heap.size < wr.heap.size := by have := HR.out.big; omega
        obtain ⟨T, hT⟩ : ∃ T : Int, left.getD j 0 = T := ⟨_, rfl⟩
        obtain ⟨L, hL⟩ : ∃ L : Nat, L = P5.leftOf f T := ⟨_, rfl⟩
        have hle := leftOf_le hfo T
        rw [← hL] at hle
        have hLm : (L : Int) = max (min T (f.text.length : Int)) f.kept := by rw [hL]; unfold P5.leftOf; omega
        have hsl := run_begin (P := Try.prog) Try.underlying9 f.text L hle
        have hle' : (L : Int) ≤ (f.text.length : Int) := by omega
        obtain ⟨X, hX⟩ : ∃ X, X = Obj.cells #[.string ⟨f.name.toArray⟩, .string ⟨f.text.toArray⟩, .int .i64 f.kept] 49 := ⟨_, rfl⟩
        have HT := hide hT
        have HL := hide hL
        clear hT hL
        go_upto_if 30 with fail
        go_cut [9] (fun s wx => s = .int .i64 T ∧ wx = wr.alloc (.cells #[.string ⟨f.name.toArray⟩, .string ⟨f.text.toArray⟩, .int .i64 f.kept] 49))
        case first =>
          by_cases hjm : j < m
          · have g1 : decide (j < m) = true := by simpa using hjm
            obtain ⟨z, b', q', hz, hidx', hb', z0, hwf⟩ := (HBT.out.below HR.out.bel).get Try.underlying28 infoI j hjm
            have hTz : z = T := by rw [← HT.out]; simp [List.getD_eq_getElem?_getD, hz]
            subst hTz
            go_wp2_with fail
            go_meet
            exact ⟨rfl, rfl⟩
          · have g1 : decide (j < m) = false := by simpa using hjm
            have hTz : T = 0 := by
              rw [← HT.out]
              have := HBT.out.len
              simp [List.getD_eq_getElem?_getD, List.getElem?_eq_none (show left.length ≤ j by omega)]
            subst hTz
            go_wp2_with fail
            go_meet
            exact ⟨rfl, rfl⟩
        case rest =>
          obtain ⟨rfl, rfl⟩ := hcut
          go_upto_if 39 with fail
          go_cut [9] (fun s wx => s = .int .i64 (min T (f.text.length : Int)) ∧ wx = wr.alloc (.cells #[.string ⟨f.name.toArray⟩, .string ⟨f.text.toArray⟩, .int .i64 f.kept] 49))
          case first =>
            by_cases ht : (f.text.length : Int) < T
            · have g1 : decide ((f.text.length : Int) < T) = true := by simpa using ht
              have HMIN := hide (show min T (f.text.length : Int) = (f.text.length : Int) by omega)
              go_wp2_with fail
              go_meet
              exact ⟨by rw [HMIN.out], rfl⟩
            · have g1 : decide ((f.text.length : Int) < T) = false := by simpa using ht
              have HMIN := hide (show min T (f.text.length : Int) = T by omega)
              go_wp2_with fail
              go_meet
              exact ⟨by rw [HMIN.out], rfl⟩
          case rest =>
            obtain ⟨rfl, rfl⟩ := hcut
            obtain ⟨M, hM⟩ : ∃ M, min T (f.text.length : Int) = M := ⟨_, rfl⟩
            rw [hM] at hLm ⊢
            go_upto_if 46 with fail
            go_cut [9] (fun s wx => s = .int .i64 (L : Int) ∧ wx = wr.alloc (.cells #[.string ⟨f.name.toArray⟩, .string ⟨f.text.toArray⟩, .int .i64 f.kept] 49))
            case first =>
              by_cases ht : M < f.kept
              · have g1 : decide (M < f.kept) = true := by simpa using ht
                have hmm : f.kept = (L : Int) := by omega
                have HMM := hide hmm
                clear hmm hLm
                go_wp2_with fail
                go_meet
                exact ⟨by rw [HMM.out], rfl⟩
              · have g1 : decide (M < f.kept) = false := by simpa using ht
                have hmm : M = (L : Int) := by omega
                have HMM := hide hmm
                clear hmm hLm hM
                go_wp2_with fail
                go_meet
                exact ⟨by rw [HMM.out], rfl⟩
            case rest =>
              obtain ⟨rfl, rfl⟩ := hcut
              have HLM := hide hLm
              clear hLm hM
              go_upto_region 15 with fail
              go_region_law (refine step_push3 (by rfl) _ _ 24 (by rfl) Try.underlying24 infoIFz (by rfl) (cs := #[.string ⟨f.name.toArray⟩, .string ⟨(f.text.take L).toArray⟩, .int .i64 (L : Int)]) (by rfl) (by exact own_below HR.out.own (below_two _ _ _)) (by rfl) (by rfl) (by exact two_new _ _ _) (by simp [Value.oneCell']) (by have := HR.out.big; simp; omega) (by unfold maxLen; omega) (by omega) ?_; intro v' w3 ho3 hg3; obtain ⟨ov', cv', rfl⟩ := own_form ho3; obtain ⟨d4, f4⟩ := HR.out.mid (below_two _ _ _) hg3)
              all_goals
                have hrow' : Row1 w w.heap.size w2.heap.size (w2.heap.size + 1) (w3.setCell ⟨w2.heap.size, 0, none⟩ (.slice ov' (j + 1) cv')) (.slice ov' (j + 1) cv') (j + 1) ((LF fs left (j + 1)).flatMap fcells) := by
                  have hst : (LF fs left (j + 1)).flatMap fcells = (LF fs left j).flatMap fcells ++ [.string ⟨f.name.toArray⟩, .string ⟨(f.text.take L).toArray⟩, .int .i64 (L : Int)] := by
                    rw [LF_step HF.out, HT.out]
                    simp only [loseF, fcells, ← HL.out]
                  rw [hst]
                  exact HR.out.next (below_two _ _ _) ho3 hg3
                have hbel' : Below (w.heap.size + 2) w2 (w3.setCell ⟨w2.heap.size, 0, none⟩ (.slice ov' (j + 1) cv')) :=
                  ((HB2.out.trans ((below_two wr _ _).mono (by have := HB2.out.size; omega))).grown hg3 (by have := HB2.out.size; simp; omega) (fun k hk => by have := (HR.out.own.lt k hk).1; omega)).setCell (by simp; omega) _
                clear ho3 hg3 d4 f4
                go_wp2_with fail
                go_roundw
                case rel => exact ⟨j + 1, ov', cv', by go_num, by omega, hrow', hbel'⟩
                case measure => simp [intOf]; omega
      · obtain rfl : j = n := by omega
        have c1 : wr.cell? ⟨w.heap.size + 1, 0, none⟩ = some (.slice none 0 0) := (HB2.out.cell (by simp)).trans k1
        have r1 : wr.frozen? ⟨w.heap.size + 1, 0, none⟩ = false := (HB2.out.frozen (by simp)).trans q1
        have d1 := HR.out.cell
        have HL := hide (show LF fs left j = lose fs left by rw [← HN.out]; exact LF_all fs left)
        go_wp2_with fail
        refine bodyPost_ret (v := .tuple #[.agg #[.slice ov j cv], .bool true]) (by simp [results, Try.results27, go_sem, c1, r1]) rfl ⟨.slice ov j cv, rfl, ?_, HR.out.bel.setCell (by simp) _⟩
        have h1 := own_setCell HR.out.own (p := ⟨w.heap.size + 1, 0, none⟩) (by simp; omega) (.slice ov j cv)
        rw [HL.out] at h1
        have h2 : (lose fs left).length = j := by rw [lose_length, HN.out]
        show World.ownsRow _ _ _ _ _ (lose fs left).length ((lose fs left).flatMap fcells)
        rw [h2]
        exact own_base h1 (by omega)

end Go.Proofs.Ytdcdlfkbdeogeaa
