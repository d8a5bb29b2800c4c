/-
  The law FnTurned, walked out of the contracts.
-/
import Derived.Test.YtgblmnlomcfjhaaDoorLawSums
import Derived.Test.YtgblmnlomcfjhaaDoorDraw3
import Derived.BigRegion
import Derived.RegionTactic
namespace Go.Proofs.YtgblmnlomcfjhaaDoor
open Go.RowKit P1 K P3
set_option linter.unusedVariables false

/-- Bytes in a row of their own that may be written. -/
def BytesAt (w : World) (g : Nat) (l : List UInt8) : Prop := ∀ (j : Nat) (hj : j < l.length), w.cell? ⟨g, j, none⟩ = some (.int .u8 (l[j].toNat : Int)) ∧ w.frozen? ⟨g, j, none⟩ = false

theorem bytesAt_new (w : World) (s : ByteArray) (cap : Nat) (e : TypeId) : BytesAt (w.alloc (.cells (bytesRow s cap) e ((bytesRow s cap).size, (bytesRow s cap).size + 1))) w.heap.size (bl s) := by
  intro j hj
  rw [bl_length] at hj
  have hn := heap_alloc_new w (.cells (bytesRow s cap) e ((bytesRow s cap).size, (bytesRow s cap).size + 1))
  have hjr : j < (bytesRow s cap).size := by
    have : s.data.size = s.size := rfl
    simp [bytesRow]; omega
  constructor
  · rw [cell_of_row _ _ j _ _ _ hn]
    have hd : j < s.data.size := hj
    unfold bytesRow
    rw [Array.getElem?_append_left (by simpa using hd), Array.getElem?_map, Array.getElem?_eq_getElem hd]
    rfl
  · unfold World.frozen?
    rw [hn]
    simp
    omega

theorem bytesAt_set {w : World} {g : Nat} {l : List UInt8} (h : BytesAt w g l) (i : Nat) (c : UInt8) : BytesAt (w.setCell ⟨g, i, none⟩ (.int .u8 (c.toNat : Int))) g (l.set i c) := by
  intro j hj
  rw [List.length_set] at hj
  obtain ⟨h1, h2⟩ := h j hj
  refine ⟨?_, by rw [World.frozen?_setCell]; exact h2⟩
  by_cases e : i = j
  · subst e
    simp only [List.getElem_set_self]
    exact World.cell?_setCell_same _ _ _ h1
  · rw [List.getElem_set_ne e, World.cell?_setCell_other _ _ _ _ (by intro h; cases h; exact e rfl)]
    exact h1

theorem bytesAt_below {w w' : World} {g : Nat} {l : List UInt8} (h : BytesAt w g l) (h1 : w'.heap[g]? = w.heap[g]?) : BytesAt w' g l := by
  intro j hj
  obtain ⟨a, b⟩ := h j hj
  exact ⟨by rw [World.cell?_of_block (w := w) (w' := w') (a := ⟨g, j, none⟩) h1]; exact a, by rw [World.frozen?_of_block (w := w) (w' := w') (a := ⟨g, j, none⟩) h1]; exact b⟩

theorem run_string_bytesAt {w : World} {g cap n : Nat} {l : List UInt8} (h : BytesAt w g l) (hn : l.length = n) :
    (convert 22 9 (.slice (some ⟨g, 0, none⟩) n cap)).run Tryd.prog w = .ok (.string ⟨l.toArray⟩) w := by
  subst hn
  refine run_convert_bytes_back w 22 9 5 ⟨g, 0, none⟩ cap l Tryd.underlying22 Tryd.underlying5 Tryd.underlying9 ?_
  intro j hj
  have : (⟨g, 0, none⟩ : Addr).add j = ⟨g, j, none⟩ := by unfold Addr.add; split <;> simp_all
  rw [this]
  exact (h j hj).1

theorem xor_ne (a d : Nat) (h : d ≠ 0) : a ^^^ d ≠ a := by
  intro e
  apply h
  have h1 : a ^^^ (a ^^^ d) = a ^^^ a := by rw [e]
  rw [← Nat.xor_assoc, Nat.xor_self, Nat.zero_xor] at h1
  exact h1

/-- A byte turned by a number in 1 .. 255. -/
def turned (b : UInt8) (d : Nat) : UInt8 := UInt8.ofNat (b.toNat ^^^ d)

theorem turned_val (b : UInt8) (d : Nat) (hd : d < 256) : bits .xor .u8 (b.toNat : Int) (d : Int) = ((turned b d).toNat : Int) := by
  rw [u8_xor_nat b.toNat d b.toNat_lt hd, turned, toNat_ofNat_small _ (Nat.xor_lt_two_pow (n := 8) b.toNat_lt hd)]

theorem turned_ne (b : UInt8) (d : Nat) (h0 : d ≠ 0) (hd : d < 256) : turned b d ≠ b := by
  intro e
  have h1 := congrArg UInt8.toNat e
  rw [turned, toNat_ofNat_small _ (Nat.xor_lt_two_pow (n := 8) b.toNat_lt hd)] at h1
  exact xor_ne _ _ h0 h1

set_option maxHeartbeats 4000000 in
theorem FnTurned_walk (a0 : Option Addr) (len0 cap0 : Nat) (z0 : List Int) (w : World) (w0 : IsRow .u8 w a0 len0 cap0 z0) (hL : laidMetH Tryd.prog Rows.fnTurnedRow.laid w) :
    Calls Tryd.prog 4 #[.slice a0 len0 cap0] w fun e w' => e = .returned (.bool true) ∧ Below w.heap.size w w' := by
  have HT := hide (sums_of_laid (by kernel_rfl) hL)
  have HC := hide (codeAt_of_row w0)
  clear hL w0
  by_cases hbig : 1048576 < len0
  · go_enter Tryd.func4, Tryd.ntmps4
    go_wp2_with (go_at_call 9; refine (big_yes a0 len0 cap0 hbig _).mono ?_; rintro e w1 ⟨rfl, rfl⟩)
    go_ret
    exact ⟨rfl, Below.refl _ _⟩
  · have hlen : len0 ≤ 1048576 := by omega
    go_enter Tryd.func4, Tryd.ntmps4
    go_wp2_with fail
    refine (big_no a0 len0 cap0 hlen _).mono ?_
    rintro e w1 ⟨rfl, rfl⟩
    go_wp2_with fail
    refine (drawSumOf_any w.heap.size a0 len0 cap0 _ hlen (Nat.le_refl _) HC.out).mono ?_
    rintro e w1 ⟨l, hl, rfl, hb1⟩
    go_wp2_with fail
    refine (drawPlaces_any w.heap.size a0 len0 cap0 _ hlen hb1.size (HC.out.below hb1)).mono ?_
    rintro e w2 ⟨ps, v, hps, hpx, rfl, hown2, hb2'⟩
    have hb2 : Below w.heap.size w w2 := hb1.trans (hb2'.mono hb1.size)
    obtain ⟨hl12, hnil | ⟨g, capP, cur, rfl, hgB, hgh, hcapP, hmaxP, hcurS, htake⟩⟩ := hown2
    · exact absurd hnil.2 (by decide)
    obtain ⟨q0, ps1, rfl⟩ : ∃ q0 ps1, ps = q0 :: ps1 := by
      cases ps with
      | nil => simp at hps
      | cons x y => exact ⟨x, y, rfl⟩
    obtain ⟨q1, ps2, rfl⟩ : ∃ q1 ps2, ps1 = q1 :: ps2 := by
      cases ps1 with
      | nil => simp at hps
      | cons x y => exact ⟨x, y, rfl⟩
    have hq0 : q0 < 10000 := hpx q0 (by simp)
    have hq1 : q1 < 10000 := hpx q1 (by simp)
    have hown2' : w2.ownsRow w1.heap.size 3 1 (.slice (some ⟨g, 0, none⟩) 12 capP) 12 (I64 (q0 :: q1 :: ps2)) := ⟨hl12, .inr ⟨g, capP, cur, rfl, hgB, hgh, hcapP, hmaxP, hcurS, htake⟩⟩
    have HO2 := hide hown2'
    have hgw : w.heap.size ≤ g := Nat.le_trans hb1.size hgB
    clear hown2' hl12 hgh hcurS htake hps hpx hmaxP
    have hls : (⟨l.toArray⟩ : ByteArray).size ≤ 281474976710656 := by show l.length ≤ _; omega
    have V := hide (sealVal_yes (l := l) (by omega))
    have U := hide (unseal_seal l (by omega))
    have hsl := sealL_length l
    have hTs : (⟨(sealL l).toArray⟩ : ByteArray).size ≤ 281474976710656 := by show (sealL l).length ≤ _; omega
    go_wp2_with fail
    refine (implSealed_any _ hls _ (tab_below HT.out hb2)).mono ?_
    rw [show bl (⟨l.toArray⟩ : ByteArray) = l from rfl, V.out]
    rintro e w3 ⟨rfl, hb3'⟩
    have hb3 : Below w.heap.size w w3 := hb2.trans (hb3'.mono hb2.size)
    have HO3 := hide (own_below HO2.out hb3')
    clear HO2
    go_wp2_with fail
    refine (implUnsealed_any _ hTs _ (tab_below HT.out hb3)).mono ?_
    rw [show bl (⟨(sealL l).toArray⟩ : ByteArray) = sealL l from rfl, U.out]
    unfold unsealVal
    rintro e w4 ⟨rfl, hb4'⟩
    have hb4 : Below w.heap.size w w4 := hb3.trans (hb4'.mono hb3.size)
    have HO4 := hide (own_below HO3.out hb4')
    clear HO3
    have hsz1 : (⟨(sealL l).toArray⟩ : ByteArray).size = l.length + 4 := hsl
    have hsz2 : (⟨l.toArray⟩ : ByteArray).size = l.length := rfl
    have q : (l == l) = true := by simp
    obtain ⟨C, w5, hconv, hy5, hb5'⟩ : ∃ C w5, (convert 9 22 (.string ⟨(sealL l).toArray⟩)).run Tryd.prog w4 = .ok (.slice (some ⟨w4.heap.size, 0, none⟩) (l.length + 4) C) w5 ∧ BytesAt w5 w4.heap.size (sealL l) ∧ Below w4.heap.size w4 w5 := by
      have h := run_bytes_of_string (P := Tryd.prog) w4 9 22 5 ⟨(sealL l).toArray⟩ Tryd.underlying9 Tryd.underlying22 Tryd.underlying5
      rw [hsz1] at h
      exact ⟨_, _, h, bytesAt_new w4.drew ⟨(sealL l).toArray⟩ _ _, (below_eq (Below.refl _ _) rfl rfl rfl rfl : Below w4.heap.size w4 w4.drew).alloc (Nat.le_refl _) _⟩
    have hb5 : Below w.heap.size w w5 := hb4.trans (hb5'.mono hb4.size)
    have hown5 := own_below HO4.out hb5'
    have p0 : w5.cell? ⟨g, 0, none⟩ = some (.int .i64 (q0 : Int)) := hown5.cells (g := g) rfl 0 _ rfl
    have p1 : w5.cell? ⟨g, 1, none⟩ = some (.int .i64 (q1 : Int)) := hown5.cells (g := g) rfl 1 _ rfl
    have HG := hide (show g < w4.heap.size from (HO4.out.lt g rfl).2)
    clear hown5 HO4
    obtain ⟨i, hi⟩ : ∃ i, q0 % (l.length + 4) = i := ⟨_, rfl⟩
    have hil : i < l.length + 4 := by rw [← hi]; exact Nat.mod_lt _ (by omega)
    have ei : (q0 : Int) % ((l.length : Int) + 4) = (i : Int) := by rw [← hi]; simp
    obtain ⟨d, hd⟩ : ∃ d, 1 + q1 % 255 = d := ⟨_, rfl⟩
    have hd0 : 1 ≤ d := by omega
    have hd1 : d ≤ 255 := by omega
    have ed : 1 + (q1 : Int) % 255 = (d : Int) := by omega
    have hib : i < (sealL l).length := by omega
    obtain ⟨hy1, hy2⟩ := hy5 i hib
    have NE := hide (turned_ne (sealL l)[i] d (by omega) (by omega))
    have TV := turned_val (sealL l)[i] d (by omega)
    obtain ⟨bi, hbi⟩ : ∃ bi, (sealL l)[i] = bi := ⟨_, rfl⟩
    rw [hbi] at hy1 NE TV
    have HBI := hide hbi
    clear hbi hi hd
    have hbt := bi.toNat_lt
    have HY := hide hy5
    clear hy5
    go_wp2_with fail
    rw [ei]
    have hw1 : IntKind.i64.wrap (1 + (q1 : Int) % 255) = (d : Int) := by rw [ed]; exact IntWalk.i64_in _ ⟨by omega, by omega⟩
    have hw2 : (q1 : Int).tmod 255 = (q1 : Int) % 255 := Int.tmod_eq_emod_of_nonneg (by omega)
    have hw3 : IntKind.u8.wrap (d : Int) = (d : Int) := by rw [IntKind.wrap_u8]; omega
    have hgl : g < w4.heap.size := HG.out
    have hne : w4.heap.size ≠ g := by omega
    have b0 : (0 : Int) ≤ (i : Int) := by omega
    have b1 : (i : Int) < (l.length : Int) + 4 := by omega
    have b2 : (i : Int) < ((l.length + 4 : Nat) : Int) := by omega
    go_region
    have hy6 := bytesAt_set HY.out i (turned bi d)
    have hb6 : Below w.heap.size w (w5.setCell ⟨w4.heap.size, i, none⟩ (.int .u8 ((turned bi d).toNat : Int))) := hb5.setCell hb4.size _
    obtain ⟨w6, hw6⟩ : ∃ w6, (w5.setCell ⟨w4.heap.size, i, none⟩ (.int .u8 ((turned bi d).toNat : Int))).drew = w6 := ⟨_, rfl⟩
    have hb6' : Below w.heap.size w w6 := by rw [← hw6]; exact hb6.drew
    have hy6' : BytesAt w6 w4.heap.size ((sealL l).set i (turned bi d)) := bytesAt_below hy6 (by rw [← hw6]; rfl)
    rw [hw6]
    have UN := hide (unseal_turned l i hib (turned bi d) (by rw [HBI.out]; exact NE.out))
    have hlen6 : ((sealL l).set i (turned bi d)).length = l.length + 4 := by rw [List.length_set, hsl]
    obtain ⟨X, hX⟩ : ∃ X, (sealL l).set i (turned bi d) = X := ⟨_, rfl⟩
    rw [hX] at hy6' UN hlen6
    have hconv6 := run_string_bytesAt (cap := C) hy6' hlen6
    have hXs : (⟨X.toArray⟩ : ByteArray).size ≤ 281474976710656 := by show X.length ≤ _; omega
    clear hX hw6 hy6 hb6 hy6' hy1 hy2 HY HBI NE TV hconv p0 p1 ei ed b0 b1 b2 hne hgl hw1 hw2 hw3
    go_wp2_with fail
    refine (implUnsealed_any _ hXs _ (tab_below HT.out hb6')).mono ?_
    rw [show bl (⟨X.toArray⟩ : ByteArray) = X from rfl, UN.out]
    unfold unsealVal
    rintro e w7 ⟨rfl, hb7'⟩
    have hb7 : Below w.heap.size w w7 := hb6'.trans (hb7'.mono hb6'.size)
    have HT7 := hide (tab_below HT.out hb7)
    have E1 := hide (show sumOfL (l ++ [120]) = sumL (sumOfL l) [120] from sumL_append _ _ _)
    have hm := sumOfL_lt l
    obtain ⟨m, hM⟩ : ∃ m, sumOfL l = m := ⟨_, rfl⟩
    have HM := hide hM
    rw [hM] at hm E1
    clear hM
    obtain ⟨Z, hcat⟩ : ∃ Z : ByteArray, (⟨l.toArray⟩ : ByteArray) ++ (⟨#[120]⟩ : ByteArray) = Z := ⟨_, rfl⟩
    have hZ := hide (show bl Z = l ++ [120] by rw [← hcat]; simp)
    have hxs : (⟨#[120]⟩ : ByteArray).size ≤ 281474976710656 := by decide
    have hx1 : (⟨#[120]⟩ : ByteArray).size = 1 := rfl
    have hcs : Z.size ≤ 281474976710656 := by rw [← bl_length, hZ.out]; simp; omega
    obtain ⟨T, hT⟩ : ∃ T, sumL m [120] = T := ⟨_, rfl⟩
    have HTT := hide hT
    clear hT
    go_wp2_with fail
    refine (implSumOf_any ⟨l.toArray⟩ hls _ HT7.out).mono ?_
    rw [show bl (⟨l.toArray⟩ : ByteArray) = l from rfl, HM.out]
    rintro e w8 ⟨rfl, rfl⟩
    go_wp2_with fail
    refine (implSumMore_any m hm ⟨#[120]⟩ hxs _ HT7.out).mono ?_
    rw [show bl (⟨#[120]⟩ : ByteArray) = [120] from rfl, HTT.out]
    rintro e w8 ⟨rfl, rfl⟩
    go_wp2_with fail
    refine (implSumOf_any Z hcs _ HT7.out).mono ?_
    rw [hZ.out, E1.out, HTT.out]
    rintro e w8 ⟨rfl, rfl⟩
    go_wp2_with fail
    go_ret
    exact ⟨rfl, hb7⟩

end Go.Proofs.YtgblmnlomcfjhaaDoor
