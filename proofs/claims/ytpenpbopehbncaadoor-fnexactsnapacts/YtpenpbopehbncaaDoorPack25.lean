/-
  Snapshots: sized, copied, compared, marked by the laws.
  A snapshot in a variable, its nodes in a row of the call's own: what keeps it; what is read is small.
-/
import Derived.Test.YtpenpbopehbncaaDoorSnap2
import Derived.Test.YtpenpbopehbncaaDoorPack20
import Derived.Test.YtpenpbopehbncaaDoorFlat2
import Derived.Test.YtpenpbopehbncaaDoorWalk8f
namespace Go.Proofs.YtpenpbopehbncaaDoor
open Go.RowKit P1 P9 K
set_option linter.unusedVariables false
set_option linter.unusedSimpArgs false

/-- What is left of a bound behind a snapshot of n nodes and m bytes. -/
def szS (n m : Nat) (left : Int) : Int := if left < (n : Int) + (m : Int) then -1 else left - n - m

set_option maxHeartbeats 1000000 in
theorem szIntS_any (oa : Option Addr) (n cap : Nat) (hn : n ≤ maxLen) (left : Int) (h0 : 0 ≤ left) (h1 : left ≤ 1048576) (w : World) :
    Calls Tryd.prog 37 #[.slice oa n cap, .int .i64 left] w fun e w' => e = .returned (.int .i64 (if left - n < 0 then -1 else left - n)) ∧ w = w' := by
  unfold maxLen at hn
  by_cases c : left - n < 0
  · rw [if_pos c]
    go_enter Tryd.func37, Tryd.ntmps37
    go_wp2_with fail
    go_ret
    exact ⟨rfl, rfl⟩
  · rw [if_neg c]
    go_enter Tryd.func37, Tryd.ntmps37
    go_wp2_with fail
    go_ret
    exact ⟨rfl, rfl⟩

set_option maxHeartbeats 1000000 in
theorem szSnap_any (i t : Int) (oa : Option Addr) (n cap : Nat) (b : List UInt8) (hn : n ≤ maxLen) (hb : b.length ≤ maxLen) (left : Int) (h0 : 0 ≤ left) (h1 : left ≤ 1048576) (w : World) :
    Calls Tryd.prog 11 #[snval i t (.slice oa n cap) b, .int .i64 left] w fun e w' => e = .returned (.int .i64 (szS n b.length left)) ∧ Below w.heap.size w w' := by
  have HB0 := hide ((Below.refl w.heap.size w).alloc (Nat.le_refl _) (.cells #[.int .i64 i, .int .i64 t, .slice oa n cap, .string ⟨b.toArray⟩] 26))
  have HS := hide (szIntS_any oa n cap hn left h0 h1)
  unfold maxLen at hn hb
  unfold szS
  by_cases c : left - n < 0
  · rw [if_pos c] at HS
    rw [if_pos (by omega)]
    clear c
    go_enter Tryd.func11, Tryd.ntmps11
    go_wp2_with fail
    refine (HS.out _).mono ?_
    rintro e w1 ⟨rfl, rfl⟩
    go_wp2_with fail
    go_ret
    exact ⟨rfl, HB0.out⟩
  · rw [if_neg c] at HS
    have g0 : ¬ left - (n : Int) < 0 := c
    by_cases d : left < (n : Int) + (b.length : Int)
    · rw [if_pos d]
      have g1 : left - (n : Int) - (b.length : Int) < 0 := by omega
      go_enter Tryd.func11, Tryd.ntmps11
      go_wp2_with fail
      refine (HS.out _).mono ?_
      rintro e w1 ⟨rfl, rfl⟩
      go_wp2_with fail
      go_ret
      exact ⟨rfl, HB0.out⟩
    · rw [if_neg d]
      have g1 : ¬ left - (n : Int) - (b.length : Int) < 0 := by omega
      go_enter Tryd.func11, Tryd.ntmps11
      go_wp2_with fail
      refine (HS.out _).mono ?_
      rintro e w1 ⟨rfl, rfl⟩
      go_wp2_with fail
      go_ret
      exact ⟨rfl, HB0.out⟩

/-- What is made of a snapshot's copy: the row is the call's own. -/
def ToSnap (w : World) (i t : Int) (n : Nat) (zs : List Int) (b : List UInt8) (e : Ending) (w' : World) : Prop :=
  ∃ g, e = .returned (snval i t (.slice (some ⟨g, 0, none⟩) n n) b) ∧ w'.ownsRow w.heap.size 3 1 (.slice (some ⟨g, 0, none⟩) n n) n (zs.map icell) ∧ Below w.heap.size w w'

set_option maxHeartbeats 1000000 in
theorem toSnap_any (i t : Int) (oa : Option Addr) (n cap : Nat) (zs : List Int) (b : List UInt8) (hn20 : n ≤ 1048576) (w : World) (hat : IntsAt w oa n cap zs) :
    Calls Tryd.prog 13 #[snval i t (.slice oa n cap) b] w fun e w' => ToSnap w i t n zs b e w' := by
  have hb1 := (((Below.refl w.heap.size w).alloc (Nat.le_refl _) (.cells #[.int .i64 i, .int .i64 t, .slice oa n cap, .string ⟨b.toArray⟩] 26)).alloc (by simp) (.cells #[.int .i64 0, .int .i64 0, .slice none 0 0, .string ⟨#[]⟩] 30)).alloc (by simp; omega) (.cells #[.int .i64 i, .int .i64 t, .slice none 0 0, .string ⟨#[]⟩] 30)
  have HTO := hide (toIntS_any oa n cap zs hn20 _ (hat.below hb1))
  have HB1 := hide hb1
  clear hat hb1
  go_enter Tryd.func13, Tryd.ntmps13
  go_wp2_with fail
  refine HTO.out.mono ?_
  rintro e w2 ⟨g, rfl, hown, hb2⟩
  have k0 := hb2.cell (p := ⟨w.heap.size + 1 + 1, 0, none⟩) (by simp)
  have k1 := hb2.cell (p := ⟨w.heap.size + 1 + 1, 1, none⟩) (by simp)
  have k2 := hb2.cell (p := ⟨w.heap.size + 1 + 1, 2, none⟩) (by simp)
  have k3 := hb2.cell (p := ⟨w.heap.size + 1 + 1, 3, none⟩) (by simp)
  have q2 := hb2.frozen (p := ⟨w.heap.size + 1 + 1, 2, none⟩) (by simp)
  have q3 := hb2.frozen (p := ⟨w.heap.size + 1 + 1, 3, none⟩) (by simp)
  have r0 := hb2.cell (p := ⟨w.heap.size + 1, 0, none⟩) (by simp)
  have r1 := hb2.cell (p := ⟨w.heap.size + 1, 1, none⟩) (by simp)
  have r2 := hb2.cell (p := ⟨w.heap.size + 1, 2, none⟩) (by simp)
  have r3 := hb2.cell (p := ⟨w.heap.size + 1, 3, none⟩) (by simp)
  have t0 := hb2.frozen (p := ⟨w.heap.size + 1, 0, none⟩) (by simp)
  have t1 := hb2.frozen (p := ⟨w.heap.size + 1, 1, none⟩) (by simp)
  have t2 := hb2.frozen (p := ⟨w.heap.size + 1, 2, none⟩) (by simp)
  have t3 := hb2.frozen (p := ⟨w.heap.size + 1, 3, none⟩) (by simp)
  have p3 := hb2.cell (p := ⟨w.heap.size, 3, none⟩) (by simp; omega)
  have HO := hide hown
  have HB2 := hide hb2
  clear hown hb2
  go_wp2_with fail
  refine bodyPost_ret (v := snval i t (.slice (some ⟨g, 0, none⟩) n n) b) (by simp [results, Tryd.results13, go_sem, k0, k1, k2, k3, q2, q3, r0, r1, r2, r3, t0, t1, t2, t3, p3]) rfl ⟨g, rfl, ?_, ?_⟩
  · refine own_base (base := w.heap.size + 1 + 1 + 1) ?_ (by omega)
    have := HO.out
    simp at this
    repeat (refine own_setCell ?_ (by simp <;> omega) _)
    exact this
  · repeat (refine Below.setCell ?_ (by simp <;> omega) _)
    exact HB1.out.trans (HB2.out.mono (by simp; omega))

set_option maxHeartbeats 1000000 in
theorem eqSnap_same (i t : Int) (oa : Option Addr) (n cap : Nat) (ob : Option Addr) (cap' : Nat) (zs : List Int) (b : List UInt8) (hn20 : n ≤ 1048576) (w : World) (hat : IntsAt w oa n cap zs) (hbt : IntsAt w ob n cap' zs) :
    Calls Tryd.prog 15 #[snval i t (.slice oa n cap) b, snval i t (.slice ob n cap') b] w fun e w' => e = .returned (.bool true) ∧ Below w.heap.size w w' := by
  have hb0 := ((Below.refl w.heap.size w).alloc (Nat.le_refl _) (.cells #[.int .i64 i, .int .i64 t, .slice oa n cap, .string ⟨b.toArray⟩] 30)).alloc (by simp) (.cells #[.int .i64 i, .int .i64 t, .slice ob n cap', .string ⟨b.toArray⟩] 30)
  have HE := hide (eqIntS_same oa n cap ob cap' zs hn20 _ (hat.below hb0) (hbt.below hb0))
  have HB0 := hide hb0
  clear hat hbt hb0
  have L1 := hide (SV.new w i t (.slice oa n cap) b 30)
  have L2 := hide (SV.new (w.alloc (.cells #[.int .i64 i, .int .i64 t, .slice oa n cap, .string ⟨b.toArray⟩] 30)) i t (.slice ob n cap') b 30)
  go_enter Tryd.func15, Tryd.ntmps15
  go_wp2_with fail
  refine HE.out.mono ?_
  rintro e w1 ⟨rfl, hb1⟩
  have p3 := hb1.cell (p := ⟨w.heap.size, 3, none⟩) (by simp; omega)
  have q3 := hb1.cell (p := ⟨w.heap.size + 1, 3, none⟩) (by simp)
  go_wp2_with fail
  go_ret
  exact ⟨rfl, HB0.out.trans (hb1.mono (by simp; omega))⟩

set_option maxHeartbeats 1000000 in
theorem markIntS_v (v : Value) (n base k : Nat) (hn : n ≤ 1048576) (hk : k ≤ 1000000000) (w : World) (xs : List Value) (hown : w.ownsRow base 3 1 v n xs) :
    Calls Tryd.prog 54 #[v, .int .i64 (k : Int)] w fun e w' => e = .returned (.int .i64 ((k + n : Nat) : Int)) ∧ w'.ownsRow base 3 1 v n ((marksI k n).map icell) ∧ w.grownBy w' v.ownBlock := by
  rcases hown.2 with ⟨rfl, rfl⟩ | ⟨g, cap, cur, rfl, hg⟩
  · have HO := hide (World.ownsRow_nil w base 3 1)
    go_enter Tryd.func54, Tryd.ntmps54
    go_wp2_with fail
    go_loopw [1, 5] (fun x i wr => x = .int .i64 (k : Int) ∧ i = .int .i64 0 ∧ w = wr) (fun _ i _ => 0)
    case atStart => exact ⟨rfl, rfl, rfl⟩
    case round =>
      obtain ⟨rfl, rfl, rfl⟩ := hrel
      go_wp2_with fail
      go_ret
      exact ⟨by go_num, by simpa [marksI] using HO.out, World.grownBy.refl _ _⟩
  · exact markIntS_own g n cap base k hn hk w xs hown

set_option maxHeartbeats 1000000 in
theorem markSnap_any (i t : Int) (v : Value) (b : List UInt8) (n base k : Nat) (hn : n ≤ 1048576) (hk : k ≤ 1000000) (w : World) (xs : List Value) (hown : w.ownsRow base 3 1 v n xs) :
    Calls Tryd.prog 18 #[snval i t v b, .int .i64 (k : Int)] w fun e w' => e = .returned (.int .i64 ((k + n : Nat) : Int)) ∧ w'.ownsRow base 3 1 v n ((marksI k n).map icell) ∧ w.grownBy w' v.ownBlock := by
  obtain ⟨oa, cap, hv⟩ : ∃ oa cap, v = .slice oa n cap := by
    rcases hown.2 with ⟨rfl, rfl⟩ | ⟨g, cap, cur, rfl, hg⟩
    · exact ⟨_, _, rfl⟩
    · exact ⟨_, _, rfl⟩
  subst hv
  have HM := hide (markIntS_v _ n base k hn (by omega) _ xs (hown.alloc (.cells #[.int .i64 i, .int .i64 t, .slice oa n cap, .string ⟨b.toArray⟩] 30)))
  clear hown
  go_enter Tryd.func18, Tryd.ntmps18
  go_wp2_with fail
  refine HM.out.mono ?_
  rintro e w2 ⟨rfl, ho2, hg2⟩
  have HO2 := hide ho2
  have HG2 := hide hg2
  clear ho2 hg2
  go_wp2_with fail
  go_ret
  exact ⟨by go_num, HO2.out, grown_trans (World.grownBy_alloc _ _ _) HG2.out⟩

set_option maxHeartbeats 1000000 in
theorem heldSnap_any (i t : Int) (oa : Option Addr) (b : List UInt8) (n cap k : Nat) (hn : n ≤ 1048576) (hk : k ≤ 1000000) (w : World) (hat : IntsAt w oa n cap (marksI k n)) :
    Calls Tryd.prog 19 #[snval i t (.slice oa n cap) b, .int .i64 (k : Int)] w fun e w' => e = .returned (.int .i64 ((k + n : Nat) : Int)) ∧ Below w.heap.size w w' := by
  have hb0 := (Below.refl w.heap.size w).alloc (Nat.le_refl _) (.cells #[.int .i64 i, .int .i64 t, .slice oa n cap, .string ⟨b.toArray⟩] 30)
  have HH := hide (heldIntS_own oa n cap k hn (by omega) _ (hat.below hb0))
  have HB0 := hide hb0
  clear hat hb0
  have g : ¬ ((k + n : Nat) : Int) < 0 := by omega
  go_enter Tryd.func19, Tryd.ntmps19
  go_wp2_with fail
  refine HH.out.mono ?_
  rintro e w1 ⟨rfl, hb1⟩
  go_wp2_with fail
  go_ret
  exact ⟨by go_num, HB0.out.trans (hb1.mono (by simp))⟩

end Go.Proofs.YtpenpbopehbncaaDoor

namespace Go.Proofs.YtpenpbopehbncaaDoor
open Go.RowKit P1 P3 P9 P11 K
set_option linter.unusedVariables false
set_option linter.unusedSimpArgs false

/-- A variable at block b that holds a snapshot whose nodes lie in a row from block 'base' on, ahead of block 'top'. -/
structure KS (w : World) (b base top : Nat) (i t : Int) (v : Value) (s : List UInt8) (m : Nat) (zs : List Int) : Prop where
  blk : SB w b i t v s
  own : w.ownsRow base 3 1 v m (zs.map icell)
  ahead : ∀ g, v.ownBlock = some g → base ≤ g ∧ g < top

section
variable {w w' : World} {b base top : Nat} {i t : Int} {v : Value} {s : List UInt8} {m : Nat} {zs : List Int}

theorem KS.new (ho : w.ownsRow base 3 1 v m (zs.map icell)) : KS (w.alloc (.cells (sncells i t v s) 30)) w.heap.size base w.heap.size i t v s m zs :=
  ⟨heap_alloc_new _ _, ho.alloc _, ho.lt⟩
theorem KS.on (h : KS w b base top i t v s m zs) (hb : Below w.heap.size w w') : KS w' b base top i t v s m zs :=
  ⟨h.blk.on hb h.blk.lt, own_below h.own hb, h.ahead⟩
theorem KS.lt (h : KS w b base top i t v s m zs) : b < w.heap.size := h.blk.lt

theorem sb_row {base2 : Nat} {e2 : TypeId} {k2 : Nat} {v2 : Value} {n2 : Nat} {xs2 : List Value} (hj : SB w b i t v s) (ho : w.ownsRow base2 e2 k2 v2 n2 xs2) (hne : e2 ≠ 30) : v2.ownBlock ≠ some b := by
  intro e1
  rcases ho.2 with ⟨rfl, -⟩ | ⟨g, cap, cur, rfl, -, hgb, -⟩
  · cases e1
  · cases e1
    unfold SB at hj
    rw [hgb] at hj
    injection hj with hj
    injection hj with h1 h2 h3
    exact hne h2

/-- Another row written leaves it. -/
theorem KS.kept {base2 : Nat} {e2 : TypeId} {k2 : Nat} {v2 : Value} {n2 : Nat} {xs2 : List Value} (h : KS w b base top i t v s m zs) (ho : w.ownsRow base2 e2 k2 v2 n2 xs2) (he : e2 ≠ 30) (hg : w.grownBy w' v2.ownBlock) (hne : ∀ g, v.ownBlock = some g → v2.ownBlock ≠ some g) : KS w' b base top i t v s m zs := by
  refine ⟨h.blk.kept hg (sb_row h.blk ho he), h.own.kept hg ?_, h.ahead⟩
  cases hv : v.ownBlock with
  | none => exact Or.inl rfl
  | some g => exact Or.inr (fun e => hne g hv e.symm)

/-- Its own row written leaves the variable. -/
theorem KS.marked (h : KS w b base top i t v s m zs) {ms : List Int} (ho : w'.ownsRow base 3 1 v m (ms.map icell)) (hg : w.grownBy w' v.ownBlock) : KS w' b base top i t v s m ms :=
  ⟨h.blk.kept hg (sb_row h.blk h.own (by decide)), ho, h.ahead⟩

/-- Two rows of which one was made behind the other are not the same. -/
theorem KS.part {w2 : World} {b2 base2 top2 : Nat} {i2 t2 : Int} {v2 : Value} {s2 : List UInt8} {m2 : Nat} {zs2 : List Int} (h : KS w b base top i t v s m zs) (h2 : KS w2 b2 base2 top2 i2 t2 v2 s2 m2 zs2) (hle : top ≤ base2) : ∀ g, v.ownBlock = some g → v2.ownBlock ≠ some g := by
  intro g hg e
  have k1 := h.ahead g hg
  have k2 := h2.ahead g e
  omega
end

theorem below_own8 {w w' W : World} {B base : Nat} {e : TypeId} {k : Nat} {v : Value} {n : Nat} {xs : List Value} (hb : Below B W w) (hB : B ≤ w.heap.size) (hle : B ≤ base) (ho : w.ownsRow base e k v n xs) (hg : w.grownBy w' v.ownBlock) : Below B W w' :=
  hb.grown hg hB (fun j hj => Nat.le_trans hle (ho.lt j hj).1)

theorem rs_small (l : List UInt8) : (rsR l).2.2.1.length ≤ 4 ∧ ∀ z ∈ (rsR l).2.2.1, (Lit.int .i64 z).wf = true := by
  unfold rsR
  cases h : rdSnap l with
  | none => exact ⟨by simp, by simp⟩
  | some q =>
    obtain ⟨i, t, z, b⟩ := q
    have hk := (rdSnap_bounds h).2.2.1
    refine ⟨(confOk_len hk).2, fun y hy => ?_⟩
    obtain ⟨h1, h2⟩ := confOk_mem hk y hy
    exact wf_small (by omega) (by omega)

end Go.Proofs.YtpenpbopehbncaaDoor
