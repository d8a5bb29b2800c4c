/-
  Walks and mathematics of Walk9j.
-/
import Derived.Test.YtckkfjmjcknjdaaGreatDoorCTWalk9b
import Derived.Test.YtckkfjmjcknjdaaGreatDoorCTWalk9i
import Derived.Test.YtckkfjmjcknjdaaGreatDoorCTWalk1e
import Derived.Test.YtckkfjmjcknjdaaGreatDoorCTIntsMark
import Derived.Test.YtckkfjmjcknjdaaGreatDoorCTHeldMore
namespace Go.Proofs.YtckkfjmjcknjdaaGreatDoor.P3
end Go.Proofs.YtckkfjmjcknjdaaGreatDoor.P3
namespace Go.Proofs.YtckkfjmjcknjdaaGreatDoor
open Go.RowKit P1 P3 P9 P11 P12 K
set_option linter.unusedVariables false
set_option linter.unusedSimpArgs false
attribute [local go_sem ↓] Go.wp_at_zero Go.wp_at_succ

def EvS (w : World) (id kd sn us mb dp : Int) (xl xp : Value) (tx : List UInt8) (L : List (Nat × List Int)) (w' : World) : Prop :=
  Below w.heap.size w w' ∧ EB w' w.heap.size id kd sn us mb dp xl xp tx ∧ ∀ p ∈ L, IntsAt w' (some ⟨p.1, 0, none⟩) p.2.length p.2.length p.2

section
variable {w w' w'' : World} {id kd sn us mb dp : Int} {xl xp : Value} {tx : List UInt8} {L : List (Nat × List Int)}

theorem EvS.call (h : EvS w id kd sn us mb dp xl xp tx L w') (hb : Below w'.heap.size w' w'') : EvS w id kd sn us mb dp xl xp tx L w'' :=
  ⟨h.1.trans (hb.mono h.1.size), h.2.1.on hb h.2.1.lt, fun p hp => (h.2.2 p hp).below hb⟩

theorem EvS.grow (h : EvS w id kd sn us mb dp xl xp tx L w') (o : Obj) : EvS w id kd sn us mb dp xl xp tx L (w'.alloc o) := h.call ((Below.refl _ _).alloc (Nat.le_refl _) _)

theorem EvS.drew (h : EvS w id kd sn us mb dp xl xp tx L w') : EvS w id kd sn us mb dp xl xp tx L w'.drew := h.call (Below.refl _ _).drew

theorem EvS.less {p : Nat × List Int} (h : EvS w id kd sn us mb dp xl xp tx (p :: L) w') : EvS w id kd sn us mb dp xl xp tx L w' := ⟨h.1, h.2.1, fun q hq => h.2.2 q (List.mem_cons_of_mem _ hq)⟩

theorem EvS.all (h : EvS w id kd sn us mb dp xl xp tx L w') : EvS w id kd sn us mb dp xl xp tx [] w' := ⟨h.1, h.2.1, fun q hq => by cases hq⟩

theorem EvS.more {G : Nat} {zs : List Int} (h : EvS w id kd sn us mb dp xl xp tx L w') (hi : IntsAt w' (some ⟨G, 0, none⟩) zs.length zs.length zs) : EvS w id kd sn us mb dp xl xp tx ((G, zs) :: L) w' :=
  ⟨h.1, h.2.1, fun q hq => by
    rcases List.mem_cons.1 hq with rfl | hq
    · exact hi
    · exact h.2.2 q hq⟩

theorem EvS.get (h : EvS w id kd sn us mb dp xl xp tx L w') (p : Nat × List Int) (hp : p ∈ L) : IntsAt w' (some ⟨p.1, 0, none⟩) p.2.length p.2.length p.2 := h.2.2 p hp

theorem EvS.cells (h : EvS w id kd sn us mb dp xl xp tx L w') : EV w' w.heap.size id kd sn us mb dp xl xp tx := h.2.1.ev
end

theorem ints_lit {W : World} {G : Nat} {zs : List Int} {cs : Array Value} {ty : TypeId} (hG : W.heap.size = G) (hc : cs.toList = zs.map icell) (hf : ∀ z ∈ zs, (Lit.int .i64 z).wf = true ∧ zs.length ≤ 4) : IntsAt (W.alloc (.cells cs ty)) (some ⟨G, 0, none⟩) zs.length zs.length zs := by
  refine ⟨rfl, Nat.le_refl _, ?_, fun z hz => (hf z hz).1, fun i z hz => ⟨G, 0, rfl, ?_⟩⟩
  · cases zs with
    | nil => unfold maxLen; simp
    | cons z r => have := (hf z (by simp)).2; unfold maxLen; omega
  · subst hG
    rw [Nat.zero_add]
    refine blk_cell (heap_alloc_new _ _) i ?_
    rw [← Array.getElem?_toList, hc, List.getElem?_map, hz]
    rfl

theorem ints_litd {W : World} {G : Nat} {zs : List Int} {cs : Array Value} {ty : TypeId} (hG : W.heap.size = G) (hc : cs.toList = zs.map icell) (hf : ∀ z ∈ zs, (Lit.int .i64 z).wf = true ∧ zs.length ≤ 4) : IntsAt (W.alloc (.cells cs ty)).drew (some ⟨G, 0, none⟩) zs.length zs.length zs := (ints_lit hG hc hf).below (Below.refl _ _).drew

theorem wf_one {z : Int} (h0 : -1000000000 ≤ z) (h1 : z ≤ 1000000000000) : ∀ y ∈ [z], (Lit.int .i64 y).wf = true ∧ [z].length ≤ 4 := by
  intro y hy
  simp at hy
  subst hy
  exact ⟨wf_small h0 h1, by simp⟩

theorem wf_four {a b c d : Int} (h0 : 0 ≤ a ∧ a ≤ 255) (h1 : 0 ≤ b ∧ b ≤ 255) (h2 : 0 ≤ c ∧ c ≤ 255) (h3 : 0 ≤ d ∧ d ≤ 255) : ∀ y ∈ [a, b, c, d], (Lit.int .i64 y).wf = true ∧ [a, b, c, d].length ≤ 4 := by
  intro y hy
  simp at hy
  refine ⟨?_, by simp⟩
  rcases hy with rfl | rfl | rfl | rfl <;> exact wf_small (by omega) (by omega)

theorem varsText_one (z : Int) (hz : 0 ≤ z ∧ z ≤ 1000000000) (G : Nat) (w : World) (h : IntsAt w (some ⟨G, 0, none⟩) 1 1 [z]) :
    Calls Tryz.prog 84 #[.slice (some ⟨G, 0, none⟩) 1 1] w fun e w' => e = .returned (.string ⟨(varZ z).toArray⟩) ∧ Below w.heap.size w w' := by
  have := varsText_any (some ⟨G, 0, none⟩) 1 1 [z] (by omega) (by intro y hy; simp at hy; subst hy; exact hz) w h
  simpa using this

theorem evB_sums (e : EvV) : ((((varZ e.id ++ [byB e.kind, byB e.sender, byB e.user, byB e.member]) ++ (varB e.levels.length ++ e.levels.map byB)) ++ shortB e.text) ++ (varB e.prev.length ++ e.prev.flatMap varZ)) ++ varZ e.depth = evB e := by
  simp [evB, evBody]

theorem implShortText_list (l : List UInt8) (hl : l.length ≤ 20000) (w : World) :
    Calls Tryz.prog 116 #[.string ⟨l.toArray⟩] w fun e w' => e = .returned (.tuple #[.string ⟨(shortB l).toArray⟩, .bool true]) ∧ Below w.heap.size w w' := by
  have := implShortText_yes ⟨l.toArray⟩ hl w
  rw [size_mk8, cat_two8] at this
  exact this

set_option maxHeartbeats 8000000 in
theorem implEventText_any (id kd sn us mb dp : Int) (oa : Option Addr) (n cl : Nat) (tx : List UInt8) (ob : Option Addr) (m cp : Nat) (zl zp : List Int) (hx : tx.length ≤ 1048576) (w : World) (hat : IntsAt w oa n cl zl) (hbt : IntsAt w ob m cp zp) :
    Calls Tryz.prog 86 #[evval id kd sn us mb dp (.slice oa n cl) (.slice ob m cp) tx] w fun e w' => e = .returned (etV (evText (⟨id, kd, sn, us, mb, zl, tx, zp, dp⟩ : EvV))) ∧ Below w.heap.size w w' := by
  have hn := hat.len
  have hm := hbt.len
  have HOK := hide (fun w hat hbt => implEventOk_any id kd sn us mb dp oa n cl tx ob m cp zl zp hx w hat hbt)
  have HE0 := hide (EB.new w id kd sn us mb dp (.slice oa n cl) (.slice ob m cp) tx)
  have hb0 := (Below.refl w.heap.size w).alloc (Nat.le_refl _) (.cells #[.int .i64 id, .int .i64 kd, .int .i64 sn, .int .i64 us, .int .i64 mb, .slice oa n cl, .string ⟨tx.toArray⟩, .slice ob m cp, .int .i64 dp] 29)
  have HB0 := hide hb0
  have HA0 := hide (hat.below hb0)
  have HC0 := hide (hbt.below hb0)
  have HAT := hide hat
  have HBT := hide hbt
  clear hat hbt hb0
  cases cok : evOk (⟨id, kd, sn, us, mb, zl, tx, zp, dp⟩ : EvV) with
  | false =>
    rw [etV_no cok]
    rw [cok] at HOK
    clear cok
    go_enter Tryz.func86, Tryz.ntmps86
    go_wp2_with fail
    refine (HOK.out _ HA0.out HC0.out).mono ?_
    rintro e w1 ⟨rfl, hb1⟩
    go_wp2_with fail
    go_ret2
    exact ⟨rfl, HB0.out.trans (hb1.mono HB0.out.size)⟩
  | true =>
    rw [etV_yes cok]
    have hin := evOk_in cok
    rw [cok] at HOK
    clear cok
    have hid := hin.id
    have hkd := hin.kind
    have hsn := hin.sender
    have hus := hin.user
    have hmb := hin.member
    have hdp := hin.depth
    have hnm := hin.many
    have hpm := hin.prevs
    have htx := hin.text
    have hsl := (shortB_length tx).1
    have HSH := hide (fun w => implShortText_list tx (by have := hin.text; simp only at this; omega) w)
    have HB4 := hide (fun (G : Nat) w h => bytesText_any (some ⟨G, 0, none⟩) 4 4 [kd, sn, us, mb] (by omega) (by have a := hin.kind; have b := hin.sender; have c := hin.user; have d := hin.member; simp only at a b c d; intro z hz; simp at hz; rcases hz with rfl | rfl | rfl | rfl <;> omega) w h)
    have HVN := hide (fun G w h => varsText_one (n : Int) (by have := hin.many; simp only at this; omega) G w h)
    have HLV := hide (fun w h => bytesText_any oa n cl zl (by have := hin.many; simp only at this; omega) (fun z hz => by have := hin.levels z hz; omega) w h)
    have HVM := hide (fun G w h => varsText_one (m : Int) (by have := hin.prevs; simp only at this; omega) G w h)
    have HPV := hide (fun w h => varsText_any ob m cp zp (by have := hin.prevs; simp only at this; omega) (fun z hz => by have := hin.prev z hz; omega) w h)
    simp only at hid hkd hsn hus hmb hdp hnm hpm htx
    have HVI := hide (fun G w h => varsText_one id (by omega) G w h)
    have HVD := hide (fun G w h => varsText_one dp (by omega) G w h)
    have hvs := vars_len zp
    rw [← evB_sums]
    simp only
    rw [hn] at hnm ⊢
    rw [hm] at hpm hvs ⊢
    rw [show varZ (n : Int) = varB n from rfl] at HVN
    rw [show varZ (m : Int) = varB m from rfl] at HVM
    clear hin
    have hv1 := varZ_len id
    have hv2 := varB_length n
    have hv3 := varB_length m
    have hv4 := varZ_len dp
    have hl1 : (varZ id ++ [byB kd, byB sn, byB us, byB mb]).length ≤ 14 := by simp; omega
    have hl2 : (varB n ++ zl.map byB).length ≤ 15 := by simp; omega
    have hl3 : (varB m ++ zp.flatMap varZ).length ≤ 40 := by rw [List.length_append]; omega
    have f1 := add_fact Tryz.prog (varZ id) [byB kd, byB sn, byB us, byB mb] (by simp; omega)
    have f2 := add_fact Tryz.prog (varB n) (zl.map byB) (by simp; omega)
    have f3 := add_fact Tryz.prog (varB m) (zp.flatMap varZ) (by omega)
    rw [show [kd, sn, us, mb].map byB = [byB kd, byB sn, byB us, byB mb] from rfl] at HB4
    generalize varZ id ++ [byB kd, byB sn, byB us, byB mb] = AH at hl1 f1 ⊢
    generalize varB n ++ zl.map byB = LE at hl2 f2 ⊢
    generalize varB m ++ zp.flatMap varZ = PR at hl3 f3 ⊢
    generalize shortB tx = SH at hsl HSH ⊢
    have f4 := add_fact Tryz.prog AH LE (by omega)
    have f5 := add_fact Tryz.prog (AH ++ LE) SH (by rw [List.length_append]; omega)
    have f6 := add_fact Tryz.prog ((AH ++ LE) ++ SH) PR (by rw [List.length_append, List.length_append]; omega)
    have f7 := add_fact Tryz.prog (((AH ++ LE) ++ SH) ++ PR) (varZ dp) (by rw [List.length_append, List.length_append, List.length_append]; omega)
    generalize (⟨((((AH ++ LE) ++ SH) ++ PR) ++ varZ dp).toArray⟩ : ByteArray) = Z4 at f7 ⊢
    generalize (⟨(((AH ++ LE) ++ SH) ++ PR).toArray⟩ : ByteArray) = Z3 at f6 f7
    generalize (⟨((AH ++ LE) ++ SH).toArray⟩ : ByteArray) = Z2 at f5 f6
    generalize (⟨(AH ++ LE).toArray⟩ : ByteArray) = Z1 at f4 f5
    generalize (⟨AH.toArray⟩ : ByteArray) = YA at f1 f4
    generalize (⟨LE.toArray⟩ : ByteArray) = YL at f2 f4
    generalize (⟨SH.toArray⟩ : ByteArray) = YS at f5 HSH
    generalize (⟨PR.toArray⟩ : ByteArray) = YP at f3 f6
    generalize (⟨(varZ id).toArray⟩ : ByteArray) = X1 at f1 HVI
    generalize (⟨[byB kd, byB sn, byB us, byB mb].toArray⟩ : ByteArray) = X2 at f1 HB4
    generalize (⟨(varB n).toArray⟩ : ByteArray) = X3 at f2 HVN
    generalize (⟨(zl.map byB).toArray⟩ : ByteArray) = X4 at f2 HLV
    generalize (⟨(varB m).toArray⟩ : ByteArray) = X5 at f3 HVM
    generalize (⟨(zp.flatMap varZ).toArray⟩ : ByteArray) = X6 at f3 HPV
    generalize (⟨(varZ dp).toArray⟩ : ByteArray) = X7 at f7 HVD
    clear hv1 hv2 hv3 hv4 hl1 hl2 hl3 hsl hvs hn hm
    go_enter Tryz.func86, Tryz.ntmps86
    go_wp2_with fail
    refine (HOK.out _ HA0.out HC0.out).mono ?_
    rintro e w1 ⟨rfl, hb1⟩
    have HE1 := hide (HE0.out.on hb1 HE0.out.lt)
    have HB1 := hide (HB0.out.trans (hb1.mono HB0.out.size))
    clear hb1 HE0 HB0 HA0 HC0
    obtain ⟨z0, z1, z2, z3, z4, z5, z6, z7, z8⟩ := HE1.out.ev
    go_wp2_with fail
    clear z0 z1 z2 z3 z4 z5 z6 z7 z8
    refine (HSH.out _).mono ?_
    rintro e w2 ⟨rfl, hb2⟩
    have HH3 := hide (show EvS w id kd sn us mb dp (.slice oa n cl) (.slice ob m cp) tx [] w2 from ⟨HB1.out.trans (hb2.mono HB1.out.size), HE1.out.on hb2 HE1.out.lt, fun q hq => by cases hq⟩)
    clear hb2 HE1 HB1
    go_wp2_with fail
    refine wp_region_held_drew (S := EvS w id kd sn us mb dp (.slice oa n cl) (.slice ob m cp) tx []) (by kernel_rfl) HH3.out.drew (fun hHeld => ?_)
    refine wpAnyH_take (i := 0) (v := ?_) rfl (by kernel_rfl) (by kernel_rfl) (by kernel_rfl) (fun _ _ _ h => h) (Or.inl ⟨by rfl, ?_⟩) (by assumption) ?_; rotate_left
    · (intro wz hSw; obtain ⟨z0, z1, z2, z3, z4, z5, z6, z7, z8⟩ := EvS.cells hSw; clear hSw; go_simp; first | done | with_reducible rfl)
    try simp only [Act.put, List.getElem_toArray, List.getElem_cons_zero, List.getElem_cons_succ, List.setIfInBounds_toArray, List.set_cons_zero, List.set_cons_succ]
    refine wpAnyH_take (i := 1) (v := ?_) rfl (by kernel_rfl) (by kernel_rfl) (by kernel_rfl) (fun _ _ _ h => h) (Or.inl ⟨by rfl, ?_⟩) (by assumption) ?_; rotate_left
    · (intro wz hSw; obtain ⟨z0, z1, z2, z3, z4, z5, z6, z7, z8⟩ := EvS.cells hSw; clear hSw; go_simp; first | done | with_reducible rfl)
    try simp only [Act.put, List.getElem_toArray, List.getElem_cons_zero, List.getElem_cons_succ, List.setIfInBounds_toArray, List.set_cons_zero, List.set_cons_succ]
    refine wpAnyH_take (i := 4) (v := ?_) rfl (by kernel_rfl) (by kernel_rfl) (by kernel_rfl) (fun _ _ _ h => h) (Or.inl ⟨by rfl, ?_⟩) (by assumption) ?_; rotate_left
    · (intro wz hSw; obtain ⟨z0, z1, z2, z3, z4, z5, z6, z7, z8⟩ := EvS.cells hSw; clear hSw; go_simp; first | done | with_reducible rfl)
    try simp only [Act.put, List.getElem_toArray, List.getElem_cons_zero, List.getElem_cons_succ, List.setIfInBounds_toArray, List.set_cons_zero, List.set_cons_succ]
    refine wpAnyH_take (i := 5) (v := ?_) rfl (by kernel_rfl) (by kernel_rfl) (by kernel_rfl) (fun _ _ _ h => h) (Or.inl ⟨by rfl, ?_⟩) (by assumption) ?_; rotate_left
    · (intro wz hSw; obtain ⟨z0, z1, z2, z3, z4, z5, z6, z7, z8⟩ := EvS.cells hSw; clear hSw; go_simp; first | done | with_reducible rfl)
    try simp only [Act.put, List.getElem_toArray, List.getElem_cons_zero, List.getElem_cons_succ, List.setIfInBounds_toArray, List.set_cons_zero, List.set_cons_succ]
    refine wpAnyH_take (i := 6) (v := ?_) rfl (by kernel_rfl) (by kernel_rfl) (by kernel_rfl) (fun _ _ _ h => h) (Or.inl ⟨by rfl, ?_⟩) (by assumption) ?_; rotate_left
    · (intro wz hSw; obtain ⟨z0, z1, z2, z3, z4, z5, z6, z7, z8⟩ := EvS.cells hSw; clear hSw; go_simp; first | done | with_reducible rfl)
    try simp only [Act.put, List.getElem_toArray, List.getElem_cons_zero, List.getElem_cons_succ, List.setIfInBounds_toArray, List.set_cons_zero, List.set_cons_succ]
    refine wpAnyH_take (i := 7) (v := ?_) rfl (by kernel_rfl) (by kernel_rfl) (by kernel_rfl) (fun _ _ _ h => h) (Or.inl ⟨by rfl, ?_⟩) (by assumption) ?_; rotate_left
    · (intro wz hSw; obtain ⟨z0, z1, z2, z3, z4, z5, z6, z7, z8⟩ := EvS.cells hSw; clear hSw; go_simp; first | done | with_reducible rfl)
    try simp only [Act.put, List.getElem_toArray, List.getElem_cons_zero, List.getElem_cons_succ, List.setIfInBounds_toArray, List.set_cons_zero, List.set_cons_succ]
    refine wpAnyH_take (i := 8) (v := ?_) rfl (by kernel_rfl) (by kernel_rfl) (by kernel_rfl) (fun _ _ _ h => h) (Or.inl ⟨by rfl, ?_⟩) (by assumption) ?_; rotate_left
    · (intro wz hSw; obtain ⟨z0, z1, z2, z3, z4, z5, z6, z7, z8⟩ := EvS.cells hSw; clear hSw; go_simp; first | done | with_reducible rfl)
    try simp only [Act.put, List.getElem_toArray, List.getElem_cons_zero, List.getElem_cons_succ, List.setIfInBounds_toArray, List.set_cons_zero, List.set_cons_succ]
    refine wpAnyH_take (i := 9) (v := ?_) rfl (by kernel_rfl) (by kernel_rfl) (by kernel_rfl) (fun _ _ _ h => h) (Or.inl ⟨by rfl, ?_⟩) (by assumption) ?_; rotate_left
    · (intro wz hSw; obtain ⟨z0, z1, z2, z3, z4, z5, z6, z7, z8⟩ := EvS.cells hSw; clear hSw; go_simp; first | done | with_reducible rfl)
    try simp only [Act.put, List.getElem_toArray, List.getElem_cons_zero, List.getElem_cons_succ, List.setIfInBounds_toArray, List.set_cons_zero, List.set_cons_succ]
    refine wpAnyH_take (i := 10) (v := ?_) rfl (by kernel_rfl) (by kernel_rfl) (by kernel_rfl) (fun _ _ _ h => h) (Or.inl ⟨by rfl, ?_⟩) (by assumption) ?_; rotate_left
    · (intro wz hSw; obtain ⟨z0, z1, z2, z3, z4, z5, z6, z7, z8⟩ := EvS.cells hSw; clear hSw; go_simp; first | done | with_reducible rfl)
    try simp only [Act.put, List.getElem_toArray, List.getElem_cons_zero, List.getElem_cons_succ, List.setIfInBounds_toArray, List.set_cons_zero, List.set_cons_succ]
    refine wpAnyH_take (i := 11) (v := ?_) rfl (by kernel_rfl) (by kernel_rfl) (by kernel_rfl) (fun _ _ _ h => h) (Or.inl ⟨by rfl, ?_⟩) (by assumption) ?_; rotate_left
    · (intro wz hSw; obtain ⟨z0, z1, z2, z3, z4, z5, z6, z7, z8⟩ := EvS.cells hSw; clear hSw; go_simp; first | done | with_reducible rfl)
    try simp only [Act.put, List.getElem_toArray, List.getElem_cons_zero, List.getElem_cons_succ, List.setIfInBounds_toArray, List.set_cons_zero, List.set_cons_succ]
    refine wpAnyH_ready (rs := [2, 12]) (by kernel_rfl) (by simp) ?_
    refine AllReadyH.cons rfl (fun K hK => ?_) ?_
    · rw [if_pos (by rfl)]
      go_simp
      refine hK.out _ _ ?_ (fun hHeld => ?_)
      · exact EvS.grow hHeld _
      clear hK K
      try simp only [Act.put, List.getElem_toArray, List.getElem_cons_zero, List.getElem_cons_succ, List.setIfInBounds_toArray, List.set_cons_zero, List.set_cons_succ]
      refine held_more (S' := EvS w id kd sn us mb dp (.slice oa n cl) (.slice ob m cp) tx [(w2.heap.size, [id])]) (fun _ h => EvS.less h) _ _ _ _ ?_
      replace hHeld : (EvS w id kd sn us mb dp (.slice oa n cl) (.slice ob m cp) tx [(w2.heap.size, [id])]) _ := EvS.more hHeld (ints_litd (zs := [id]) (by first | rfl | simp) rfl (wf_one (by omega) (by omega)))
      refine wpAnyH_ready (rs := [3, 12]) (by kernel_rfl) (by simp) ?_
      refine AllReadyH.cons rfl (fun K hK => ?_) ?_
      · rw [if_pos (by rfl)]
        go_simp
        go_at_call 84
        refine (HVI.out (w2.heap.size) _ (EvS.get hHeld (w2.heap.size, [id]) (by simp))).mono ?_
        rintro r wA3 ⟨rfl, hbwA3⟩
        try go_simp
        refine hK.out _ _ ?_ (fun hHeld => ?_)
        · exact EvS.call hHeld hbwA3
        clear hK K
        try simp only [Act.put, List.getElem_toArray, List.getElem_cons_zero, List.getElem_cons_succ, List.setIfInBounds_toArray, List.set_cons_zero, List.set_cons_succ]
        clear hbwA3
        refine wpAnyH_ready (rs := [12]) (by kernel_rfl) (by simp) ?_
        refine AllReadyH.cons rfl (fun K hK => ?_) ?_
        · rw [if_pos (by rfl)]
          go_simp
          refine hK.out _ _ ?_ (fun hHeld => ?_)
          · exact EvS.grow hHeld _
          clear hK K
          try simp only [Act.put, List.getElem_toArray, List.getElem_cons_zero, List.getElem_cons_succ, List.setIfInBounds_toArray, List.set_cons_zero, List.set_cons_succ]
          refine held_more (S' := EvS w id kd sn us mb dp (.slice oa n cl) (.slice ob m cp) tx [(wA3.heap.size, [kd, sn, us, mb]), (w2.heap.size, [id])]) (fun _ h => EvS.less h) _ _ _ _ ?_
          replace hHeld : (EvS w id kd sn us mb dp (.slice oa n cl) (.slice ob m cp) tx [(wA3.heap.size, [kd, sn, us, mb]), (w2.heap.size, [id])]) _ := EvS.more hHeld (ints_lit (zs := [kd, sn, us, mb]) (by first | rfl | simp) rfl (wf_four (by omega) (by omega) (by omega) (by omega)))
          refine wpAnyH_ready (rs := [13]) (by kernel_rfl) (by simp) ?_
          refine AllReadyH.cons rfl (fun K hK => ?_) ?_
          · rw [if_pos (by rfl)]
            go_simp
            go_at_call 83
            refine (HB4.out (wA3.heap.size) _ (EvS.get hHeld (wA3.heap.size, [kd, sn, us, mb]) (by simp))).mono ?_
            rintro r wA13 ⟨rfl, hbwA13⟩
            try go_simp
            refine hK.out _ _ ?_ (fun hHeld => ?_)
            · exact EvS.call hHeld hbwA13
            clear hK K
            try simp only [Act.put, List.getElem_toArray, List.getElem_cons_zero, List.getElem_cons_succ, List.setIfInBounds_toArray, List.set_cons_zero, List.set_cons_succ]
            clear hbwA13
            refine wpAnyH_take (i := 14) (v := ?_) rfl (by kernel_rfl) (by kernel_rfl) (by kernel_rfl) (fun _ _ _ h => h) (Or.inl ⟨by rfl, ?_⟩) (by assumption) ?_; rotate_left
            · (intro wz hSw; obtain ⟨z0, z1, z2, z3, z4, z5, z6, z7, z8⟩ := EvS.cells hSw; clear hSw; go_simp; first | done | with_reducible rfl)
            try simp only [Act.put, List.getElem_toArray, List.getElem_cons_zero, List.getElem_cons_succ, List.setIfInBounds_toArray, List.set_cons_zero, List.set_cons_succ]
            refine wpAnyH_take (i := 15) (v := ?_) rfl (by kernel_rfl) (by kernel_rfl) (by kernel_rfl) (fun _ _ _ h => h) (Or.inl ⟨by rfl, ?_⟩) (by assumption) ?_; rotate_left
            · (intro wz hSw; obtain ⟨z0, z1, z2, z3, z4, z5, z6, z7, z8⟩ := EvS.cells hSw; clear hSw; go_simp; first | done | with_reducible rfl)
            try simp only [Act.put, List.getElem_toArray, List.getElem_cons_zero, List.getElem_cons_succ, List.setIfInBounds_toArray, List.set_cons_zero, List.set_cons_succ]
            refine wpAnyH_done (by kernel_rfl) ?_ _
            have HH4 := hide (EvS.all hHeld)
            clear hHeld HH3
            go_wp2_with fail
            refine wp_region_held_drew (S := EvS w id kd sn us mb dp (.slice oa n cl) (.slice ob m cp) tx []) (by kernel_rfl) HH4.out.drew (fun hHeld => ?_)
            refine wpAnyH_take (i := 0) (v := ?_) rfl (by kernel_rfl) (by kernel_rfl) (by kernel_rfl) (fun _ _ _ h => h) (Or.inl ⟨by rfl, ?_⟩) (by assumption) ?_; rotate_left
            · (intro wz hSw; obtain ⟨z0, z1, z2, z3, z4, z5, z6, z7, z8⟩ := EvS.cells hSw; clear hSw; go_simp; first | done | with_reducible rfl)
            try simp only [Act.put, List.getElem_toArray, List.getElem_cons_zero, List.getElem_cons_succ, List.setIfInBounds_toArray, List.set_cons_zero, List.set_cons_succ]
            refine wpAnyH_take (i := 1) (v := ?_) rfl (by kernel_rfl) (by kernel_rfl) (by kernel_rfl) (fun _ _ _ h => h) (Or.inl ⟨by rfl, ?_⟩) (by assumption) ?_; rotate_left
            · (intro wz hSw; obtain ⟨z0, z1, z2, z3, z4, z5, z6, z7, z8⟩ := EvS.cells hSw; clear hSw; go_simp; first | done | with_reducible rfl)
            try simp only [Act.put, List.getElem_toArray, List.getElem_cons_zero, List.getElem_cons_succ, List.setIfInBounds_toArray, List.set_cons_zero, List.set_cons_succ]
            refine wpAnyH_take (i := 2) (v := ?_) rfl (by kernel_rfl) (by kernel_rfl) (by kernel_rfl) (fun _ _ _ h => h) (Or.inl ⟨by rfl, ?_⟩) (by assumption) ?_; rotate_left
            · (intro wz hSw; obtain ⟨z0, z1, z2, z3, z4, z5, z6, z7, z8⟩ := EvS.cells hSw; clear hSw; go_simp; first | done | with_reducible rfl)
            try simp only [Act.put, List.getElem_toArray, List.getElem_cons_zero, List.getElem_cons_succ, List.setIfInBounds_toArray, List.set_cons_zero, List.set_cons_succ]
            refine wpAnyH_take (i := 5) (v := ?_) rfl (by kernel_rfl) (by kernel_rfl) (by kernel_rfl) (fun _ _ _ h => h) (Or.inl ⟨by rfl, ?_⟩) (by assumption) ?_; rotate_left
            · (intro wz hSw; obtain ⟨z0, z1, z2, z3, z4, z5, z6, z7, z8⟩ := EvS.cells hSw; clear hSw; go_simp; first | done | with_reducible rfl)
            try simp only [Act.put, List.getElem_toArray, List.getElem_cons_zero, List.getElem_cons_succ, List.setIfInBounds_toArray, List.set_cons_zero, List.set_cons_succ]
            refine wpAnyH_take (i := 6) (v := ?_) rfl (by kernel_rfl) (by kernel_rfl) (by kernel_rfl) (fun _ _ _ h => h) (Or.inl ⟨by rfl, ?_⟩) (by assumption) ?_; rotate_left
            · (intro wz hSw; obtain ⟨z0, z1, z2, z3, z4, z5, z6, z7, z8⟩ := EvS.cells hSw; clear hSw; go_simp; first | done | with_reducible rfl)
            try simp only [Act.put, List.getElem_toArray, List.getElem_cons_zero, List.getElem_cons_succ, List.setIfInBounds_toArray, List.set_cons_zero, List.set_cons_succ]
            refine wpAnyH_ready (rs := [3]) (by kernel_rfl) (by simp) ?_
            refine AllReadyH.cons rfl (fun K hK => ?_) ?_
            · rw [if_pos (by rfl)]
              go_simp
              refine hK.out _ _ ?_ (fun hHeld => ?_)
              · exact EvS.grow hHeld _
              clear hK K
              try simp only [Act.put, List.getElem_toArray, List.getElem_cons_zero, List.getElem_cons_succ, List.setIfInBounds_toArray, List.set_cons_zero, List.set_cons_succ]
              refine held_more (S' := EvS w id kd sn us mb dp (.slice oa n cl) (.slice ob m cp) tx [(wA13.heap.size, [(n : Int)])]) (fun _ h => EvS.less h) _ _ _ _ ?_
              replace hHeld : (EvS w id kd sn us mb dp (.slice oa n cl) (.slice ob m cp) tx [(wA13.heap.size, [(n : Int)])]) _ := EvS.more hHeld (ints_litd (zs := [(n : Int)]) (by first | rfl | simp) rfl (wf_one (by omega) (by omega)))
              refine wpAnyH_ready (rs := [4]) (by kernel_rfl) (by simp) ?_
              refine AllReadyH.cons rfl (fun K hK => ?_) ?_
              · rw [if_pos (by rfl)]
                go_simp
                go_at_call 84
                refine (HVN.out (wA13.heap.size) _ (EvS.get hHeld (wA13.heap.size, [(n : Int)]) (by simp))).mono ?_
                rintro r wB4 ⟨rfl, hbwB4⟩
                try go_simp
                refine hK.out _ _ ?_ (fun hHeld => ?_)
                · exact EvS.call hHeld hbwB4
                clear hK K
                try simp only [Act.put, List.getElem_toArray, List.getElem_cons_zero, List.getElem_cons_succ, List.setIfInBounds_toArray, List.set_cons_zero, List.set_cons_succ]
                clear hbwB4
                refine wpAnyH_ready (rs := [7]) (by kernel_rfl) (by simp) ?_
                refine AllReadyH.cons rfl (fun K hK => ?_) ?_
                · rw [if_pos (by rfl)]
                  go_simp
                  go_at_call 83
                  refine (HLV.out _ (HAT.out.below hHeld.1)).mono ?_
                  rintro r wB7 ⟨rfl, hbwB7⟩
                  try go_simp
                  refine hK.out _ _ ?_ (fun hHeld => ?_)
                  · exact EvS.call hHeld hbwB7
                  clear hK K
                  try simp only [Act.put, List.getElem_toArray, List.getElem_cons_zero, List.getElem_cons_succ, List.setIfInBounds_toArray, List.set_cons_zero, List.set_cons_succ]
                  clear hbwB7
                  refine wpAnyH_take (i := 8) (v := ?_) rfl (by kernel_rfl) (by kernel_rfl) (by kernel_rfl) (fun _ _ _ h => h) (Or.inl ⟨by rfl, ?_⟩) (by assumption) ?_; rotate_left
                  · (intro wz hSw; obtain ⟨z0, z1, z2, z3, z4, z5, z6, z7, z8⟩ := EvS.cells hSw; clear hSw; go_simp; first | done | with_reducible rfl)
                  try simp only [Act.put, List.getElem_toArray, List.getElem_cons_zero, List.getElem_cons_succ, List.setIfInBounds_toArray, List.set_cons_zero, List.set_cons_succ]
                  refine wpAnyH_take (i := 9) (v := ?_) rfl (by kernel_rfl) (by kernel_rfl) (by kernel_rfl) (fun _ _ _ h => h) (Or.inl ⟨by rfl, ?_⟩) (by assumption) ?_; rotate_left
                  · (intro wz hSw; obtain ⟨z0, z1, z2, z3, z4, z5, z6, z7, z8⟩ := EvS.cells hSw; clear hSw; go_simp; first | done | with_reducible rfl)
                  try simp only [Act.put, List.getElem_toArray, List.getElem_cons_zero, List.getElem_cons_succ, List.setIfInBounds_toArray, List.set_cons_zero, List.set_cons_succ]
                  refine wpAnyH_done (by kernel_rfl) ?_ _
                  have HH5 := hide (EvS.all hHeld)
                  clear hHeld HH4
                  go_wp2_with fail
                  refine wp_region_held_drew (S := EvS w id kd sn us mb dp (.slice oa n cl) (.slice ob m cp) tx []) (by kernel_rfl) HH5.out.drew (fun hHeld => ?_)
                  refine wpAnyH_take (i := 0) (v := ?_) rfl (by kernel_rfl) (by kernel_rfl) (by kernel_rfl) (fun _ _ _ h => h) (Or.inl ⟨by rfl, ?_⟩) (by assumption) ?_; rotate_left
                  · (intro wz hSw; obtain ⟨z0, z1, z2, z3, z4, z5, z6, z7, z8⟩ := EvS.cells hSw; clear hSw; go_simp; first | done | with_reducible rfl)
                  try simp only [Act.put, List.getElem_toArray, List.getElem_cons_zero, List.getElem_cons_succ, List.setIfInBounds_toArray, List.set_cons_zero, List.set_cons_succ]
                  refine wpAnyH_take (i := 1) (v := ?_) rfl (by kernel_rfl) (by kernel_rfl) (by kernel_rfl) (fun _ _ _ h => h) (Or.inl ⟨by rfl, ?_⟩) (by assumption) ?_; rotate_left
                  · (intro wz hSw; obtain ⟨z0, z1, z2, z3, z4, z5, z6, z7, z8⟩ := EvS.cells hSw; clear hSw; go_simp; first | done | with_reducible rfl)
                  try simp only [Act.put, List.getElem_toArray, List.getElem_cons_zero, List.getElem_cons_succ, List.setIfInBounds_toArray, List.set_cons_zero, List.set_cons_succ]
                  refine wpAnyH_take (i := 2) (v := ?_) rfl (by kernel_rfl) (by kernel_rfl) (by kernel_rfl) (fun _ _ _ h => h) (Or.inl ⟨by rfl, ?_⟩) (by assumption) ?_; rotate_left
                  · (intro wz hSw; obtain ⟨z0, z1, z2, z3, z4, z5, z6, z7, z8⟩ := EvS.cells hSw; clear hSw; go_simp; first | done | with_reducible rfl)
                  try simp only [Act.put, List.getElem_toArray, List.getElem_cons_zero, List.getElem_cons_succ, List.setIfInBounds_toArray, List.set_cons_zero, List.set_cons_succ]
                  refine wpAnyH_take (i := 5) (v := ?_) rfl (by kernel_rfl) (by kernel_rfl) (by kernel_rfl) (fun _ _ _ h => h) (Or.inl ⟨by rfl, ?_⟩) (by assumption) ?_; rotate_left
                  · (intro wz hSw; obtain ⟨z0, z1, z2, z3, z4, z5, z6, z7, z8⟩ := EvS.cells hSw; clear hSw; go_simp; first | done | with_reducible rfl)
                  try simp only [Act.put, List.getElem_toArray, List.getElem_cons_zero, List.getElem_cons_succ, List.setIfInBounds_toArray, List.set_cons_zero, List.set_cons_succ]
                  refine wpAnyH_take (i := 6) (v := ?_) rfl (by kernel_rfl) (by kernel_rfl) (by kernel_rfl) (fun _ _ _ h => h) (Or.inl ⟨by rfl, ?_⟩) (by assumption) ?_; rotate_left
                  · (intro wz hSw; obtain ⟨z0, z1, z2, z3, z4, z5, z6, z7, z8⟩ := EvS.cells hSw; clear hSw; go_simp; first | done | with_reducible rfl)
                  try simp only [Act.put, List.getElem_toArray, List.getElem_cons_zero, List.getElem_cons_succ, List.setIfInBounds_toArray, List.set_cons_zero, List.set_cons_succ]
                  refine wpAnyH_ready (rs := [3]) (by kernel_rfl) (by simp) ?_
                  refine AllReadyH.cons rfl (fun K hK => ?_) ?_
                  · rw [if_pos (by rfl)]
                    go_simp
                    refine hK.out _ _ ?_ (fun hHeld => ?_)
                    · exact EvS.grow hHeld _
                    clear hK K
                    try simp only [Act.put, List.getElem_toArray, List.getElem_cons_zero, List.getElem_cons_succ, List.setIfInBounds_toArray, List.set_cons_zero, List.set_cons_succ]
                    refine held_more (S' := EvS w id kd sn us mb dp (.slice oa n cl) (.slice ob m cp) tx [(wB7.heap.size, [(m : Int)])]) (fun _ h => EvS.less h) _ _ _ _ ?_
                    replace hHeld : (EvS w id kd sn us mb dp (.slice oa n cl) (.slice ob m cp) tx [(wB7.heap.size, [(m : Int)])]) _ := EvS.more hHeld (ints_litd (zs := [(m : Int)]) (by first | rfl | simp) rfl (wf_one (by omega) (by omega)))
                    refine wpAnyH_ready (rs := [4]) (by kernel_rfl) (by simp) ?_
                    refine AllReadyH.cons rfl (fun K hK => ?_) ?_
                    · rw [if_pos (by rfl)]
                      go_simp
                      go_at_call 84
                      refine (HVM.out (wB7.heap.size) _ (EvS.get hHeld (wB7.heap.size, [(m : Int)]) (by simp))).mono ?_
                      rintro r wC4 ⟨rfl, hbwC4⟩
                      try go_simp
                      refine hK.out _ _ ?_ (fun hHeld => ?_)
                      · exact EvS.call hHeld hbwC4
                      clear hK K
                      try simp only [Act.put, List.getElem_toArray, List.getElem_cons_zero, List.getElem_cons_succ, List.setIfInBounds_toArray, List.set_cons_zero, List.set_cons_succ]
                      clear hbwC4
                      refine wpAnyH_ready (rs := [7]) (by kernel_rfl) (by simp) ?_
                      refine AllReadyH.cons rfl (fun K hK => ?_) ?_
                      · rw [if_pos (by rfl)]
                        go_simp
                        go_at_call 84
                        refine (HPV.out _ (HBT.out.below hHeld.1)).mono ?_
                        rintro r wC7 ⟨rfl, hbwC7⟩
                        try go_simp
                        refine hK.out _ _ ?_ (fun hHeld => ?_)
                        · exact EvS.call hHeld hbwC7
                        clear hK K
                        try simp only [Act.put, List.getElem_toArray, List.getElem_cons_zero, List.getElem_cons_succ, List.setIfInBounds_toArray, List.set_cons_zero, List.set_cons_succ]
                        clear hbwC7
                        refine wpAnyH_take (i := 8) (v := ?_) rfl (by kernel_rfl) (by kernel_rfl) (by kernel_rfl) (fun _ _ _ h => h) (Or.inl ⟨by rfl, ?_⟩) (by assumption) ?_; rotate_left
                        · (intro wz hSw; obtain ⟨z0, z1, z2, z3, z4, z5, z6, z7, z8⟩ := EvS.cells hSw; clear hSw; go_simp; first | done | with_reducible rfl)
                        try simp only [Act.put, List.getElem_toArray, List.getElem_cons_zero, List.getElem_cons_succ, List.setIfInBounds_toArray, List.set_cons_zero, List.set_cons_succ]
                        refine wpAnyH_take (i := 9) (v := ?_) rfl (by kernel_rfl) (by kernel_rfl) (by kernel_rfl) (fun _ _ _ h => h) (Or.inl ⟨by rfl, ?_⟩) (by assumption) ?_; rotate_left
                        · (intro wz hSw; obtain ⟨z0, z1, z2, z3, z4, z5, z6, z7, z8⟩ := EvS.cells hSw; clear hSw; go_simp; first | done | with_reducible rfl)
                        try simp only [Act.put, List.getElem_toArray, List.getElem_cons_zero, List.getElem_cons_succ, List.setIfInBounds_toArray, List.set_cons_zero, List.set_cons_succ]
                        refine wpAnyH_done (by kernel_rfl) ?_ _
                        have HH6 := hide (EvS.all hHeld)
                        clear hHeld HH5
                        obtain ⟨z0, z1, z2, z3, z4, z5, z6, z7, z8⟩ := EvS.cells HH6.out
                        go_wp2_with fail
                        have hb9 := (Below.refl wC7.heap.size wC7).alloc (Nat.le_refl _) (.cells #[.int .i64 dp] 3)
                        have HB9 := hide (HH6.out.1.trans (hb9.mono HH6.out.1.size))
                        have HI9 := hide (ints_lit (W := wC7) (G := wC7.heap.size) (zs := [dp]) (cs := #[.int .i64 dp]) (ty := 3) rfl rfl (wf_one (by omega) (by omega)))
                        clear hb9 z0 z1 z2 z3 z4 z5 z6 z7 z8
                        refine (HVD.out (wC7.heap.size) _ HI9.out).mono ?_
                        rintro e w9 ⟨rfl, hbe⟩
                        go_wp2_with fail
                        go_ret2
                        exact ⟨rfl, HB9.out.trans (hbe.mono HB9.out.size)⟩
                      exact AllReadyH.nil
                    exact AllReadyH.nil
                  exact AllReadyH.nil
                exact AllReadyH.nil
              exact AllReadyH.nil
            exact AllReadyH.nil
          exact AllReadyH.nil
        exact AllReadyH.nil
      refine AllReadyH.cons rfl (fun K hK => ?_) ?_
      · rw [if_pos (by rfl)]
        go_simp
        refine hK.out _ _ ?_ (fun hHeld => ?_)
        · exact EvS.grow hHeld _
        clear hK K
        try simp only [Act.put, List.getElem_toArray, List.getElem_cons_zero, List.getElem_cons_succ, List.setIfInBounds_toArray, List.set_cons_zero, List.set_cons_succ]
        refine held_more (S' := EvS w id kd sn us mb dp (.slice oa n cl) (.slice ob m cp) tx [(w2.heap.size + 1, [kd, sn, us, mb]), (w2.heap.size, [id])]) (fun _ h => EvS.less h) _ _ _ _ ?_
        replace hHeld : (EvS w id kd sn us mb dp (.slice oa n cl) (.slice ob m cp) tx [(w2.heap.size + 1, [kd, sn, us, mb]), (w2.heap.size, [id])]) _ := EvS.more hHeld (ints_litd (zs := [kd, sn, us, mb]) (by first | rfl | simp) rfl (wf_four (by omega) (by omega) (by omega) (by omega)))
        refine wpAnyH_ready (rs := [3]) (by kernel_rfl) (by simp) ?_
        refine AllReadyH.cons rfl (fun K hK => ?_) ?_
        · rw [if_pos (by rfl)]
          go_simp
          go_at_call 84
          refine (HVI.out (w2.heap.size) _ (EvS.get hHeld (w2.heap.size, [id]) (by simp))).mono ?_
          rintro r wA3 ⟨rfl, hbwA3⟩
          try go_simp
          refine hK.out _ _ ?_ (fun hHeld => ?_)
          · exact EvS.call hHeld hbwA3
          clear hK K
          try simp only [Act.put, List.getElem_toArray, List.getElem_cons_zero, List.getElem_cons_succ, List.setIfInBounds_toArray, List.set_cons_zero, List.set_cons_succ]
          clear hbwA3
          refine wpAnyH_ready (rs := [13]) (by kernel_rfl) (by simp) ?_
          refine AllReadyH.cons rfl (fun K hK => ?_) ?_
          · rw [if_pos (by rfl)]
            go_simp
            go_at_call 83
            refine (HB4.out (w2.heap.size + 1) _ (EvS.get hHeld (w2.heap.size + 1, [kd, sn, us, mb]) (by simp))).mono ?_
            rintro r wA13 ⟨rfl, hbwA13⟩
            try go_simp
            refine hK.out _ _ ?_ (fun hHeld => ?_)
            · exact EvS.call hHeld hbwA13
            clear hK K
            try simp only [Act.put, List.getElem_toArray, List.getElem_cons_zero, List.getElem_cons_succ, List.setIfInBounds_toArray, List.set_cons_zero, List.set_cons_succ]
            clear hbwA13
            refine wpAnyH_take (i := 14) (v := ?_) rfl (by kernel_rfl) (by kernel_rfl) (by kernel_rfl) (fun _ _ _ h => h) (Or.inl ⟨by rfl, ?_⟩) (by assumption) ?_; rotate_left
            · (intro wz hSw; obtain ⟨z0, z1, z2, z3, z4, z5, z6, z7, z8⟩ := EvS.cells hSw; clear hSw; go_simp; first | done | with_reducible rfl)
            try simp only [Act.put, List.getElem_toArray, List.getElem_cons_zero, List.getElem_cons_succ, List.setIfInBounds_toArray, List.set_cons_zero, List.set_cons_succ]
            refine wpAnyH_take (i := 15) (v := ?_) rfl (by kernel_rfl) (by kernel_rfl) (by kernel_rfl) (fun _ _ _ h => h) (Or.inl ⟨by rfl, ?_⟩) (by assumption) ?_; rotate_left
            · (intro wz hSw; obtain ⟨z0, z1, z2, z3, z4, z5, z6, z7, z8⟩ := EvS.cells hSw; clear hSw; go_simp; first | done | with_reducible rfl)
            try simp only [Act.put, List.getElem_toArray, List.getElem_cons_zero, List.getElem_cons_succ, List.setIfInBounds_toArray, List.set_cons_zero, List.set_cons_succ]
            refine wpAnyH_done (by kernel_rfl) ?_ _
            have HH4 := hide (EvS.all hHeld)
            clear hHeld HH3
            go_wp2_with fail
            refine wp_region_held_drew (S := EvS w id kd sn us mb dp (.slice oa n cl) (.slice ob m cp) tx []) (by kernel_rfl) HH4.out.drew (fun hHeld => ?_)
            refine wpAnyH_take (i := 0) (v := ?_) rfl (by kernel_rfl) (by kernel_rfl) (by kernel_rfl) (fun _ _ _ h => h) (Or.inl ⟨by rfl, ?_⟩) (by assumption) ?_; rotate_left
            · (intro wz hSw; obtain ⟨z0, z1, z2, z3, z4, z5, z6, z7, z8⟩ := EvS.cells hSw; clear hSw; go_simp; first | done | with_reducible rfl)
            try simp only [Act.put, List.getElem_toArray, List.getElem_cons_zero, List.getElem_cons_succ, List.setIfInBounds_toArray, List.set_cons_zero, List.set_cons_succ]
            refine wpAnyH_take (i := 1) (v := ?_) rfl (by kernel_rfl) (by kernel_rfl) (by kernel_rfl) (fun _ _ _ h => h) (Or.inl ⟨by rfl, ?_⟩) (by assumption) ?_; rotate_left
            · (intro wz hSw; obtain ⟨z0, z1, z2, z3, z4, z5, z6, z7, z8⟩ := EvS.cells hSw; clear hSw; go_simp; first | done | with_reducible rfl)
            try simp only [Act.put, List.getElem_toArray, List.getElem_cons_zero, List.getElem_cons_succ, List.setIfInBounds_toArray, List.set_cons_zero, List.set_cons_succ]
            refine wpAnyH_take (i := 2) (v := ?_) rfl (by kernel_rfl) (by kernel_rfl) (by kernel_rfl) (fun _ _ _ h => h) (Or.inl ⟨by rfl, ?_⟩) (by assumption) ?_; rotate_left
            · (intro wz hSw; obtain ⟨z0, z1, z2, z3, z4, z5, z6, z7, z8⟩ := EvS.cells hSw; clear hSw; go_simp; first | done | with_reducible rfl)
            try simp only [Act.put, List.getElem_toArray, List.getElem_cons_zero, List.getElem_cons_succ, List.setIfInBounds_toArray, List.set_cons_zero, List.set_cons_succ]
            refine wpAnyH_take (i := 5) (v := ?_) rfl (by kernel_rfl) (by kernel_rfl) (by kernel_rfl) (fun _ _ _ h => h) (Or.inl ⟨by rfl, ?_⟩) (by assumption) ?_; rotate_left
            · (intro wz hSw; obtain ⟨z0, z1, z2, z3, z4, z5, z6, z7, z8⟩ := EvS.cells hSw; clear hSw; go_simp; first | done | with_reducible rfl)
            try simp only [Act.put, List.getElem_toArray, List.getElem_cons_zero, List.getElem_cons_succ, List.setIfInBounds_toArray, List.set_cons_zero, List.set_cons_succ]
            refine wpAnyH_take (i := 6) (v := ?_) rfl (by kernel_rfl) (by kernel_rfl) (by kernel_rfl) (fun _ _ _ h => h) (Or.inl ⟨by rfl, ?_⟩) (by assumption) ?_; rotate_left
            · (intro wz hSw; obtain ⟨z0, z1, z2, z3, z4, z5, z6, z7, z8⟩ := EvS.cells hSw; clear hSw; go_simp; first | done | with_reducible rfl)
            try simp only [Act.put, List.getElem_toArray, List.getElem_cons_zero, List.getElem_cons_succ, List.setIfInBounds_toArray, List.set_cons_zero, List.set_cons_succ]
            refine wpAnyH_ready (rs := [3]) (by kernel_rfl) (by simp) ?_
            refine AllReadyH.cons rfl (fun K hK => ?_) ?_
            · rw [if_pos (by rfl)]
              go_simp
              refine hK.out _ _ ?_ (fun hHeld => ?_)
              · exact EvS.grow hHeld _
              clear hK K
              try simp only [Act.put, List.getElem_toArray, List.getElem_cons_zero, List.getElem_cons_succ, List.setIfInBounds_toArray, List.set_cons_zero, List.set_cons_succ]
              refine held_more (S' := EvS w id kd sn us mb dp (.slice oa n cl) (.slice ob m cp) tx [(wA13.heap.size, [(n : Int)])]) (fun _ h => EvS.less h) _ _ _ _ ?_
              replace hHeld : (EvS w id kd sn us mb dp (.slice oa n cl) (.slice ob m cp) tx [(wA13.heap.size, [(n : Int)])]) _ := EvS.more hHeld (ints_litd (zs := [(n : Int)]) (by first | rfl | simp) rfl (wf_one (by omega) (by omega)))
              refine wpAnyH_ready (rs := [4]) (by kernel_rfl) (by simp) ?_
              refine AllReadyH.cons rfl (fun K hK => ?_) ?_
              · rw [if_pos (by rfl)]
                go_simp
                go_at_call 84
                refine (HVN.out (wA13.heap.size) _ (EvS.get hHeld (wA13.heap.size, [(n : Int)]) (by simp))).mono ?_
                rintro r wB4 ⟨rfl, hbwB4⟩
                try go_simp
                refine hK.out _ _ ?_ (fun hHeld => ?_)
                · exact EvS.call hHeld hbwB4
                clear hK K
                try simp only [Act.put, List.getElem_toArray, List.getElem_cons_zero, List.getElem_cons_succ, List.setIfInBounds_toArray, List.set_cons_zero, List.set_cons_succ]
                clear hbwB4
                refine wpAnyH_ready (rs := [7]) (by kernel_rfl) (by simp) ?_
                refine AllReadyH.cons rfl (fun K hK => ?_) ?_
                · rw [if_pos (by rfl)]
                  go_simp
                  go_at_call 83
                  refine (HLV.out _ (HAT.out.below hHeld.1)).mono ?_
                  rintro r wB7 ⟨rfl, hbwB7⟩
                  try go_simp
                  refine hK.out _ _ ?_ (fun hHeld => ?_)
                  · exact EvS.call hHeld hbwB7
                  clear hK K
                  try simp only [Act.put, List.getElem_toArray, List.getElem_cons_zero, List.getElem_cons_succ, List.setIfInBounds_toArray, List.set_cons_zero, List.set_cons_succ]
                  clear hbwB7
                  refine wpAnyH_take (i := 8) (v := ?_) rfl (by kernel_rfl) (by kernel_rfl) (by kernel_rfl) (fun _ _ _ h => h) (Or.inl ⟨by rfl, ?_⟩) (by assumption) ?_; rotate_left
                  · (intro wz hSw; obtain ⟨z0, z1, z2, z3, z4, z5, z6, z7, z8⟩ := EvS.cells hSw; clear hSw; go_simp; first | done | with_reducible rfl)
                  try simp only [Act.put, List.getElem_toArray, List.getElem_cons_zero, List.getElem_cons_succ, List.setIfInBounds_toArray, List.set_cons_zero, List.set_cons_succ]
                  refine wpAnyH_take (i := 9) (v := ?_) rfl (by kernel_rfl) (by kernel_rfl) (by kernel_rfl) (fun _ _ _ h => h) (Or.inl ⟨by rfl, ?_⟩) (by assumption) ?_; rotate_left
                  · (intro wz hSw; obtain ⟨z0, z1, z2, z3, z4, z5, z6, z7, z8⟩ := EvS.cells hSw; clear hSw; go_simp; first | done | with_reducible rfl)
                  try simp only [Act.put, List.getElem_toArray, List.getElem_cons_zero, List.getElem_cons_succ, List.setIfInBounds_toArray, List.set_cons_zero, List.set_cons_succ]
                  refine wpAnyH_done (by kernel_rfl) ?_ _
                  have HH5 := hide (EvS.all hHeld)
                  clear hHeld HH4
                  go_wp2_with fail
                  refine wp_region_held_drew (S := EvS w id kd sn us mb dp (.slice oa n cl) (.slice ob m cp) tx []) (by kernel_rfl) HH5.out.drew (fun hHeld => ?_)
                  refine wpAnyH_take (i := 0) (v := ?_) rfl (by kernel_rfl) (by kernel_rfl) (by kernel_rfl) (fun _ _ _ h => h) (Or.inl ⟨by rfl, ?_⟩) (by assumption) ?_; rotate_left
                  · (intro wz hSw; obtain ⟨z0, z1, z2, z3, z4, z5, z6, z7, z8⟩ := EvS.cells hSw; clear hSw; go_simp; first | done | with_reducible rfl)
                  try simp only [Act.put, List.getElem_toArray, List.getElem_cons_zero, List.getElem_cons_succ, List.setIfInBounds_toArray, List.set_cons_zero, List.set_cons_succ]
                  refine wpAnyH_take (i := 1) (v := ?_) rfl (by kernel_rfl) (by kernel_rfl) (by kernel_rfl) (fun _ _ _ h => h) (Or.inl ⟨by rfl, ?_⟩) (by assumption) ?_; rotate_left
                  · (intro wz hSw; obtain ⟨z0, z1, z2, z3, z4, z5, z6, z7, z8⟩ := EvS.cells hSw; clear hSw; go_simp; first | done | with_reducible rfl)
                  try simp only [Act.put, List.getElem_toArray, List.getElem_cons_zero, List.getElem_cons_succ, List.setIfInBounds_toArray, List.set_cons_zero, List.set_cons_succ]
                  refine wpAnyH_take (i := 2) (v := ?_) rfl (by kernel_rfl) (by kernel_rfl) (by kernel_rfl) (fun _ _ _ h => h) (Or.inl ⟨by rfl, ?_⟩) (by assumption) ?_; rotate_left
                  · (intro wz hSw; obtain ⟨z0, z1, z2, z3, z4, z5, z6, z7, z8⟩ := EvS.cells hSw; clear hSw; go_simp; first | done | with_reducible rfl)
                  try simp only [Act.put, List.getElem_toArray, List.getElem_cons_zero, List.getElem_cons_succ, List.setIfInBounds_toArray, List.set_cons_zero, List.set_cons_succ]
                  refine wpAnyH_take (i := 5) (v := ?_) rfl (by kernel_rfl) (by kernel_rfl) (by kernel_rfl) (fun _ _ _ h => h) (Or.inl ⟨by rfl, ?_⟩) (by assumption) ?_; rotate_left
                  · (intro wz hSw; obtain ⟨z0, z1, z2, z3, z4, z5, z6, z7, z8⟩ := EvS.cells hSw; clear hSw; go_simp; first | done | with_reducible rfl)
                  try simp only [Act.put, List.getElem_toArray, List.getElem_cons_zero, List.getElem_cons_succ, List.setIfInBounds_toArray, List.set_cons_zero, List.set_cons_succ]
                  refine wpAnyH_take (i := 6) (v := ?_) rfl (by kernel_rfl) (by kernel_rfl) (by kernel_rfl) (fun _ _ _ h => h) (Or.inl ⟨by rfl, ?_⟩) (by assumption) ?_; rotate_left
                  · (intro wz hSw; obtain ⟨z0, z1, z2, z3, z4, z5, z6, z7, z8⟩ := EvS.cells hSw; clear hSw; go_simp; first | done | with_reducible rfl)
                  try simp only [Act.put, List.getElem_toArray, List.getElem_cons_zero, List.getElem_cons_succ, List.setIfInBounds_toArray, List.set_cons_zero, List.set_cons_succ]
                  refine wpAnyH_ready (rs := [3]) (by kernel_rfl) (by simp) ?_
                  refine AllReadyH.cons rfl (fun K hK => ?_) ?_
                  · rw [if_pos (by rfl)]
                    go_simp
                    refine hK.out _ _ ?_ (fun hHeld => ?_)
                    · exact EvS.grow hHeld _
                    clear hK K
                    try simp only [Act.put, List.getElem_toArray, List.getElem_cons_zero, List.getElem_cons_succ, List.setIfInBounds_toArray, List.set_cons_zero, List.set_cons_succ]
                    refine held_more (S' := EvS w id kd sn us mb dp (.slice oa n cl) (.slice ob m cp) tx [(wB7.heap.size, [(m : Int)])]) (fun _ h => EvS.less h) _ _ _ _ ?_
                    replace hHeld : (EvS w id kd sn us mb dp (.slice oa n cl) (.slice ob m cp) tx [(wB7.heap.size, [(m : Int)])]) _ := EvS.more hHeld (ints_litd (zs := [(m : Int)]) (by first | rfl | simp) rfl (wf_one (by omega) (by omega)))
                    refine wpAnyH_ready (rs := [4]) (by kernel_rfl) (by simp) ?_
                    refine AllReadyH.cons rfl (fun K hK => ?_) ?_
                    · rw [if_pos (by rfl)]
                      go_simp
                      go_at_call 84
                      refine (HVM.out (wB7.heap.size) _ (EvS.get hHeld (wB7.heap.size, [(m : Int)]) (by simp))).mono ?_
                      rintro r wC4 ⟨rfl, hbwC4⟩
                      try go_simp
                      refine hK.out _ _ ?_ (fun hHeld => ?_)
                      · exact EvS.call hHeld hbwC4
                      clear hK K
                      try simp only [Act.put, List.getElem_toArray, List.getElem_cons_zero, List.getElem_cons_succ, List.setIfInBounds_toArray, List.set_cons_zero, List.set_cons_succ]
                      clear hbwC4
                      refine wpAnyH_ready (rs := [7]) (by kernel_rfl) (by simp) ?_
                      refine AllReadyH.cons rfl (fun K hK => ?_) ?_
                      · rw [if_pos (by rfl)]
                        go_simp
                        go_at_call 84
                        refine (HPV.out _ (HBT.out.below hHeld.1)).mono ?_
                        rintro r wC7 ⟨rfl, hbwC7⟩
                        try go_simp
                        refine hK.out _ _ ?_ (fun hHeld => ?_)
                        · exact EvS.call hHeld hbwC7
                        clear hK K
                        try simp only [Act.put, List.getElem_toArray, List.getElem_cons_zero, List.getElem_cons_succ, List.setIfInBounds_toArray, List.set_cons_zero, List.set_cons_succ]
                        clear hbwC7
                        refine wpAnyH_take (i := 8) (v := ?_) rfl (by kernel_rfl) (by kernel_rfl) (by kernel_rfl) (fun _ _ _ h => h) (Or.inl ⟨by rfl, ?_⟩) (by assumption) ?_; rotate_left
                        · (intro wz hSw; obtain ⟨z0, z1, z2, z3, z4, z5, z6, z7, z8⟩ := EvS.cells hSw; clear hSw; go_simp; first | done | with_reducible rfl)
                        try simp only [Act.put, List.getElem_toArray, List.getElem_cons_zero, List.getElem_cons_succ, List.setIfInBounds_toArray, List.set_cons_zero, List.set_cons_succ]
                        refine wpAnyH_take (i := 9) (v := ?_) rfl (by kernel_rfl) (by kernel_rfl) (by kernel_rfl) (fun _ _ _ h => h) (Or.inl ⟨by rfl, ?_⟩) (by assumption) ?_; rotate_left
                        · (intro wz hSw; obtain ⟨z0, z1, z2, z3, z4, z5, z6, z7, z8⟩ := EvS.cells hSw; clear hSw; go_simp; first | done | with_reducible rfl)
                        try simp only [Act.put, List.getElem_toArray, List.getElem_cons_zero, List.getElem_cons_succ, List.setIfInBounds_toArray, List.set_cons_zero, List.set_cons_succ]
                        refine wpAnyH_done (by kernel_rfl) ?_ _
                        have HH6 := hide (EvS.all hHeld)
                        clear hHeld HH5
                        obtain ⟨z0, z1, z2, z3, z4, z5, z6, z7, z8⟩ := EvS.cells HH6.out
                        go_wp2_with fail
                        have hb9 := (Below.refl wC7.heap.size wC7).alloc (Nat.le_refl _) (.cells #[.int .i64 dp] 3)
                        have HB9 := hide (HH6.out.1.trans (hb9.mono HH6.out.1.size))
                        have HI9 := hide (ints_lit (W := wC7) (G := wC7.heap.size) (zs := [dp]) (cs := #[.int .i64 dp]) (ty := 3) rfl rfl (wf_one (by omega) (by omega)))
                        clear hb9 z0 z1 z2 z3 z4 z5 z6 z7 z8
                        refine (HVD.out (wC7.heap.size) _ HI9.out).mono ?_
                        rintro e w9 ⟨rfl, hbe⟩
                        go_wp2_with fail
                        go_ret2
                        exact ⟨rfl, HB9.out.trans (hbe.mono HB9.out.size)⟩
                      exact AllReadyH.nil
                    exact AllReadyH.nil
                  exact AllReadyH.nil
                exact AllReadyH.nil
              exact AllReadyH.nil
            exact AllReadyH.nil
          exact AllReadyH.nil
        exact AllReadyH.nil
      exact AllReadyH.nil
    refine AllReadyH.cons rfl (fun K hK => ?_) ?_
    · rw [if_pos (by rfl)]
      go_simp
      refine hK.out _ _ ?_ (fun hHeld => ?_)
      · exact EvS.grow hHeld _
      clear hK K
      try simp only [Act.put, List.getElem_toArray, List.getElem_cons_zero, List.getElem_cons_succ, List.setIfInBounds_toArray, List.set_cons_zero, List.set_cons_succ]
      refine held_more (S' := EvS w id kd sn us mb dp (.slice oa n cl) (.slice ob m cp) tx [(w2.heap.size, [kd, sn, us, mb])]) (fun _ h => EvS.less h) _ _ _ _ ?_
      replace hHeld : (EvS w id kd sn us mb dp (.slice oa n cl) (.slice ob m cp) tx [(w2.heap.size, [kd, sn, us, mb])]) _ := EvS.more hHeld (ints_litd (zs := [kd, sn, us, mb]) (by first | rfl | simp) rfl (wf_four (by omega) (by omega) (by omega) (by omega)))
      refine wpAnyH_ready (rs := [2]) (by kernel_rfl) (by simp) ?_
      refine AllReadyH.cons rfl (fun K hK => ?_) ?_
      · rw [if_pos (by rfl)]
        go_simp
        refine hK.out _ _ ?_ (fun hHeld => ?_)
        · exact EvS.grow hHeld _
        clear hK K
        try simp only [Act.put, List.getElem_toArray, List.getElem_cons_zero, List.getElem_cons_succ, List.setIfInBounds_toArray, List.set_cons_zero, List.set_cons_succ]
        refine held_more (S' := EvS w id kd sn us mb dp (.slice oa n cl) (.slice ob m cp) tx [(w2.heap.size + 1, [id]), (w2.heap.size, [kd, sn, us, mb])]) (fun _ h => EvS.less h) _ _ _ _ ?_
        replace hHeld : (EvS w id kd sn us mb dp (.slice oa n cl) (.slice ob m cp) tx [(w2.heap.size + 1, [id]), (w2.heap.size, [kd, sn, us, mb])]) _ := EvS.more hHeld (ints_litd (zs := [id]) (by first | rfl | simp) rfl (wf_one (by omega) (by omega)))
        refine wpAnyH_ready (rs := [3]) (by kernel_rfl) (by simp) ?_
        refine AllReadyH.cons rfl (fun K hK => ?_) ?_
        · rw [if_pos (by rfl)]
          go_simp
          go_at_call 84
          refine (HVI.out (w2.heap.size + 1) _ (EvS.get hHeld (w2.heap.size + 1, [id]) (by simp))).mono ?_
          rintro r wA3 ⟨rfl, hbwA3⟩
          try go_simp
          refine hK.out _ _ ?_ (fun hHeld => ?_)
          · exact EvS.call hHeld hbwA3
          clear hK K
          try simp only [Act.put, List.getElem_toArray, List.getElem_cons_zero, List.getElem_cons_succ, List.setIfInBounds_toArray, List.set_cons_zero, List.set_cons_succ]
          clear hbwA3
          refine wpAnyH_ready (rs := [13]) (by kernel_rfl) (by simp) ?_
          refine AllReadyH.cons rfl (fun K hK => ?_) ?_
          · rw [if_pos (by rfl)]
            go_simp
            go_at_call 83
            refine (HB4.out (w2.heap.size) _ (EvS.get hHeld (w2.heap.size, [kd, sn, us, mb]) (by simp))).mono ?_
            rintro r wA13 ⟨rfl, hbwA13⟩
            try go_simp
            refine hK.out _ _ ?_ (fun hHeld => ?_)
            · exact EvS.call hHeld hbwA13
            clear hK K
            try simp only [Act.put, List.getElem_toArray, List.getElem_cons_zero, List.getElem_cons_succ, List.setIfInBounds_toArray, List.set_cons_zero, List.set_cons_succ]
            clear hbwA13
            refine wpAnyH_take (i := 14) (v := ?_) rfl (by kernel_rfl) (by kernel_rfl) (by kernel_rfl) (fun _ _ _ h => h) (Or.inl ⟨by rfl, ?_⟩) (by assumption) ?_; rotate_left
            · (intro wz hSw; obtain ⟨z0, z1, z2, z3, z4, z5, z6, z7, z8⟩ := EvS.cells hSw; clear hSw; go_simp; first | done | with_reducible rfl)
            try simp only [Act.put, List.getElem_toArray, List.getElem_cons_zero, List.getElem_cons_succ, List.setIfInBounds_toArray, List.set_cons_zero, List.set_cons_succ]
            refine wpAnyH_take (i := 15) (v := ?_) rfl (by kernel_rfl) (by kernel_rfl) (by kernel_rfl) (fun _ _ _ h => h) (Or.inl ⟨by rfl, ?_⟩) (by assumption) ?_; rotate_left
            · (intro wz hSw; obtain ⟨z0, z1, z2, z3, z4, z5, z6, z7, z8⟩ := EvS.cells hSw; clear hSw; go_simp; first | done | with_reducible rfl)
            try simp only [Act.put, List.getElem_toArray, List.getElem_cons_zero, List.getElem_cons_succ, List.setIfInBounds_toArray, List.set_cons_zero, List.set_cons_succ]
            refine wpAnyH_done (by kernel_rfl) ?_ _
            have HH4 := hide (EvS.all hHeld)
            clear hHeld HH3
            go_wp2_with fail
            refine wp_region_held_drew (S := EvS w id kd sn us mb dp (.slice oa n cl) (.slice ob m cp) tx []) (by kernel_rfl) HH4.out.drew (fun hHeld => ?_)
            refine wpAnyH_take (i := 0) (v := ?_) rfl (by kernel_rfl) (by kernel_rfl) (by kernel_rfl) (fun _ _ _ h => h) (Or.inl ⟨by rfl, ?_⟩) (by assumption) ?_; rotate_left
            · (intro wz hSw; obtain ⟨z0, z1, z2, z3, z4, z5, z6, z7, z8⟩ := EvS.cells hSw; clear hSw; go_simp; first | done | with_reducible rfl)
            try simp only [Act.put, List.getElem_toArray, List.getElem_cons_zero, List.getElem_cons_succ, List.setIfInBounds_toArray, List.set_cons_zero, List.set_cons_succ]
            refine wpAnyH_take (i := 1) (v := ?_) rfl (by kernel_rfl) (by kernel_rfl) (by kernel_rfl) (fun _ _ _ h => h) (Or.inl ⟨by rfl, ?_⟩) (by assumption) ?_; rotate_left
            · (intro wz hSw; obtain ⟨z0, z1, z2, z3, z4, z5, z6, z7, z8⟩ := EvS.cells hSw; clear hSw; go_simp; first | done | with_reducible rfl)
            try simp only [Act.put, List.getElem_toArray, List.getElem_cons_zero, List.getElem_cons_succ, List.setIfInBounds_toArray, List.set_cons_zero, List.set_cons_succ]
            refine wpAnyH_take (i := 2) (v := ?_) rfl (by kernel_rfl) (by kernel_rfl) (by kernel_rfl) (fun _ _ _ h => h) (Or.inl ⟨by rfl, ?_⟩) (by assumption) ?_; rotate_left
            · (intro wz hSw; obtain ⟨z0, z1, z2, z3, z4, z5, z6, z7, z8⟩ := EvS.cells hSw; clear hSw; go_simp; first | done | with_reducible rfl)
            try simp only [Act.put, List.getElem_toArray, List.getElem_cons_zero, List.getElem_cons_succ, List.setIfInBounds_toArray, List.set_cons_zero, List.set_cons_succ]
            refine wpAnyH_take (i := 5) (v := ?_) rfl (by kernel_rfl) (by kernel_rfl) (by kernel_rfl) (fun _ _ _ h => h) (Or.inl ⟨by rfl, ?_⟩) (by assumption) ?_; rotate_left
            · (intro wz hSw; obtain ⟨z0, z1, z2, z3, z4, z5, z6, z7, z8⟩ := EvS.cells hSw; clear hSw; go_simp; first | done | with_reducible rfl)
            try simp only [Act.put, List.getElem_toArray, List.getElem_cons_zero, List.getElem_cons_succ, List.setIfInBounds_toArray, List.set_cons_zero, List.set_cons_succ]
            refine wpAnyH_take (i := 6) (v := ?_) rfl (by kernel_rfl) (by kernel_rfl) (by kernel_rfl) (fun _ _ _ h => h) (Or.inl ⟨by rfl, ?_⟩) (by assumption) ?_; rotate_left
            · (intro wz hSw; obtain ⟨z0, z1, z2, z3, z4, z5, z6, z7, z8⟩ := EvS.cells hSw; clear hSw; go_simp; first | done | with_reducible rfl)
            try simp only [Act.put, List.getElem_toArray, List.getElem_cons_zero, List.getElem_cons_succ, List.setIfInBounds_toArray, List.set_cons_zero, List.set_cons_succ]
            refine wpAnyH_ready (rs := [3]) (by kernel_rfl) (by simp) ?_
            refine AllReadyH.cons rfl (fun K hK => ?_) ?_
            · rw [if_pos (by rfl)]
              go_simp
              refine hK.out _ _ ?_ (fun hHeld => ?_)
              · exact EvS.grow hHeld _
              clear hK K
              try simp only [Act.put, List.getElem_toArray, List.getElem_cons_zero, List.getElem_cons_succ, List.setIfInBounds_toArray, List.set_cons_zero, List.set_cons_succ]
              refine held_more (S' := EvS w id kd sn us mb dp (.slice oa n cl) (.slice ob m cp) tx [(wA13.heap.size, [(n : Int)])]) (fun _ h => EvS.less h) _ _ _ _ ?_
              replace hHeld : (EvS w id kd sn us mb dp (.slice oa n cl) (.slice ob m cp) tx [(wA13.heap.size, [(n : Int)])]) _ := EvS.more hHeld (ints_litd (zs := [(n : Int)]) (by first | rfl | simp) rfl (wf_one (by omega) (by omega)))
              refine wpAnyH_ready (rs := [4]) (by kernel_rfl) (by simp) ?_
              refine AllReadyH.cons rfl (fun K hK => ?_) ?_
              · rw [if_pos (by rfl)]
                go_simp
                go_at_call 84
                refine (HVN.out (wA13.heap.size) _ (EvS.get hHeld (wA13.heap.size, [(n : Int)]) (by simp))).mono ?_
                rintro r wB4 ⟨rfl, hbwB4⟩
                try go_simp
                refine hK.out _ _ ?_ (fun hHeld => ?_)
                · exact EvS.call hHeld hbwB4
                clear hK K
                try simp only [Act.put, List.getElem_toArray, List.getElem_cons_zero, List.getElem_cons_succ, List.setIfInBounds_toArray, List.set_cons_zero, List.set_cons_succ]
                clear hbwB4
                refine wpAnyH_ready (rs := [7]) (by kernel_rfl) (by simp) ?_
                refine AllReadyH.cons rfl (fun K hK => ?_) ?_
                · rw [if_pos (by rfl)]
                  go_simp
                  go_at_call 83
                  refine (HLV.out _ (HAT.out.below hHeld.1)).mono ?_
                  rintro r wB7 ⟨rfl, hbwB7⟩
                  try go_simp
                  refine hK.out _ _ ?_ (fun hHeld => ?_)
                  · exact EvS.call hHeld hbwB7
                  clear hK K
                  try simp only [Act.put, List.getElem_toArray, List.getElem_cons_zero, List.getElem_cons_succ, List.setIfInBounds_toArray, List.set_cons_zero, List.set_cons_succ]
                  clear hbwB7
                  refine wpAnyH_take (i := 8) (v := ?_) rfl (by kernel_rfl) (by kernel_rfl) (by kernel_rfl) (fun _ _ _ h => h) (Or.inl ⟨by rfl, ?_⟩) (by assumption) ?_; rotate_left
                  · (intro wz hSw; obtain ⟨z0, z1, z2, z3, z4, z5, z6, z7, z8⟩ := EvS.cells hSw; clear hSw; go_simp; first | done | with_reducible rfl)
                  try simp only [Act.put, List.getElem_toArray, List.getElem_cons_zero, List.getElem_cons_succ, List.setIfInBounds_toArray, List.set_cons_zero, List.set_cons_succ]
                  refine wpAnyH_take (i := 9) (v := ?_) rfl (by kernel_rfl) (by kernel_rfl) (by kernel_rfl) (fun _ _ _ h => h) (Or.inl ⟨by rfl, ?_⟩) (by assumption) ?_; rotate_left
                  · (intro wz hSw; obtain ⟨z0, z1, z2, z3, z4, z5, z6, z7, z8⟩ := EvS.cells hSw; clear hSw; go_simp; first | done | with_reducible rfl)
                  try simp only [Act.put, List.getElem_toArray, List.getElem_cons_zero, List.getElem_cons_succ, List.setIfInBounds_toArray, List.set_cons_zero, List.set_cons_succ]
                  refine wpAnyH_done (by kernel_rfl) ?_ _
                  have HH5 := hide (EvS.all hHeld)
                  clear hHeld HH4
                  go_wp2_with fail
                  refine wp_region_held_drew (S := EvS w id kd sn us mb dp (.slice oa n cl) (.slice ob m cp) tx []) (by kernel_rfl) HH5.out.drew (fun hHeld => ?_)
                  refine wpAnyH_take (i := 0) (v := ?_) rfl (by kernel_rfl) (by kernel_rfl) (by kernel_rfl) (fun _ _ _ h => h) (Or.inl ⟨by rfl, ?_⟩) (by assumption) ?_; rotate_left
                  · (intro wz hSw; obtain ⟨z0, z1, z2, z3, z4, z5, z6, z7, z8⟩ := EvS.cells hSw; clear hSw; go_simp; first | done | with_reducible rfl)
                  try simp only [Act.put, List.getElem_toArray, List.getElem_cons_zero, List.getElem_cons_succ, List.setIfInBounds_toArray, List.set_cons_zero, List.set_cons_succ]
                  refine wpAnyH_take (i := 1) (v := ?_) rfl (by kernel_rfl) (by kernel_rfl) (by kernel_rfl) (fun _ _ _ h => h) (Or.inl ⟨by rfl, ?_⟩) (by assumption) ?_; rotate_left
                  · (intro wz hSw; obtain ⟨z0, z1, z2, z3, z4, z5, z6, z7, z8⟩ := EvS.cells hSw; clear hSw; go_simp; first | done | with_reducible rfl)
                  try simp only [Act.put, List.getElem_toArray, List.getElem_cons_zero, List.getElem_cons_succ, List.setIfInBounds_toArray, List.set_cons_zero, List.set_cons_succ]
                  refine wpAnyH_take (i := 2) (v := ?_) rfl (by kernel_rfl) (by kernel_rfl) (by kernel_rfl) (fun _ _ _ h => h) (Or.inl ⟨by rfl, ?_⟩) (by assumption) ?_; rotate_left
                  · (intro wz hSw; obtain ⟨z0, z1, z2, z3, z4, z5, z6, z7, z8⟩ := EvS.cells hSw; clear hSw; go_simp; first | done | with_reducible rfl)
                  try simp only [Act.put, List.getElem_toArray, List.getElem_cons_zero, List.getElem_cons_succ, List.setIfInBounds_toArray, List.set_cons_zero, List.set_cons_succ]
                  refine wpAnyH_take (i := 5) (v := ?_) rfl (by kernel_rfl) (by kernel_rfl) (by kernel_rfl) (fun _ _ _ h => h) (Or.inl ⟨by rfl, ?_⟩) (by assumption) ?_; rotate_left
                  · (intro wz hSw; obtain ⟨z0, z1, z2, z3, z4, z5, z6, z7, z8⟩ := EvS.cells hSw; clear hSw; go_simp; first | done | with_reducible rfl)
                  try simp only [Act.put, List.getElem_toArray, List.getElem_cons_zero, List.getElem_cons_succ, List.setIfInBounds_toArray, List.set_cons_zero, List.set_cons_succ]
                  refine wpAnyH_take (i := 6) (v := ?_) rfl (by kernel_rfl) (by kernel_rfl) (by kernel_rfl) (fun _ _ _ h => h) (Or.inl ⟨by rfl, ?_⟩) (by assumption) ?_; rotate_left
                  · (intro wz hSw; obtain ⟨z0, z1, z2, z3, z4, z5, z6, z7, z8⟩ := EvS.cells hSw; clear hSw; go_simp; first | done | with_reducible rfl)
                  try simp only [Act.put, List.getElem_toArray, List.getElem_cons_zero, List.getElem_cons_succ, List.setIfInBounds_toArray, List.set_cons_zero, List.set_cons_succ]
                  refine wpAnyH_ready (rs := [3]) (by kernel_rfl) (by simp) ?_
                  refine AllReadyH.cons rfl (fun K hK => ?_) ?_
                  · rw [if_pos (by rfl)]
                    go_simp
                    refine hK.out _ _ ?_ (fun hHeld => ?_)
                    · exact EvS.grow hHeld _
                    clear hK K
                    try simp only [Act.put, List.getElem_toArray, List.getElem_cons_zero, List.getElem_cons_succ, List.setIfInBounds_toArray, List.set_cons_zero, List.set_cons_succ]
                    refine held_more (S' := EvS w id kd sn us mb dp (.slice oa n cl) (.slice ob m cp) tx [(wB7.heap.size, [(m : Int)])]) (fun _ h => EvS.less h) _ _ _ _ ?_
                    replace hHeld : (EvS w id kd sn us mb dp (.slice oa n cl) (.slice ob m cp) tx [(wB7.heap.size, [(m : Int)])]) _ := EvS.more hHeld (ints_litd (zs := [(m : Int)]) (by first | rfl | simp) rfl (wf_one (by omega) (by omega)))
                    refine wpAnyH_ready (rs := [4]) (by kernel_rfl) (by simp) ?_
                    refine AllReadyH.cons rfl (fun K hK => ?_) ?_
                    · rw [if_pos (by rfl)]
                      go_simp
                      go_at_call 84
                      refine (HVM.out (wB7.heap.size) _ (EvS.get hHeld (wB7.heap.size, [(m : Int)]) (by simp))).mono ?_
                      rintro r wC4 ⟨rfl, hbwC4⟩
                      try go_simp
                      refine hK.out _ _ ?_ (fun hHeld => ?_)
                      · exact EvS.call hHeld hbwC4
                      clear hK K
                      try simp only [Act.put, List.getElem_toArray, List.getElem_cons_zero, List.getElem_cons_succ, List.setIfInBounds_toArray, List.set_cons_zero, List.set_cons_succ]
                      clear hbwC4
                      refine wpAnyH_ready (rs := [7]) (by kernel_rfl) (by simp) ?_
                      refine AllReadyH.cons rfl (fun K hK => ?_) ?_
                      · rw [if_pos (by rfl)]
                        go_simp
                        go_at_call 84
                        refine (HPV.out _ (HBT.out.below hHeld.1)).mono ?_
                        rintro r wC7 ⟨rfl, hbwC7⟩
                        try go_simp
                        refine hK.out _ _ ?_ (fun hHeld => ?_)
                        · exact EvS.call hHeld hbwC7
                        clear hK K
                        try simp only [Act.put, List.getElem_toArray, List.getElem_cons_zero, List.getElem_cons_succ, List.setIfInBounds_toArray, List.set_cons_zero, List.set_cons_succ]
                        clear hbwC7
                        refine wpAnyH_take (i := 8) (v := ?_) rfl (by kernel_rfl) (by kernel_rfl) (by kernel_rfl) (fun _ _ _ h => h) (Or.inl ⟨by rfl, ?_⟩) (by assumption) ?_; rotate_left
                        · (intro wz hSw; obtain ⟨z0, z1, z2, z3, z4, z5, z6, z7, z8⟩ := EvS.cells hSw; clear hSw; go_simp; first | done | with_reducible rfl)
                        try simp only [Act.put, List.getElem_toArray, List.getElem_cons_zero, List.getElem_cons_succ, List.setIfInBounds_toArray, List.set_cons_zero, List.set_cons_succ]
                        refine wpAnyH_take (i := 9) (v := ?_) rfl (by kernel_rfl) (by kernel_rfl) (by kernel_rfl) (fun _ _ _ h => h) (Or.inl ⟨by rfl, ?_⟩) (by assumption) ?_; rotate_left
                        · (intro wz hSw; obtain ⟨z0, z1, z2, z3, z4, z5, z6, z7, z8⟩ := EvS.cells hSw; clear hSw; go_simp; first | done | with_reducible rfl)
                        try simp only [Act.put, List.getElem_toArray, List.getElem_cons_zero, List.getElem_cons_succ, List.setIfInBounds_toArray, List.set_cons_zero, List.set_cons_succ]
                        refine wpAnyH_done (by kernel_rfl) ?_ _
                        have HH6 := hide (EvS.all hHeld)
                        clear hHeld HH5
                        obtain ⟨z0, z1, z2, z3, z4, z5, z6, z7, z8⟩ := EvS.cells HH6.out
                        go_wp2_with fail
                        have hb9 := (Below.refl wC7.heap.size wC7).alloc (Nat.le_refl _) (.cells #[.int .i64 dp] 3)
                        have HB9 := hide (HH6.out.1.trans (hb9.mono HH6.out.1.size))
                        have HI9 := hide (ints_lit (W := wC7) (G := wC7.heap.size) (zs := [dp]) (cs := #[.int .i64 dp]) (ty := 3) rfl rfl (wf_one (by omega) (by omega)))
                        clear hb9 z0 z1 z2 z3 z4 z5 z6 z7 z8
                        refine (HVD.out (wC7.heap.size) _ HI9.out).mono ?_
                        rintro e w9 ⟨rfl, hbe⟩
                        go_wp2_with fail
                        go_ret2
                        exact ⟨rfl, HB9.out.trans (hbe.mono HB9.out.size)⟩
                      exact AllReadyH.nil
                    exact AllReadyH.nil
                  exact AllReadyH.nil
                exact AllReadyH.nil
              exact AllReadyH.nil
            exact AllReadyH.nil
          exact AllReadyH.nil
        exact AllReadyH.nil
      exact AllReadyH.nil
    exact AllReadyH.nil

end Go.Proofs.YtckkfjmjcknjdaaGreatDoor
