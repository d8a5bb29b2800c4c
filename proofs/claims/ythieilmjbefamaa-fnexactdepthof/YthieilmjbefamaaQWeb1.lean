/-
  Walks and mathematics of Web1.
-/
import Derived.Test.YthieilmjbefamaaQVTab
import Derived.Test.YthieilmjbefamaaQWalk10h
import Derived.Test.YthieilmjbefamaaQWalk12a
import Derived.Test.YthieilmjbefamaaQBox
import Derived.Deep.Cut
namespace Go.Proofs.Ythieilmjbefamaa.P11
end Go.Proofs.Ythieilmjbefamaa.P11
namespace Go.Proofs.Ythieilmjbefamaa.P3
end Go.Proofs.Ythieilmjbefamaa.P3
namespace Go.Proofs.Ythieilmjbefamaa.P9
end Go.Proofs.Ythieilmjbefamaa.P9
namespace Go.Proofs.Ythieilmjbefamaa
open Go.RowKit P1 P3 P5 P9 P11 P12 P14 P15 K
set_option linter.unusedVariables false
set_option linter.unusedSimpArgs false

def knotCs (e : EvV) (xl xp vp vs : Value) (t g : Bool) : Array Value := #[.int .i64 e.id, .int .i64 e.kind, .int .i64 e.sender, .int .i64 e.user, .int .i64 e.member, xl, .string ⟨e.text.toArray⟩, xp, .int .i64 e.depth, vp, vs, .bool t, .bool g]

structure StOf (w : World) (sn : Nat) (ss : List (List (Int × Int))) (i : Nat) (vs : Value) (t : Bool) : Prop where
  told : t = decide (i < sn)
  yes : i < sn → ∃ s xa xc, ss[i]? = some s ∧ vs = .slice xa s.length xc ∧ ItemsAt w xa s.length xc s
  no : ¬ i < sn → vs = .slice none 0 0

structure WebOk (w0 wr : World) (B bm : Nat) (T : Int → Option Value) (m : Nat) (D : DataW Value) (es : List EvV) (sn : Nat) (ss : List (List (Int × Int))) : Prop where
  tab : VTab wr bm T m D
  no : ∀ k, evFind es k = none → T k = none
  yes : ∀ k e, evFind es k = some e → ∃ q i xa xc ya yc vs t, T k = some (.pointer (some ⟨q, 0, none⟩)) ∧ B ≤ q ∧ es[i]? = some e ∧ evFind (es.take i) k = none ∧ wr.heap[q]? = some (.cells (knotCs e (.slice xa e.levels.length xc) (.slice ya e.prev.length yc) (.slice none 0 0) vs t false) 77 (0, 0)) ∧ IntsAt w0 xa e.levels.length xc e.levels ∧ IntsAt w0 ya e.prev.length yc e.prev ∧ StOf w0 sn ss i vs t

theorem evFind_snocW (es : List EvV) (x : EvV) (k : Int) : evFind (es ++ [x]) k = match evFind es k with | some e => some e | none => if x.id = k then some x else none := by
  induction es with
  | nil => simp [evFind]
  | cons y r ih =>
    rw [List.cons_append]
    unfold evFind
    split
    · rfl
    · exact ih

section
variable {w0 wr w2 : World} {B bm m sn : Nat} {T : Int → Option Value} {D : DataW Value} {es : List EvV} {ss : List (List (Int × Int))}

theorem WebOk.on (h : WebOk w0 wr B bm T m D es sn ss) (hb : Below wr.heap.size wr w2) : WebOk w0 w2 B bm T m D es sn ss :=
  ⟨h.tab.below hb, h.no, fun k e he => by
    obtain ⟨q, i, xa, xc, ya, yc, vs, t, h1, h2, h3, h4, h5, h6⟩ := h.yes k e he
    exact ⟨q, i, xa, xc, ya, yc, vs, t, h1, h2, h3, h4, (hb.block q (blk_lt h5)).trans h5, h6⟩⟩

theorem at_more {e : EvV} {x : EvV} {i : Nat} (h : es[i]? = some e) : (es ++ [x])[i]? = some e ∧ (es ++ [x]).take i = es.take i := by
  have hi := (List.getElem?_eq_some_iff.1 h).1
  exact ⟨by rw [List.getElem?_append_left hi]; exact h, List.take_append_of_le_length (by omega)⟩

theorem WebOk.old (h : WebOk w0 wr B bm T m D es sn ss) {x y : EvV} (hx : evFind es x.id = some y) : WebOk w0 wr B bm T m D (es ++ [x]) sn ss := by
  refine ⟨h.tab, fun k hk => ?_, fun k e he => ?_⟩
  · rw [evFind_snocW] at hk
    cases hf : evFind es k with
    | some e => rw [hf] at hk; cases hk
    | none => exact h.no k hf
  · rw [evFind_snocW] at he
    cases hf : evFind es k with
    | some e' =>
      rw [hf] at he
      cases he
      obtain ⟨q, i, xa, xc, ya, yc, vs, t, h1, h2, h3, h4, h5⟩ := h.yes k e hf
      obtain ⟨a1, a2⟩ := at_more (x := x) h3
      exact ⟨q, i, xa, xc, ya, yc, vs, t, h1, h2, a1, by rw [a2]; exact h4, h5⟩
    | none =>
      rw [hf] at he
      by_cases e2 : x.id = k
      · rw [e2, hf] at hx; cases hx
      · simp [e2] at he

theorem WebOk.new (h : WebOk w0 wr B bm T m D es sn ss) {x : EvV} (hw : (Lit.int .i64 x.id).wf = true) (hx : evFind es x.id = none) {xa : Option Addr} {xc : Nat} {ya : Option Addr} {yc : Nat} {vs : Value} {t : Bool} {q : Nat} (hB : B ≤ q) (hl : IntsAt w0 xa x.levels.length xc x.levels) (hp : IntsAt w0 ya x.prev.length yc x.prev) (hs : StOf w0 sn ss es.length vs t)
    (hq : wr.heap[q]? = some (.cells (knotCs x (.slice xa x.levels.length xc) (.slice ya x.prev.length yc) (.slice none 0 0) vs t false) 77 (0, 0))) (ho : w2.ownsMap Try.prog 3 holdR bm (m + 1) (D.put (.int .i64 x.id) (.held (.pointer (some ⟨q, 0, none⟩))))) (ht : wr.mapTurned w2 bm) :
    ∃ m', m' ≤ m + 1 ∧ WebOk w0 w2 B bm (updV T x.id (some (.pointer (some ⟨q, 0, none⟩)))) m' (D.put (.int .i64 x.id) (.held (.pointer (some ⟨q, 0, none⟩)))) (es ++ [x]) sn ss := by
  have hg := ht.grown
  have hst := h.tab.store hw ho
  have hne : ∀ {q : Nat} {cs : Array Value}, wr.heap[q]? = some (.cells cs 77 (0, 0)) → w2.heap[q]? = some (.cells cs 77 (0, 0)) := fun {q cs} hq => by
    refine (hg.block q (blk_lt hq) (fun e => ?_)).trans hq
    obtain ⟨es', clock, hbm, _⟩ := h.tab.own
    cases e
    rw [hq] at hbm
    cases hbm
  refine ⟨_, ?_, hst, fun k hk => ?_, fun k e he => ?_⟩
  · split <;> omega
  · rw [evFind_snocW] at hk
    cases hf : evFind es k with
    | some e => rw [hf] at hk; cases hk
    | none =>
      rw [hf] at hk
      by_cases e2 : x.id = k
      · simp [e2] at hk
      · rw [updV_other _ _ (fun e => e2 e.symm)]; exact h.no k hf
  · rw [evFind_snocW] at he
    cases hf : evFind es k with
    | some e' =>
      rw [hf] at he
      cases he
      have e2 : k ≠ x.id := fun e2 => by rw [← e2, hf] at hx; cases hx
      obtain ⟨q, i, xa, xc, ya, yc, vs, t, h1, h2, h3, h4, h5, h6⟩ := h.yes k e hf
      obtain ⟨a1, a2⟩ := at_more (x := x) h3
      exact ⟨q, i, xa, xc, ya, yc, vs, t, by rw [updV_other _ _ e2]; exact h1, h2, a1, by rw [a2]; exact h4, hne h5, h6⟩
    | none =>
      rw [hf] at he
      by_cases e2 : x.id = k
      · simp only [e2, ↓reduceIte, Option.some.injEq] at he
        subst he
        subst e2
        exact ⟨q, es.length, xa, xc, ya, yc, vs, t, updV_same _ _ _, hB, by simp, by rw [List.take_left' rfl]; exact hf, hne hq, hl, hp, hs⟩
      · simp [e2] at he
end

theorem take_snocW {es : List EvV} {j : Nat} {x : EvV} (h : es[j]? = some x) : es.take (j + 1) = es.take j ++ [x] := by
  rw [List.take_add_one, h]; rfl

def WebPost (oa : Option Addr) (n cap : Nat) (es : List EvV) (sn : Nat) (ss : List (List (Int × Int))) (w : World) (r : Ending) (w' : World) : Prop := ∃ bm T m D, r = .returned (.agg #[.slice oa n cap, .map (some bm)]) ∧ m ≤ n ∧ w.heap.size ≤ bm ∧ WebOk w w' w.heap.size bm T m D es sn ss ∧ Below w.heap.size w w'

set_option maxRecDepth 100000 in
set_option maxHeartbeats 8000000 in
theorem webOf_any (oa : Option Addr) (n cap : Nat) (es : List EvV) (so : Option Addr) (sn sc : Nat) (ss : List (List (Int × Int))) (vg : Value) (hn20 : n ≤ 1048576) (hids : ∀ e ∈ es, (Lit.int .i64 e.id).wf = true) (w : World) (hev : EvsAt w oa n cap es) (hst : StsAt w so sn sc ss) (hvg : ∃ og ng cg, vg = .slice og ng cg) :
    Calls Try.prog 25 #[.agg #[.slice oa n cap, .slice so sn sc, vg]] w (WebPost oa n cap es sn ss w) := by
  obtain ⟨og, ng, cg, rfl⟩ := hvg
  have hsm := Nat.le_trans hst.room hst.most
  unfold maxLen at hsm
  obtain ⟨W0, hW0⟩ : ∃ W0, (w.alloc (.cells #[.slice oa n cap, .slice so sn sc, .slice og ng cg] 33)).alloc (.cells #[.slice none 0 0, .map none] 57) = W0 := ⟨_, rfl⟩
  have hb0 : Below w.heap.size w W0 := by rw [← hW0]; exact ((Below.refl _ _).alloc (Nat.le_refl _) _).alloc (by simp) _
  have hs0 : W0.heap.size = w.heap.size + 1 + 1 := by rw [← hW0]; simp
  have hA0 : W0.heap[w.heap.size]? = some (.cells #[.slice oa n cap, .slice so sn sc, .slice og ng cg] 33 (0, 0)) := by
    rw [← hW0]
    exact (((Below.refl _ _).alloc (Nat.le_refl _) _ : Below (w.alloc (.cells #[.slice oa n cap, .slice so sn sc, .slice og ng cg] 33)).heap.size _ _).block w.heap.size (by simp)).trans (heap_alloc_new w _)
  have hR0 : W0.heap[w.heap.size + 1]? = some (.cells #[.slice none 0 0, .map none] 57 (0, 0)) := by
    rw [← hW0]
    have := heap_alloc_new (w.alloc (.cells #[.slice oa n cap, .slice so sn sc, .slice og ng cg] 33)) (.cells #[.slice none 0 0, .map none] 57)
    rw [World.size_alloc] at this
    exact this
  obtain ⟨W1, hW1⟩ : ∃ W1, (W0.alloc (.map #[] 0)).alloc (.cells #[.slice oa n cap, .map (some W0.heap.size)] 57) = W1 := ⟨_, rfl⟩
  have hmm : (Instr.makeMap 55 none).run Try.prog W0 = .ok (.map (some W0.heap.size)) (W0.alloc (.map #[] 0)) := by
    simp [Instr.makeMap, Sem.run_bind, run_underlying Try.underlying55 W0, asInt, Result.andThen, newObj]
    try rfl
  have hb1 : Below W0.heap.size W0 W1 := by rw [← hW1]; exact ((Below.refl _ _).alloc (Nat.le_refl _) _).alloc (by simp) _
  have hT1 : VTab W1 W0.heap.size (fun _ => none) 0 (.map []) := by
    rw [← hW1]
    exact (vTab_new W0).below ((Below.refl _ _).alloc (Nat.le_refl _) _)
  have hV1 : W1.heap[W0.heap.size + 1]? = some (.cells #[.slice oa n cap, .map (some W0.heap.size)] 57 (0, 0)) := by
    rw [← hW1]
    have := heap_alloc_new (W0.alloc (.map #[] 0)) (.cells #[.slice oa n cap, .map (some W0.heap.size)] 57)
    rw [World.size_alloc] at this
    exact this
  have r0 := blk_cell hA0 0 rfl
  have HA1 := hide ((hb1.block _ (blk_lt hA0)).trans hA0)
  have HR1 := hide ((hb1.block _ (blk_lt hR0)).trans hR0)
  have HV1 := hide hV1
  have HT1 := hide hT1
  have hbw1 : Below w.heap.size w W1 := hb0.trans (hb1.mono hb0.size)
  have HBW1 := hide hbw1
  have HW0 := hide hW0
  have HW1 := hide hW1
  have HEV := hide hev
  have HST := hide hst
  have HID := hide hids
  have HN := hide hev.len
  have hlt1 := blk_lt hV1
  have HS0 := hide hs0
  clear hs0 hW0 hW1 hb0 hA0 hR0 hb1 hT1 hV1 hbw1 hev hst hids
  go_enter Try.func25, Try.ntmps25
  go_upto_region 1 with fail
  rw [HW0.out]
  clear HW0
  go_upto_region 2 with fail
  rw [HW1.out]
  clear HW1 r0 hmm
  obtain ⟨bm, hbm⟩ : ∃ bm, W0.heap.size = bm := ⟨_, rfl⟩
  rw [hbm] at HV1 HT1 hlt1 HS0
  simp only [hbm]
  have hblo : w.heap.size + 1 + 1 = bm := HS0.out.symm
  clear hbm HS0
  obtain ⟨b, hbd⟩ : ∃ b, w.heap.size = b := ⟨_, rfl⟩
  rw [hbd] at HA1 HR1 hblo
  have HBLO := hide hblo
  have HBD := hide hbd
  have hbb1 : b < W1.heap.size := blk_lt HA1.out
  have r1 := blk_cell HA1.out 0 rfl
  have hWeb0 := hide (show WebOk w W1 b bm (fun _ => none) 0 (.map []) (es.take 0) sn ss from ⟨HT1.out, fun k _ => rfl, fun k e h => by simp [evFind] at h⟩)
  simp only [hbd]
  clear hbd hblo
  go_wp2_with fail
  go_loopw [16] (fun x wr => ∃ (j : Nat) (T : Int → Option Value) (m : Nat) (D : DataW Value), x = .int .i64 (j : Int) ∧ j ≤ n ∧ m ≤ j ∧ WebOk w wr b bm T m D (es.take j) sn ss ∧ W1.grownBy wr (some bm)) (fun x _ => n - (intOf x).toNat)
  case atStart => exact ⟨0, _, _, _, rfl, Nat.zero_le _, Nat.le_refl _, hWeb0.out, ⟨rfl, rfl, rfl, Nat.le_refl _, fun _ _ _ => rfl⟩⟩
  case round =>
    obtain ⟨j, T, m, D, rfl, hj, hm, hW, hg⟩ := hrel
    have hbe := HBD.out
    have hbl := HBLO.out
    have HW := hide hW
    have HG := hide hg
    have hszr := hg.size
    have hbr : Below w.heap.size w wr := HBW1.out.grown hg HBW1.out.size (fun k hk => by cases hk; omega)
    have HBR := hide hbr
    have hAr := (hg.block b (blk_lt HA1.out) (fun e => by have := Option.some.inj e; omega)).trans HA1.out
    have hVr := (hg.block (bm + 1) (blk_lt HV1.out) (fun e => by have := Option.some.inj e; omega)).trans HV1.out
    have HAR := hide hAr
    have HVR := hide hVr
    clear hW hg hbr hAr hVr hWeb0 r1 hbe
    by_cases hlt : j < n
    · have j0 : (j : Int) < (n : Int) := by omega
      obtain ⟨x, bx, qx, xa, xc, ya, yc, hx, hidx, hev0⟩ := HEV.out.get Try.underlying30 infoIV j hlt
      have hev := hev0.below HBR.out
      have hwx := HID.out x (List.mem_of_getElem? hx)
      have HTK := hide (take_snocW hx)
      obtain ⟨c0, c1, c2, c3, c4, c5, c6, c7, c8⟩ := hev.cs
      have HEV0 := hide hev0
      have HWX := hide hwx
      have hll : (es.take j).length = j := by rw [List.length_take, HN.out]; omega
      have HLL := hide hll
      obtain ⟨Wa, hWa⟩ : ∃ Wa, wr.alloc (.cells (evcells x.id x.kind x.sender x.user x.member x.depth (.slice xa x.levels.length xc) (.slice ya x.prev.length yc) x.text) 49) = Wa := ⟨_, rfl⟩
      have hba : Below wr.heap.size wr Wa := by rw [← hWa]; exact (Below.refl _ _).alloc (Nat.le_refl _) _
      have hEa : EB Wa wr.heap.size x.id x.kind x.sender x.user x.member x.depth (.slice xa x.levels.length xc) (.slice ya x.prev.length yc) x.text := by rw [← hWa]; exact EB.new _ _ _ _ _ _ _ _ _ _
      have HWA := hide hWa
      have HWB := hide (HW.out.on hba)
      have HBA := hide hba
      have hVa := (hba.block _ (blk_lt HVR.out)).trans HVR.out
      have v1 := blk_cell hVa 1 rfl
      have hAa := (hba.block _ (blk_lt HAR.out)).trans HAR.out
      have ar1 := blk_cell hAa 1 rfl
      have hlk := HWB.out.tab.look Try.underlying55 (Try.zeroValue53 _) hwx
      have hsza := hba.size
      have HEA := hide hEa
      have HAA := hide hAa
      have HVA := hide hVa
      clear hx hev hev0 hll hba hEa hWa hAa hVa
      go_upto_region 5 with fail
      rw [HWA.out]
      clear HWA c0 c1 c2 c3 c4 c5 c6 c7 c8 hidx
      obtain ⟨a0, a1, a2, a3, a4, a5, a6, a7, a8⟩ := HEA.out.ev
      have hla := HEA.out.lt
      have hlb : b < Wa.heap.size := by omega
      have hlv : bm + 1 < Wa.heap.size := by omega
      cases hF : evFind (es.take j) x.id with
      | some y =>
        obtain ⟨q, i, ua, uc, va, vc, vs, t, h1, _⟩ := HWB.out.yes x.id y hF
        rw [h1] at hlk
        simp only [Option.getD_some, Option.isSome_some] at hlk
        have HO := hide (HWB.out.old hF)
        clear h1 hF
        go_wp2_with fail
        go_roundw
        case rel => exact ⟨j + 1, T, m, D, by go_num, by omega, by omega, by rw [HTK.out]; exact HO.out, grown_trans HG.out ((grown_below HBA.out).but _)⟩
        case measure => simp [intOf]; omega
      | none =>
        have h1 := HWB.out.no x.id hF
        rw [h1] at hlk
        simp only [Option.getD_none, Option.isSome_none] at hlk
        have HHF := hide hF
        clear h1 hF
        by_cases hjs : j < sn
        · have js0 : (j : Int) < (sn : Int) := by omega
          obtain ⟨s, bs, qs, sa, sc', hs, hidxs, hcs, hits⟩ := HST.out.get Try.underlying31 infoSt j hjs
          obtain ⟨Wk, hWk⟩ : ∃ Wk, Wa.alloc (.cells (knotCs x (.slice xa x.levels.length xc) (.slice ya x.prev.length yc) (.slice none 0 0) (.slice sa s.length sc') true false) 77) = Wk := ⟨_, rfl⟩
          have hbk : Below Wa.heap.size Wa Wk := by rw [← hWk]; exact (Below.refl _ _).alloc (Nat.le_refl _) _
          have hck : Wk.heap[Wa.heap.size]? = some (.cells (knotCs x (.slice xa x.levels.length xc) (.slice ya x.prev.length yc) (.slice none 0 0) (.slice sa s.length sc') true false) 77 (0, 0)) := by rw [← hWk]; exact heap_alloc_new _ _
          have hc2 : ∀ o, (Wa.alloc o).cell? ⟨bs, qs, none⟩ = some (.slice sa s.length sc') := fun o => by
            have h1 := ((HBR.out.trans (HBA.out.mono HBR.out.size)).cell (cell_lt hcs)).trans hcs
            exact (((Below.refl Wa.heap.size Wa).alloc (Nat.le_refl _) o).cell (cell_lt h1)).trans h1
          have HSO := hide (show StOf w sn ss (es.take j).length (.slice sa s.length sc') true from ⟨by rw [HLL.out]; simp [hjs], fun _ => ⟨s, sa, sc', by rw [HLL.out]; exact hs, rfl, hits⟩, fun h => absurd (by rw [HLL.out]; exact hjs) h⟩)
          have HWK := hide hWk
          have HWB2 := hide (HWB.out.on hbk)
          have hown1 := HWB2.out.tab.own
          have hkey := keyI HWX.out
          have e0k := (hbk.cell hla).trans a0
          have v1k := (hbk.cell (by have := blk_lt HVA.out; exact this)).trans v1
          have HCK := hide hck
          have HBK := hide hbk
          clear hs hits hWk hbk hck hcs
          go_upto_region 10 with fail
          try rw [show Wa.alloc (.cells #[.int .i64 x.id, .int .i64 x.kind, .int .i64 x.sender, .int .i64 x.user, .int .i64 x.member, .slice xa x.levels.length xc, .string ⟨x.text.toArray⟩, .slice ya x.prev.length yc, .int .i64 x.depth, .slice none 0 0, .slice sa s.length sc', .bool true, .bool false] 77) = Wk from HWK.out]
          go_wp2_with (at_mapUpdate; refine wpList_mapUpdate_in _ rfl _ _ _ 55 rfl 3 53 (Maps.int_keyed Try.underlying3) Try.underlying55 holdR bm m D rfl hown1 (by unfold maxLen; omega) _ _ (.int .i64 x.id) rfl rfl hkey (.held (.pointer (some ⟨Wa.heap.size, 0, none⟩))) [] rfl ?_; intro w2 hown2 hturn2)
          obtain ⟨m2, hm2, hW2⟩ := HWB2.out.new HWX.out HHF.out (by omega) HEV0.out.lev HEV0.out.prv HSO.out HCK.out hown2 hturn2
          rw [← HTK.out] at hW2
          have hG2 : W1.grownBy w2 (some bm) := grown_trans (grown_trans HG.out ((grown_below (HBA.out.trans (HBK.out.mono hsza))).but _)) hturn2.grown
          have HW2 := hide hW2
          have HG2 := hide hG2
          clear hown2 hturn2 hW2 hG2 hown1
          go_wp2_with fail
          go_roundw
          case rel => exact ⟨j + 1, _, m2, _, by go_num, by omega, by omega, HW2.out, HG2.out⟩
          case measure => simp [intOf]; omega
        · have js0 : ¬ ((j : Int) < (sn : Int)) := by omega
          obtain ⟨Wk, hWk⟩ : ∃ Wk, Wa.alloc (.cells (knotCs x (.slice xa x.levels.length xc) (.slice ya x.prev.length yc) (.slice none 0 0) (.slice none 0 0) false false) 77) = Wk := ⟨_, rfl⟩
          have hbk : Below Wa.heap.size Wa Wk := by rw [← hWk]; exact (Below.refl _ _).alloc (Nat.le_refl _) _
          have hck : Wk.heap[Wa.heap.size]? = some (.cells (knotCs x (.slice xa x.levels.length xc) (.slice ya x.prev.length yc) (.slice none 0 0) (.slice none 0 0) false false) 77 (0, 0)) := by rw [← hWk]; exact heap_alloc_new _ _
          have HSO := hide (show StOf w sn ss (es.take j).length (.slice none 0 0) false from ⟨by rw [HLL.out]; simp [hjs], fun h => absurd (by rw [HLL.out] at h; exact h) hjs, fun _ => rfl⟩)
          have HWK := hide hWk
          have HWB2 := hide (HWB.out.on hbk)
          have hown1 := HWB2.out.tab.own
          have hkey := keyI HWX.out
          have e0k := (hbk.cell hla).trans a0
          have v1k := (hbk.cell (by have := blk_lt HVA.out; exact this)).trans v1
          have HCK := hide hck
          have HBK := hide hbk
          clear hWk hbk hck
          go_upto_region 10 with fail
          try rw [show Wa.alloc (.cells #[.int .i64 x.id, .int .i64 x.kind, .int .i64 x.sender, .int .i64 x.user, .int .i64 x.member, .slice xa x.levels.length xc, .string ⟨x.text.toArray⟩, .slice ya x.prev.length yc, .int .i64 x.depth, .slice none 0 0, .slice none 0 0, .bool false, .bool false] 77) = Wk from HWK.out]
          go_wp2_with (at_mapUpdate; refine wpList_mapUpdate_in _ rfl _ _ _ 55 rfl 3 53 (Maps.int_keyed Try.underlying3) Try.underlying55 holdR bm m D rfl hown1 (by unfold maxLen; omega) _ _ (.int .i64 x.id) rfl rfl hkey (.held (.pointer (some ⟨Wa.heap.size, 0, none⟩))) [] rfl ?_; intro w2 hown2 hturn2)
          obtain ⟨m2, hm2, hW2⟩ := HWB2.out.new HWX.out HHF.out (by omega) HEV0.out.lev HEV0.out.prv HSO.out HCK.out hown2 hturn2
          rw [← HTK.out] at hW2
          have hG2 : W1.grownBy w2 (some bm) := grown_trans (grown_trans HG.out ((grown_below (HBA.out.trans (HBK.out.mono hsza))).but _)) hturn2.grown
          have HW2 := hide hW2
          have HG2 := hide hG2
          clear hown2 hturn2 hW2 hG2 hown1
          go_wp2_with fail
          go_roundw
          case rel => exact ⟨j + 1, _, m2, _, by go_num, by omega, by omega, HW2.out, HG2.out⟩
          case measure => simp [intOf]; omega
    · have hall : es.take j = es := List.take_of_length_le (by rw [HN.out]; omega)
      rw [hall] at HW
      have hRr := (HG.out.block (b + 1) (blk_lt HR1.out) (fun e => by have := Option.some.inj e; omega)).trans HR1.out
      have v0 := blk_cell HVR.out 0 rfl
      have v1 := blk_cell HVR.out 1 rfl
      have u0 := blk_cell hRr 0 rfl
      have u1 := blk_cell hRr 1 rfl
      have y0 := blk_free hRr 0
      have y1 := blk_free hRr 1
      have HRR := hide hRr
      clear hRr
      go_wp2_with fail
      obtain ⟨w9, hw9⟩ : ∃ w9, ((wr.setCell ⟨b + 1, 0, none⟩ (.slice oa n cap)).setCell ⟨b + 1, 1, none⟩ (.map (some bm))) = w9 := ⟨_, rfl⟩
      obtain ⟨hr, hg9⟩ := blk_setAll [.slice oa n cap, .map (some bm)] wr _ 0 HRR.out
      rw [show wr.setCells (b + 1) 0 [.slice oa n cap, .map (some bm)] = w9 from hw9] at hr hg9
      rw [hw9]
      clear u0 u1
      have u0 : w9.cell? ⟨b + 1, 0, none⟩ = some (.slice oa n cap) := blk_cell hr 0 rfl
      have u1 : w9.cell? ⟨b + 1, 1, none⟩ = some (.map (some bm)) := blk_cell hr 1 rfl
      refine bodyPost_ret (v := .agg #[.slice oa n cap, .map (some bm)]) (by simp [results, Try.results25, go_sem, u0, u1]) rfl ?_
      have hbe := HBD.out
      have hWr := HW.out
      refine ⟨bm, T, m, D, rfl, by omega, by omega, ⟨hWr.tab.kept hg9 (fun e => by have := Option.some.inj e; omega), hWr.no, fun k e he => ?_⟩, HBR.out.grown hg9 HBR.out.size (fun k hk => by cases hk; omega)⟩
      obtain ⟨q, i, ua, uc, va, vc, vs, t, h1, h2, h3, h4, h5, h6⟩ := hWr.yes k e he
      refine ⟨q, i, ua, uc, va, vc, vs, t, h1, by omega, h3, h4, (hg9.block q (blk_lt h5) (fun e2 => ?_)).trans h5, h6⟩
      have e3 := Option.some.inj e2
      rw [e3, HRR.out] at h5
      cases h5

end Go.Proofs.Ythieilmjbefamaa
