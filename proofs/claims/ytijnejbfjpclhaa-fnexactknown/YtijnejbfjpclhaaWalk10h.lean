/-
  Walks of chapter 10: an event of a list by its Id, and Known, of the program and of the specification (made by wip/tools/gen10h.py).
-/
import Derived.Test.YtijnejbfjpclhaaWalk10g
namespace Go.Proofs.Ytijnejbfjpclhaa
open Go.RowKit P1 P3 P5 P9 P11 P12 P14 K
set_option linter.unusedVariables false
set_option linter.unusedSimpArgs false

/-- The event without anything. -/
def noEv : EvV := ⟨0, 0, 0, 0, 0, [], [], [], 0⟩
/-- The event of an Id, and whether there is one. -/
def evKn (es : List EvV) (id : Int) : EvV × Bool := match evFind es id with | some e => (e, true) | none => (noEv, false)

theorem evKn_some {es : List EvV} {id : Int} {e : EvV} (h : evFind es id = some e) : evKn es id = (e, true) := by unfold evKn; rw [h]
theorem evKn_none {es : List EvV} {id : Int} (h : evFind es id = none) : evKn es id = (noEv, false) := by unfold evKn; rw [h]

theorem evFind_at {es : List EvV} {j : Nat} {e : EvV} (id : Int) (h : es[j]? = some e) : evFind (es.drop j) id = if e.id = id then some e else evFind (es.drop (j + 1)) id := by
  obtain ⟨hj, rfl⟩ := List.getElem?_eq_some_iff.1 h
  rw [List.drop_eq_getElem_cons hj]
  rfl

theorem evKn_fine {es : List EvV} (h : FineE es) (id : Int) : (evKn es id).1.levels.length ≤ 1048576 ∧ (evKn es id).1.text.length ≤ 1048576 ∧ (evKn es id).1.prev.length ≤ 1048576 := by
  cases hf : evFind es id with
  | none => rw [evKn_none hf]; simp [noEv]
  | some e => rw [evKn_some hf]; exact h.one (evFind_mem hf).1

/-- An event that is found: its lists are shared. -/
def FdPost (w : World) (e : EvV) (ok : Bool) (r : Ending) (w' : World) : Prop :=
  ∃ xa xc ya yc, r = .returned (.tuple #[evv e (.slice xa e.levels.length xc) (.slice ya e.prev.length yc), .bool ok]) ∧ IntsAt w' xa e.levels.length xc e.levels ∧ IntsAt w' ya e.prev.length yc e.prev ∧ Below w.heap.size w w'

/-- An event that is known: its lists are the call's own. -/
def KnPost (w : World) (e : EvV) (ok : Bool) (r : Ending) (w' : World) : Prop :=
  ∃ vl vp, r = .returned (.tuple #[evv e vl vp, .bool ok]) ∧ EvOwn w' w.heap.size vl vp e.levels.length e.prev.length e.levels e.prev ∧ Below w.heap.size w w'

set_option maxHeartbeats 4000000 in
theorem implFind_any (oa : Option Addr) (n cap : Nat) (es : List EvV) (id : Int) (w : World) (hat : EvsAt w oa n cap es) :
    Calls Try.prog 39 #[.slice oa n cap, .int .i64 id] w (FdPost w (evKn es id).1 (evKn es id).2) := by
  have hmx := Nat.le_trans hat.room hat.most
  unfold maxLen at hmx
  have HN := hide hat.len
  have HAT := hide hat
  have HR0 := hide (EB.new w 0 0 0 0 0 0 (.slice none 0 0) (.slice none 0 0) [])
  have HB0 := hide ((Below.refl w.heap.size w).alloc (Nat.le_refl _) (.cells (evcells 0 0 0 0 0 0 (.slice none 0 0) (.slice none 0 0) []) 37))
  obtain ⟨R, hR⟩ : ∃ R, evKn es id = R := ⟨_, rfl⟩
  rw [hR]
  have HFD := hide (show ∀ x, evFind es id = some x → R = (x, true) from fun x hx => by rw [← hR]; exact evKn_some hx)
  have HFN := hide (show evFind es id = none → R = (noEv, false) from fun hx => by rw [← hR]; exact evKn_none hx)
  clear hat hR
  go_enter Try.func39, Try.ntmps39
  go_wp2_with fail
  go_loopw [10] (fun i wr => ∃ (j : Nat), i = .int .i64 (j : Int) ∧ j ≤ n ∧ evFind (es.drop j) id = evFind es id ∧ EB wr w.heap.size 0 0 0 0 0 0 (.slice none 0 0) (.slice none 0 0) [] ∧ Below w.heap.size w wr) (fun i _ => n - (intOf i).toNat)
  case atStart => exact ⟨0, rfl, Nat.zero_le _, rfl, HR0.out, HB0.out⟩
  case round =>
    obtain ⟨j, rfl, hj, hrest, hres, hbel⟩ := hrel
    have HRS := hide hres
    have hsz := hbel.size
    have hlt0 := hres.lt
    clear hres
    by_cases hlt : j < n
    · have j0 : (j : Int) < (n : Int) := by omega
      obtain ⟨e, b, q, xa, xc, ya, yc, he, hidx, hev⟩ := HAT.out.get Try.underlying40 infoIV j hlt
      obtain ⟨c0, c1, c2, c3, c4, c5, c6, c7, c8⟩ := (hev.below hbel).cs
      rw [evFind_at id he] at hrest
      have HEV := hide hev
      clear hev he
      by_cases hk : e.id = id
      · have g : (e.id == id) = true := by simpa using hk
        rw [if_pos hk] at hrest
        have hRe := HFD.out e hrest.symm
        subst hRe
        clear hk hrest HFN HFD
        obtain ⟨r0, r1, r2, r3, r4, r5, r6, r7, r8⟩ := HRS.out.ev
        have z0 := HRS.out.free 0
        have z1 := HRS.out.free 1
        have z2 := HRS.out.free 2
        have z3 := HRS.out.free 3
        have z4 := HRS.out.free 4
        have z5 := HRS.out.free 5
        have z6 := HRS.out.free 6
        have z7 := HRS.out.free 7
        have z8 := HRS.out.free 8
        go_wp2_with fail
        obtain ⟨w7, hw7, hE7, hg7⟩ := HRS.out.all e.id e.kind e.sender e.user e.member e.depth (.slice xa e.levels.length xc) (.slice ya e.prev.length yc) e.text
        rw [hw7]
        have hB7 := hbel.grown hg7 hsz (fun k hk => by cases hk; exact Nat.le_refl _)
        have hBA := (Below.refl w7.heap.size w7).alloc (Nat.le_refl _) (.cells (evcells e.id e.kind e.sender e.user e.member e.depth (.slice xa e.levels.length xc) (.slice ya e.prev.length yc) e.text) 37)
        obtain ⟨q0, q1, q2, q3, q4, q5, q6, q7, q8⟩ := (hE7.on hBA hE7.lt).ev
        have hB8 := hB7.trans (hBA.mono hB7.size)
        exact bodyPost_ret (v := .tuple #[evv e (.slice xa e.levels.length xc) (.slice ya e.prev.length yc), .bool true]) (by simp [results, Try.results39, go_sem, q0, q1, q2, q3, q4, q5, q6, q7, q8]) rfl ⟨xa, xc, ya, yc, rfl, HEV.out.lev.below hB8, HEV.out.prv.below hB8, hB8⟩
      · have g : (e.id == id) = false := by simpa using hk
        rw [if_neg hk] at hrest
        have HR := hide hrest
        clear hk hrest
        have HBA := hide ((Below.refl wr.heap.size wr).alloc (Nat.le_refl _) (.cells (evcells e.id e.kind e.sender e.user e.member e.depth (.slice xa e.levels.length xc) (.slice ya e.prev.length yc) e.text) 37))
        have HR1 := hide (HRS.out.on HBA.out HRS.out.lt)
        have HB1 := hide (hbel.trans (HBA.out.mono hsz))
        go_wp2_with fail
        go_roundw
        case rel => exact ⟨j + 1, by go_num, by omega, HR.out, HR1.out, HB1.out⟩
        case measure => simp [intOf]; omega
    · have hjn : j = n := by omega
      have hnone : evFind es id = none := by rw [← hrest, hjn, ← HN.out, List.drop_length]; rfl
      have hRe := HFN.out hnone
      subst hRe
      clear hrest hnone HFD HFN
      obtain ⟨r0, r1, r2, r3, r4, r5, r6, r7, r8⟩ := HRS.out.ev
      have z0 := HRS.out.free 0
      have z1 := HRS.out.free 1
      have z2 := HRS.out.free 2
      have z3 := HRS.out.free 3
      have z4 := HRS.out.free 4
      have z5 := HRS.out.free 5
      have z6 := HRS.out.free 6
      have z7 := HRS.out.free 7
      have z8 := HRS.out.free 8
      go_wp2_with fail
      obtain ⟨w7, hw7, hE7, hg7⟩ := HRS.out.all 0 0 0 0 0 0 (.slice none 0 0) (.slice none 0 0) []
      try rw [hw7]
      obtain ⟨q0, q1, q2, q3, q4, q5, q6, q7, q8⟩ := hE7.ev
      have hB7 := hbel.grown hg7 hsz (fun k hk => by cases hk; exact Nat.le_refl _)
      exact bodyPost_ret (v := .tuple #[evv noEv (.slice none 0 0) (.slice none 0 0), .bool false]) (by simp [results, Try.results39, go_sem, q0, q1, q2, q3, q4, q5, q6, q7, q8, noEv]) rfl ⟨none, 0, none, 0, rfl, ints_nil _, ints_nil _, hB7⟩

set_option maxHeartbeats 4000000 in
theorem specFind_any (oa : Option Addr) (n cap : Nat) (es : List EvV) (id : Int) (w : World) (hat : EvsAt w oa n cap es) :
    Calls Try.prog 36 #[.slice oa n cap, .int .i64 id] w (FdPost w (evKn es id).1 (evKn es id).2) := by
  have hmx := Nat.le_trans hat.room hat.most
  unfold maxLen at hmx
  have HN := hide hat.len
  have HAT := hide hat
  have HR0 := hide (EB.new w 0 0 0 0 0 0 (.slice none 0 0) (.slice none 0 0) [])
  have HB0 := hide ((Below.refl w.heap.size w).alloc (Nat.le_refl _) (.cells (evcells 0 0 0 0 0 0 (.slice none 0 0) (.slice none 0 0) []) 37))
  obtain ⟨R, hR⟩ : ∃ R, evKn es id = R := ⟨_, rfl⟩
  rw [hR]
  have HFD := hide (show ∀ x, evFind es id = some x → R = (x, true) from fun x hx => by rw [← hR]; exact evKn_some hx)
  have HFN := hide (show evFind es id = none → R = (noEv, false) from fun hx => by rw [← hR]; exact evKn_none hx)
  clear hat hR
  go_enter Try.func36, Try.ntmps36
  go_wp2_with fail
  go_loopw [6] (fun i wr => ∃ (j : Nat), i = .int .i64 (j : Int) ∧ j ≤ n ∧ evFind (es.drop j) id = evFind es id ∧ EB wr w.heap.size 0 0 0 0 0 0 (.slice none 0 0) (.slice none 0 0) [] ∧ Below w.heap.size w wr) (fun i _ => n - (intOf i).toNat)
  case atStart => exact ⟨0, rfl, Nat.zero_le _, rfl, HR0.out, HB0.out⟩
  case round =>
    obtain ⟨j, rfl, hj, hrest, hres, hbel⟩ := hrel
    have HRS := hide hres
    have hsz := hbel.size
    have hlt0 := hres.lt
    clear hres
    by_cases hlt : j < n
    · have j0 : (j : Int) < (n : Int) := by omega
      obtain ⟨e, b, q, xa, xc, ya, yc, he, hidx, hev⟩ := HAT.out.get Try.underlying40 infoIV j hlt
      obtain ⟨c0, c1, c2, c3, c4, c5, c6, c7, c8⟩ := (hev.below hbel).cs
      rw [evFind_at id he] at hrest
      have HEV := hide hev
      clear hev he
      by_cases hk : e.id = id
      · have g : (e.id == id) = true := by simpa using hk
        rw [if_pos hk] at hrest
        have hRe := HFD.out e hrest.symm
        subst hRe
        clear hk hrest HFN HFD
        obtain ⟨r0, r1, r2, r3, r4, r5, r6, r7, r8⟩ := HRS.out.ev
        have z0 := HRS.out.free 0
        have z1 := HRS.out.free 1
        have z2 := HRS.out.free 2
        have z3 := HRS.out.free 3
        have z4 := HRS.out.free 4
        have z5 := HRS.out.free 5
        have z6 := HRS.out.free 6
        have z7 := HRS.out.free 7
        have z8 := HRS.out.free 8
        go_wp2_with fail
        obtain ⟨w7, hw7, hE7, hg7⟩ := HRS.out.all e.id e.kind e.sender e.user e.member e.depth (.slice xa e.levels.length xc) (.slice ya e.prev.length yc) e.text
        rw [hw7]
        have hB7 := hbel.grown hg7 hsz (fun k hk => by cases hk; exact Nat.le_refl _)
        obtain ⟨q0, q1, q2, q3, q4, q5, q6, q7, q8⟩ := hE7.ev
        have hB8 := hB7
        exact bodyPost_ret (v := .tuple #[evv e (.slice xa e.levels.length xc) (.slice ya e.prev.length yc), .bool true]) (by simp [results, Try.results36, go_sem, q0, q1, q2, q3, q4, q5, q6, q7, q8]) rfl ⟨xa, xc, ya, yc, rfl, HEV.out.lev.below hB8, HEV.out.prv.below hB8, hB8⟩
      · have g : (e.id == id) = false := by simpa using hk
        rw [if_neg hk] at hrest
        have HR := hide hrest
        clear hk hrest
        go_wp2_with fail
        go_roundw
        case rel => exact ⟨j + 1, by go_num, by omega, HR.out, HRS.out, hbel⟩
        case measure => simp [intOf]; omega
    · have hjn : j = n := by omega
      have hnone : evFind es id = none := by rw [← hrest, hjn, ← HN.out, List.drop_length]; rfl
      have hRe := HFN.out hnone
      subst hRe
      clear hrest hnone HFD HFN
      obtain ⟨r0, r1, r2, r3, r4, r5, r6, r7, r8⟩ := HRS.out.ev
      have z0 := HRS.out.free 0
      have z1 := HRS.out.free 1
      have z2 := HRS.out.free 2
      have z3 := HRS.out.free 3
      have z4 := HRS.out.free 4
      have z5 := HRS.out.free 5
      have z6 := HRS.out.free 6
      have z7 := HRS.out.free 7
      have z8 := HRS.out.free 8
      go_wp2_with fail
      obtain ⟨w7, hw7, hE7, hg7⟩ := HRS.out.all 0 0 0 0 0 0 (.slice none 0 0) (.slice none 0 0) []
      try rw [hw7]
      obtain ⟨q0, q1, q2, q3, q4, q5, q6, q7, q8⟩ := hE7.ev
      have hB7 := hbel.grown hg7 hsz (fun k hk => by cases hk; exact Nat.le_refl _)
      exact bodyPost_ret (v := .tuple #[evv noEv (.slice none 0 0) (.slice none 0 0), .bool false]) (by simp [results, Try.results36, go_sem, q0, q1, q2, q3, q4, q5, q6, q7, q8, noEv]) rfl ⟨none, 0, none, 0, rfl, ints_nil _, ints_nil _, hB7⟩

set_option maxHeartbeats 4000000 in
theorem implKnown_any (oa : Option Addr) (n cap : Nat) (es : List EvV) (id : Int) (hfine : FineE es) (w : World) (hat : EvsAt w oa n cap es) :
    Calls Try.prog 21 #[.slice oa n cap, .int .i64 id] w (KnPost w (evKn es id).1 (evKn es id).2) := by
  have HR0 := hide (EB.new w 0 0 0 0 0 0 (.slice none 0 0) (.slice none 0 0) [])
  have hb0 := (Below.refl w.heap.size w).alloc (Nat.le_refl _) (.cells (evcells 0 0 0 0 0 0 (.slice none 0 0) (.slice none 0 0) []) 37)
  have HB0 := hide hb0
  have HF := hide (implFind_any oa n cap es id _ (hat.below hb0))
  obtain ⟨l1, l2, l3⟩ := evKn_fine hfine id
  have HC := hide (fun (xa : Option Addr) (xc : Nat) (ya : Option Addr) (yc : Nat) w hx hy => copied_any (evKn es id).1 xa xc ya yc l1 l2 l3 w hx hy)
  generalize (evKn es id).1 = e at HF HC l1 l2 l3 ⊢
  generalize (evKn es id).2 = ok at HF ⊢
  clear hat hb0 hfine
  go_enter Try.func21, Try.ntmps21
  go_wp2_with fail
  refine HF.out.mono ?_
  rintro r w1 ⟨xa, xc, ya, yc, rfl, hx1, hy1, hb1⟩
  have hba := (Below.refl w1.heap.size w1).alloc (Nat.le_refl _) (.cells (evcells e.id e.kind e.sender e.user e.member e.depth (.slice xa e.levels.length xc) (.slice ya e.prev.length yc) e.text) 37)
  have HR1 := hide ((HR0.out.on hb1 HR0.out.lt).on hba (Nat.lt_of_lt_of_le HR0.out.lt hb1.size))
  have HB1 := hide ((HB0.out.trans (hb1.mono HB0.out.size)).trans (hba.mono (Nat.le_trans HB0.out.size hb1.size)))
  have HX1 := hide (hx1.below hba)
  have HY1 := hide (hy1.below hba)
  have hlt1 : w.heap.size < w1.heap.size := Nat.lt_of_lt_of_le HR0.out.lt hb1.size
  clear hb1 hba hx1 hy1
  go_wp2_with fail
  refine (HC.out _ _ _ _ _ HX1.out HY1.out).mono ?_
  rintro r w2 ⟨vl, vp, rfl, ho2, hb2⟩
  obtain ⟨ol, cl, rfl⟩ := row_form ho2.l
  obtain ⟨op, cp, rfl⟩ := row_form ho2.p
  have HR2 := hide (HR1.out.on hb2 HR1.out.lt)
  have HB2 := hide (HB1.out.trans (hb2.mono HB1.out.size))
  have HO2 := hide ho2
  clear hb2 ho2 HR1 HB1 HX1 HY1 HR0 HB0
  obtain ⟨r0, r1, r2, r3, r4, r5, r6, r7, r8⟩ := HR2.out.ev
  have z0 := HR2.out.free 0
  have z1 := HR2.out.free 1
  have z2 := HR2.out.free 2
  have z3 := HR2.out.free 3
  have z4 := HR2.out.free 4
  have z5 := HR2.out.free 5
  have z6 := HR2.out.free 6
  have z7 := HR2.out.free 7
  have z8 := HR2.out.free 8
  go_wp2_with fail
  obtain ⟨w7, hw7, hE7, hg7⟩ := HR2.out.all e.id e.kind e.sender e.user e.member e.depth (.slice ol e.levels.length cl) (.slice op e.prev.length cp) e.text
  rw [hw7]
  obtain ⟨q0, q1, q2, q3, q4, q5, q6, q7, q8⟩ := hE7.ev
  have hB7 := HB2.out.grown hg7 HB2.out.size (fun k hk => by cases hk; exact Nat.le_refl _)
  have hO7 := (HO2.out.kept hg7 (by simp; omega)).down (base' := w.heap.size) (by simp; omega)
  exact bodyPost_ret (v := .tuple #[evv e (.slice ol e.levels.length cl) (.slice op e.prev.length cp), .bool ok]) (by simp [results, Try.results21, go_sem, q0, q1, q2, q3, q4, q5, q6, q7, q8]) rfl ⟨_, _, rfl, hO7, hB7⟩

set_option maxHeartbeats 4000000 in
theorem specKnown_any (oa : Option Addr) (n cap : Nat) (es : List EvV) (id : Int) (hfine : FineE es) (w : World) (hat : EvsAt w oa n cap es) :
    Calls Try.prog 19 #[.slice oa n cap, .int .i64 id] w (KnPost w (evKn es id).1 (evKn es id).2) := by
  have HR0 := hide (EB.new w 0 0 0 0 0 0 (.slice none 0 0) (.slice none 0 0) [])
  have hb0 := (Below.refl w.heap.size w).alloc (Nat.le_refl _) (.cells (evcells 0 0 0 0 0 0 (.slice none 0 0) (.slice none 0 0) []) 37)
  have HB0 := hide hb0
  have HF := hide (specFind_any oa n cap es id _ (hat.below hb0))
  obtain ⟨l1, l2, l3⟩ := evKn_fine hfine id
  have HC := hide (fun (xa : Option Addr) (xc : Nat) (ya : Option Addr) (yc : Nat) w hx hy => l09Copy_any (evKn es id).1 xa xc ya yc l1 l2 l3 w hx hy)
  generalize (evKn es id).1 = e at HF HC l1 l2 l3 ⊢
  generalize (evKn es id).2 = ok at HF ⊢
  clear hat hb0 hfine
  go_enter Try.func19, Try.ntmps19
  go_wp2_with fail
  refine HF.out.mono ?_
  rintro r w1 ⟨xa, xc, ya, yc, rfl, hx1, hy1, hb1⟩
  have hba := (Below.refl w1.heap.size w1).alloc (Nat.le_refl _) (.cells (evcells e.id e.kind e.sender e.user e.member e.depth (.slice xa e.levels.length xc) (.slice ya e.prev.length yc) e.text) 37)
  have HR1 := hide ((HR0.out.on hb1 HR0.out.lt).on hba (Nat.lt_of_lt_of_le HR0.out.lt hb1.size))
  have HB1 := hide ((HB0.out.trans (hb1.mono HB0.out.size)).trans (hba.mono (Nat.le_trans HB0.out.size hb1.size)))
  have HX1 := hide (hx1.below hba)
  have HY1 := hide (hy1.below hba)
  have hlt1 : w.heap.size < w1.heap.size := Nat.lt_of_lt_of_le HR0.out.lt hb1.size
  clear hb1 hba hx1 hy1
  go_wp2_with fail
  refine (HC.out _ _ _ _ _ HX1.out HY1.out).mono ?_
  rintro r w2 ⟨vl, vp, rfl, ho2, hb2⟩
  obtain ⟨ol, cl, rfl⟩ := row_form ho2.l
  obtain ⟨op, cp, rfl⟩ := row_form ho2.p
  have HR2 := hide (HR1.out.on hb2 HR1.out.lt)
  have HB2 := hide (HB1.out.trans (hb2.mono HB1.out.size))
  have HO2 := hide ho2
  clear hb2 ho2 HR1 HB1 HX1 HY1 HR0 HB0
  obtain ⟨r0, r1, r2, r3, r4, r5, r6, r7, r8⟩ := HR2.out.ev
  have z0 := HR2.out.free 0
  have z1 := HR2.out.free 1
  have z2 := HR2.out.free 2
  have z3 := HR2.out.free 3
  have z4 := HR2.out.free 4
  have z5 := HR2.out.free 5
  have z6 := HR2.out.free 6
  have z7 := HR2.out.free 7
  have z8 := HR2.out.free 8
  go_wp2_with fail
  obtain ⟨w7, hw7, hE7, hg7⟩ := HR2.out.all e.id e.kind e.sender e.user e.member e.depth (.slice ol e.levels.length cl) (.slice op e.prev.length cp) e.text
  rw [hw7]
  obtain ⟨q0, q1, q2, q3, q4, q5, q6, q7, q8⟩ := hE7.ev
  have hB7 := HB2.out.grown hg7 HB2.out.size (fun k hk => by cases hk; exact Nat.le_refl _)
  have hO7 := (HO2.out.kept hg7 (by simp; omega)).down (base' := w.heap.size) (by simp; omega)
  exact bodyPost_ret (v := .tuple #[evv e (.slice ol e.levels.length cl) (.slice op e.prev.length cp), .bool ok]) (by simp [results, Try.results19, go_sem, q0, q1, q2, q3, q4, q5, q6, q7, q8]) rfl ⟨_, _, rfl, hO7, hB7⟩

end Go.Proofs.Ytijnejbfjpclhaa
