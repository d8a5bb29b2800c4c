/-
  Walks of chapter 7: open of the program (made by wip/tools/gen7r.py).
-/
import Derived.Test.YthbgklmnmoclhaaGreatDoorPack33
namespace Go.Proofs.YthbgklmnmoclhaaGreatDoor
open Go.RowKit P1 P3 P5 P9 K
attribute [local go_sem ↓] Go.wp_at_zero Go.wp_at_succ
set_option linter.unusedVariables false
set_option linter.unusedSimpArgs false

/-- What open answers: acts, a journal, a code. -/
def opR (fs : List FileV) : List ActV × JnV × Int :=
  if diskOk fs = true then
    (if (rfR (lastOf (-1) fs) (textAt fs (jnName (lastOf (-1) fs)))).2.2 = 3 then
      (if (rfR (lastOf (-1) fs) (textAt fs (jnName (lastOf (-1) fs)))).1.number < 999 then (drops (lastOf (-1) fs) fs ++ anewA (rfR (lastOf (-1) fs) (textAt fs (jnName (lastOf (-1) fs)))).1, { (rfR (lastOf (-1) fs) (textAt fs (jnName (lastOf (-1) fs)))).1 with number := (rfR (lastOf (-1) fs) (textAt fs (jnName (lastOf (-1) fs)))).1.number + 1 }, 0)
      else ([], zeroJ, 6))
    else (drops (lastOf (-1) fs) fs, (rfR (lastOf (-1) fs) (textAt fs (jnName (lastOf (-1) fs)))).1, (rfR (lastOf (-1) fs) (textAt fs (jnName (lastOf (-1) fs)))).2.2))
  else ([], zeroJ, 1)

def OpPost (fs : List FileV) (w : World) (e : Ending) (w' : World) : Prop :=
  ∃ va v, e = .returned (.tuple #[va, jval (opR fs).2.1.number (opR fs).2.1.term (opR fs).2.1.vote (opR fs).2.1.s (opR fs).2.1.u v, errV (opR fs).2.2]) ∧
    w'.ownsRow w.heap.size 57 4 va (opR fs).1.length ((opR fs).1.flatMap akc) ∧ w'.ownsRow w.heap.size 111 3 v (opR fs).2.1.es.length ((opR fs).2.1.es.flatMap ecells) ∧ Below w.heap.size w w'

theorem OpPost.mk' {fs : List FileV} {w w' : World} {acts : List ActV} {j : JnV} {c : Int} {va v e : Value} (h : opR fs = (acts, j, c)) (he : e = .tuple #[va, jval j.number j.term j.vote j.s j.u v, errV c])
    (ha : w'.ownsRow w.heap.size 57 4 va acts.length (acts.flatMap akc)) (ho : w'.ownsRow w.heap.size 111 3 v j.es.length (j.es.flatMap ecells)) (hb : Below w.heap.size w w') : OpPost fs w (.returned e) w' := by
  subst he
  unfold OpPost
  rw [h]
  exact ⟨va, v, rfl, ha, ho, hb⟩

theorem rf_rest {n : Int} {l : List UInt8} {j : JnV} {e : Nat} (h : rfR n l = (j, e, 3)) : j.ok = true ∧ j.number = n := by
  unfold rfR at h
  split at h
  · split at h
    · cases h
    · rename_i j' e' hr
      have k := rdJn_ok hr
      injection h with h1 h2
      subst h1
      exact k
  · cases h

theorem disk_names {fs : List FileV} (h : diskOk fs = true) : fs.length ≤ 30 ∧ (∀ f ∈ fs, f.name.length ≤ 8) ∧ (∀ f ∈ fs, f.text.length ≤ 20000) ∧ Asc fs := by
  unfold diskOk at h
  simp only [Bool.and_eq_true, decide_eq_true_eq] at h
  obtain ⟨h1, h2⟩ := h
  have key : ∀ (gs : List FileV) (p : Option (List UInt8)), okFrom p gs = true → (∀ f ∈ gs, fileOk f = true) := by
    intro gs
    induction gs with
    | nil => intro p _ f hf; simp at hf
    | cons g r ih =>
      intro p hp f hf
      rw [okFrom_cons] at hp
      simp only [Bool.and_eq_true] at hp
      rcases List.mem_cons.1 hf with rfl | hf
      · exact hp.1.1
      · exact ih _ hp.2 f hf
  have k := key fs none h2
  refine ⟨h1, fun f hf => ?_, fun f hf => ?_, ?_⟩
  · have := k f hf
    simp [fileOk, nameOk] at this
    omega
  · have := k f hf
    simp [fileOk] at this
    omega
  · cases fs with
    | nil => exact List.Pairwise.nil
    | cons g r =>
      rw [okFrom_cons] at h2
      simp only [Bool.and_eq_true] at h2
      have h3 := (okFrom_some r g.name).1 h2.2
      exact List.pairwise_cons.2 ⟨h3.2.2, h3.2.1⟩

theorem textAt_room {fs : List FileV} (h : ∀ f ∈ fs, f.text.length ≤ 20000) (nm : List UInt8) : (textAt fs nm).length ≤ 20000 := by
  unfold textAt fileAt
  cases hf : fs.find? (fun f => f.name == nm) with
  | none => simp
  | some f =>
    have := h f (List.mem_of_find?_eq_some hf)
    simpa using this

set_option maxHeartbeats 8000000 in
theorem open_not (oa : Option Addr) (n cap : Nat) (fs : List FileV) (w : World) (hat : FilesAt w oa n cap fs) (hw : ∀ f ∈ fs, Fine f) (htb : SumTabIs w) (hpw : PowIs w) (herr : ErrVar w) (hd : diskOk fs = false) :
    Calls Tryz.prog 26 #[.agg #[.slice oa n cap]] w fun e w' => OpPost fs w e w' := by
  have hb0 := ((Below.refl w.heap.size w).alloc (Nat.le_refl _) (.cells #[.slice oa n cap] 36)).alloc (by simp) (.cells (jcells 0 0 0 0 0 (.slice none 0 0)) 30)
  have hd0 : DV ((w.alloc (.cells #[.slice oa n cap] 36)).alloc (.cells (jcells 0 0 0 0 0 (.slice none 0 0)) 30)) w.heap.size (.slice oa n cap) := (Below.heap_alloc _ _ _ (by simp)).trans (heap_alloc_new _ _)
  have hr0 : JB ((w.alloc (.cells #[.slice oa n cap] 36)).alloc (.cells (jcells 0 0 0 0 0 (.slice none 0 0)) 30)) (w.heap.size + 1) 0 0 0 0 0 (.slice none 0 0) := by have := heap_alloc_new (w.alloc (.cells #[.slice oa n cap] 36)) (.cells (jcells 0 0 0 0 0 (.slice none 0 0)) 30); rwa [World.size_alloc] at this
  have HDO := hide (implDiskOk_any oa n cap fs _ (hat.below hb0) hw)
  rw [hd] at HDO
  have HB0 := hide hb0
  have HD0 := hide hd0
  have HR0 := hide hr0
  have HAT := hide hat
  have HTB := hide htb
  have HPW := hide hpw
  have HER := hide herr
  have HFW := hide hw
  clear hb0 hd0 hr0 hat htb hpw herr hw
  have HR := hide (show opR fs = ([], zeroJ, 1) by unfold opR; rw [if_neg (by rw [hd]; decide)])
  clear hd
  go_enter Tryz.func26, Tryz.ntmps26
  go_wp2_with fail
  refine HDO.out.mono ?_
  rintro e w1 ⟨rfl, hb1⟩
  have HD1 := hide (HD0.out.on hb1 (by simp; omega))
  have HR1 := hide (HR0.out.on hb1 (by simp))
  have B1 := hide (HB0.out.trans (hb1.mono (by simp; omega)))
  clear hb1 HD0 HR0 HB0 HDO
  have hr1 := HR1.out
  obtain ⟨r0, r1, r2, r3, r4, r5⟩ := hr1.jv
  have f0 := hr1.free 0
  have f1 := hr1.free 1
  have f2 := hr1.free 2
  have f3 := hr1.free 3
  have f4 := hr1.free 4
  have f5 := hr1.free 5
  have HE := hide (hr1.all 0 0 0 0 0 (.slice none 0 0))
  clear hr1
  go_wp2_with fail
  refine bodyPost_ret (v := .tuple #[.slice none 0 0, jval 0 0 0 0 0 (.slice none 0 0), faultV 1]) (by simp [results, Tryz.results26, go_sem, r0, r1, r2, r3, r4, r5, f0, f1, f2, f3, f4, f5]) rfl ?_
  exact OpPost.mk' HR.out rfl (World.ownsRow_nil _ _ _ _) (World.ownsRow_nil _ _ _ _) (B1.out.grown HE.out.2 B1.out.size (fun k e => by cases e; omega))

set_option maxHeartbeats 8000000 in
theorem open_0 (oa : Option Addr) (n cap : Nat) (fs : List FileV) (w : World) (hat : FilesAt w oa n cap fs) (hw : ∀ f ∈ fs, Fine f) (htb : SumTabIs w) (hpw : PowIs w) (herr : ErrVar w) (hd : diskOk fs = true) (j : JnV) (E : Nat) (hrf : rfR (lastOf (-1) fs) (textAt fs (jnName (lastOf (-1) fs))) = (j, E, 0)) :
    Calls Tryz.prog 26 #[.agg #[.slice oa n cap]] w fun e w' => OpPost fs w e w' := by
  have HRF := hide hrf
  clear hrf
  have hb0 := ((Below.refl w.heap.size w).alloc (Nat.le_refl _) (.cells #[.slice oa n cap] 36)).alloc (by simp) (.cells (jcells 0 0 0 0 0 (.slice none 0 0)) 30)
  have hd0 : DV ((w.alloc (.cells #[.slice oa n cap] 36)).alloc (.cells (jcells 0 0 0 0 0 (.slice none 0 0)) 30)) w.heap.size (.slice oa n cap) := (Below.heap_alloc _ _ _ (by simp)).trans (heap_alloc_new _ _)
  have hr0 : JB ((w.alloc (.cells #[.slice oa n cap] 36)).alloc (.cells (jcells 0 0 0 0 0 (.slice none 0 0)) 30)) (w.heap.size + 1) 0 0 0 0 0 (.slice none 0 0) := by have := heap_alloc_new (w.alloc (.cells #[.slice oa n cap] 36)) (.cells (jcells 0 0 0 0 0 (.slice none 0 0)) 30); rwa [World.size_alloc] at this
  have HDO := hide (implDiskOk_any oa n cap fs _ (hat.below hb0) hw)
  rw [hd] at HDO
  have HB0 := hide hb0
  have HD0 := hide hd0
  have HR0 := hide hr0
  have HAT := hide hat
  have HTB := hide htb
  have HPW := hide hpw
  have HER := hide herr
  have HFW := hide hw
  clear hb0 hd0 hr0 hat htb hpw herr hw
  have HR := hide (show opR fs = (drops (lastOf (-1) fs) fs, j, 0) by unfold opR; rw [if_pos hd, HRF.out]; simp only; rw [if_neg (by decide)])
  obtain ⟨hlen, hnm, htx, -⟩ := disk_names hd
  have hnn := HAT.out.len
  have hbr := lastOf_range (-1) fs (by omega)
  obtain ⟨b, hb⟩ : ∃ b, lastOf (-1) fs = b := ⟨_, rfl⟩
  rw [hb] at hbr HRF HR
  obtain ⟨T, hT⟩ : ∃ T, textAt fs (jnName b) = T := ⟨_, rfl⟩
  have hTl := textAt_room htx (jnName b)
  rw [hT] at hTl HRF
  have HLN := hide (fun w hat ht => lastNumber_any oa n cap fs w hat (by omega) (fun f hf => by have := hnm f hf; omega) ht)
  rw [hb] at HLN
  have HJN := hide (fun w ht => implJournalName_any b (by omega) (by omega) w ht)
  have HFA := hide (fun w hat => implFileAt_any oa n cap fs (jnName b) w hat HFW.out)
  rw [hT] at HFA
  have HRD := hide (fun w ht => readFile_any b ⟨T.toArray⟩ (by rw [size_mk7]; omega) w ht)
  rw [bl_mk7] at HRD
  have HDR := hide (fun w hat ht => dropOthers_any oa n cap fs b hbr w hat (by omega) (fun f hf => by have := hnm f hf; omega) ht)
  have hdl : (drops b fs).length ≤ 1000 := by have := drops_room b fs; omega
  have HNA := hide (jnName_length b)
  unfold RfPost at HRD
  rw [HRF.out] at HRD
  simp only at HRD
  obtain ⟨h9, hh9⟩ : ∃ h9, hasAt fs (jnName b) = h9 := ⟨_, rfl⟩
  rw [hh9] at HFA
  generalize (⟨(jnName b).toArray⟩ : ByteArray) = NB at HJN HFA
  generalize (⟨T.toArray⟩ : ByteArray) = TB at HFA HRD
  clear hd hnm htx hlen hh9 hT hb HFW
  rw [show errV 0 = .nilIface from rfl] at HRD
  go_enter Tryz.func26, Tryz.ntmps26
  go_wp2_with fail
  refine HDO.out.mono ?_
  rintro e w1 ⟨rfl, hb1⟩
  have HD1 := hide (HD0.out.on hb1 (by simp; omega))
  have HR1 := hide (HR0.out.on hb1 (by simp))
  have B1 := hide (HB0.out.trans (hb1.mono (by simp; omega)))
  clear hb1 HD0 HR0 HB0 HDO
  obtain dv1 := HD1.out.cell
  go_wp2_with fail
  refine (HLN.out _ (HAT.out.below B1.out) (tab_below HPW.out B1.out)).mono ?_
  rintro e w2 ⟨rfl, hb2⟩
  have HD2 := hide (HD1.out.on hb2 HD1.out.lt)
  have HR2 := hide (HR1.out.on hb2 HR1.out.lt)
  have B2 := hide (B1.out.trans (hb2.mono B1.out.size))
  clear hb2 HD1 HR1 B1 dv1
  go_wp2_with fail
  refine wp_region_in (F := (fun w' => Below w2.heap.size w2 w')) (by kernel_rfl) (by kernel_rfl) (Below.refl _ _).drew ?_
  have hne : Nonempty (InW (fun w' => Below w2.heap.size w2 w')) := ⟨⟨_, Below.refl _ _⟩⟩
  have k0 : ∀ m : InW (fun w' => Below w2.heap.size w2 w'), m.w.cell? ⟨w.heap.size, 0, none⟩ = some (.slice oa n cap) := fun m => (HD2.out.on m.h HD2.out.lt).cell
  have HATW := hide (show ∀ m : InW (fun w' => Below w2.heap.size w2 w'), FilesAt m.w oa n cap fs from fun m => HAT.out.below (B2.out.trans (m.h.mono B2.out.size)))
  have HPWW := hide (show ∀ m : InW (fun w' => Below w2.heap.size w2 w'), PowIs m.w from fun m => tab_below HPW.out (B2.out.trans (m.h.mono B2.out.size)))
  repeat (go_big_quiet_step (first | (go_at_call 50; refine (HJN.out _ (HPWW.out _)).mono ?_; rintro r w9 ⟨rfl, hb9⟩; exact ⟨rfl, ⟨w9, Below.trans (InW.h _) (hb9.mono (Below.size (InW.h (F := (fun w' => Below w2.heap.size w2 w')) ‹_›)))⟩, rfl⟩) | (go_at_call 49; refine (HFA.out _ (HATW.out _)).mono ?_; rintro r w9 ⟨rfl, hb9⟩; exact ⟨rfl, ⟨w9, Below.trans (InW.h _) (hb9.mono (Below.size (InW.h (F := (fun w' => Below w2.heap.size w2 w')) ‹_›)))⟩, rfl⟩)))
  refine wpQuiet_nil ?_
  intro _ hw'
  obtain ⟨nq, hw''⟩ := hw'
  subst hw''
  have hb3 := nq.h
  generalize nq.w = w3 at hb3 ⊢
  have HD3 := hide (HD2.out.on hb3 HD2.out.lt)
  have HR3 := hide (HR2.out.on hb3 HR2.out.lt)
  have B3 := hide (B2.out.trans (hb3.mono B2.out.size))
  clear hne k0 HATW HPWW hb3 HD2 HR2 B2
  go_wp2_with fail
  refine (HRD.out _ (tab_below HTB.out B3.out)).mono ?_
  rintro e w4 ⟨v4, rfl, ho4, hb4⟩
  obtain ⟨oa4, cap4, hv4⟩ := own_form3 ho4
  subst hv4
  have hb5 := (Below.refl w4.heap.size w4).alloc (Nat.le_refl _) (.cells (jcells j.number j.term j.vote j.s j.u (.slice oa4 j.es.length cap4)) 30)
  have hx5 := JB.new w4 j.number j.term j.vote j.s j.u (.slice oa4 j.es.length cap4)
  have hbb := hb4.trans (hb5.mono hb4.size)
  have HD5 := hide (HD3.out.on hbb HD3.out.lt)
  have HR5 := hide (HR3.out.on hbb HR3.out.lt)
  have B5 := hide (B3.out.trans (hbb.mono B3.out.size))
  have HO5 := hide (own_base (own_below ho4 hb5) B3.out.size)
  have HX5 := hide hx5
  have hl9 : w.heap.size + 1 < w4.heap.size := Nat.lt_of_lt_of_le HR3.out.lt hb4.size
  clear ho4 hb4 hb5 hx5 hbb HD3 HR3 B3
  have dv5 := HD5.out.cell
  go_wp2_with fail
  generalize w4.alloc (Obj.cells #[Value.int IntKind.i64 j.number, Value.int IntKind.i64 j.term, Value.int IntKind.i64 j.vote, Value.int IntKind.i64 j.s, Value.int IntKind.i64 j.u, Value.slice oa4 j.es.length cap4] 30) = w5 at HD5 HR5 B5 HO5 HX5 dv5 ⊢
  generalize w4.heap.size = b8 at HX5 hl9 ⊢
  refine (HDR.out _ (HAT.out.below B5.out) (tab_below HPW.out B5.out)).mono ?_
  rintro e w6 ⟨va, rfl, ha6, hb6⟩
  obtain ⟨oaA, capA, hvA⟩ := own_form3 ha6
  subst hvA
  have HR6 := hide (HR5.out.on hb6 HR5.out.lt)
  have HX6 := hide (HX5.out.on hb6 HX5.out.lt)
  have B6 := hide (B5.out.trans (hb6.mono B5.out.size))
  have HO6 := hide (own_below HO5.out hb6)
  have HA6 := hide (own_base ha6 B5.out.size)
  clear ha6 hb6 HD5 HR5 HX5 HO5 B5 dv5
  go_wp2_with fail
  refine (faultOf_nil _).mono ?_
  rintro e w7 ⟨rfl, hb7⟩
  have HR7 := hide (HR6.out.on hb7 HR6.out.lt)
  have HX7 := hide (HX6.out.on hb7 HX6.out.lt)
  have B7 := hide (B6.out.trans (hb7.mono B6.out.size))
  have HO7 := hide (own_below HO6.out hb7)
  have HA7 := hide (own_below HA6.out hb7)
  clear hb7 HR6 HX6 B6 HO6 HA6
  have hr7 := HR7.out
  have hx7 := HX7.out
  obtain ⟨r0, r1, r2, r3, r4, r5⟩ := hr7.jv
  have f0 := hr7.free 0
  have f1 := hr7.free 1
  have f2 := hr7.free 2
  have f3 := hr7.free 3
  have f4 := hr7.free 4
  have f5 := hr7.free 5
  obtain ⟨x0, x1, x2, x3, x4, x5⟩ := hx7.jv
  have HE := hide (hr7.all j.number j.term j.vote j.s j.u (.slice oa4 j.es.length cap4))
  clear hr7 hx7 HX7
  go_wp2_with fail
  go_region
  go_wp2_with fail
  have hX := HE.out.1
  have hY := HE.out.2
  have HO8 := hide (own_keptJA HO7.out HR7.out (by decide) hY)
  have HA8 := hide (own_keptJA HA7.out HR7.out (by decide) hY)
  have B8 := hide (B7.out.grown hY B7.out.size (fun k e => by cases e; omega))
  clear HE HR7 HO7 HA7 B7
  generalize ((((((w7.setCell ⟨w.heap.size + 1, 0, none⟩ (Value.int IntKind.i64 j.number)).setCell ⟨w.heap.size + 1, 1, none⟩ (Value.int IntKind.i64 j.term)).setCell ⟨w.heap.size + 1, 2, none⟩ (Value.int IntKind.i64 j.vote)).setCell ⟨w.heap.size + 1, 3, none⟩ (Value.int IntKind.i64 j.s)).setCell ⟨w.heap.size + 1, 4, none⟩ (Value.int IntKind.i64 j.u)).setCell ⟨w.heap.size + 1, 5, none⟩ (Value.slice oa4 j.es.length cap4)) = wf at hX HO8 HA8 B8 ⊢
  replace hX : JB wf.drew (w.heap.size + 1) j.number j.term j.vote j.s j.u (.slice oa4 j.es.length cap4) := hX
  obtain ⟨k0, k1, k2, k3, k4, k5⟩ := hX.jv
  refine bodyPost_ret (v := .tuple #[.slice oaA (drops b fs).length capA, jval j.number j.term j.vote j.s j.u (.slice oa4 j.es.length cap4), .nilIface]) (by simp [results, Tryz.results26, go_sem, k0, k1, k2, k3, k4, k5]) rfl ?_
  exact OpPost.mk' HR.out rfl (own_below HA8.out (Below.refl _ _).drew) (own_below HO8.out (Below.refl _ _).drew) B8.out.drew

set_option maxHeartbeats 8000000 in
theorem open_1 (oa : Option Addr) (n cap : Nat) (fs : List FileV) (w : World) (hat : FilesAt w oa n cap fs) (hw : ∀ f ∈ fs, Fine f) (htb : SumTabIs w) (hpw : PowIs w) (herr : ErrVar w) (hd : diskOk fs = true) (hrf : rfR (lastOf (-1) fs) (textAt fs (jnName (lastOf (-1) fs))) = (zeroJ, 0, 1)) :
    Calls Tryz.prog 26 #[.agg #[.slice oa n cap]] w fun e w' => OpPost fs w e w' := by
  have HRF := hide hrf
  clear hrf
  have hb0 := ((Below.refl w.heap.size w).alloc (Nat.le_refl _) (.cells #[.slice oa n cap] 36)).alloc (by simp) (.cells (jcells 0 0 0 0 0 (.slice none 0 0)) 30)
  have hd0 : DV ((w.alloc (.cells #[.slice oa n cap] 36)).alloc (.cells (jcells 0 0 0 0 0 (.slice none 0 0)) 30)) w.heap.size (.slice oa n cap) := (Below.heap_alloc _ _ _ (by simp)).trans (heap_alloc_new _ _)
  have hr0 : JB ((w.alloc (.cells #[.slice oa n cap] 36)).alloc (.cells (jcells 0 0 0 0 0 (.slice none 0 0)) 30)) (w.heap.size + 1) 0 0 0 0 0 (.slice none 0 0) := by have := heap_alloc_new (w.alloc (.cells #[.slice oa n cap] 36)) (.cells (jcells 0 0 0 0 0 (.slice none 0 0)) 30); rwa [World.size_alloc] at this
  have HDO := hide (implDiskOk_any oa n cap fs _ (hat.below hb0) hw)
  rw [hd] at HDO
  have HB0 := hide hb0
  have HD0 := hide hd0
  have HR0 := hide hr0
  have HAT := hide hat
  have HTB := hide htb
  have HPW := hide hpw
  have HER := hide herr
  have HFW := hide hw
  clear hb0 hd0 hr0 hat htb hpw herr hw
  have HR := hide (show opR fs = (drops (lastOf (-1) fs) fs, zeroJ, 1) by unfold opR; rw [if_pos hd, HRF.out]; simp only; rw [if_neg (by decide)])
  obtain ⟨hlen, hnm, htx, -⟩ := disk_names hd
  have hnn := HAT.out.len
  have hbr := lastOf_range (-1) fs (by omega)
  obtain ⟨b, hb⟩ : ∃ b, lastOf (-1) fs = b := ⟨_, rfl⟩
  rw [hb] at hbr HRF HR
  obtain ⟨T, hT⟩ : ∃ T, textAt fs (jnName b) = T := ⟨_, rfl⟩
  have hTl := textAt_room htx (jnName b)
  rw [hT] at hTl HRF
  have HLN := hide (fun w hat ht => lastNumber_any oa n cap fs w hat (by omega) (fun f hf => by have := hnm f hf; omega) ht)
  rw [hb] at HLN
  have HJN := hide (fun w ht => implJournalName_any b (by omega) (by omega) w ht)
  have HFA := hide (fun w hat => implFileAt_any oa n cap fs (jnName b) w hat HFW.out)
  rw [hT] at HFA
  have HRD := hide (fun w ht => readFile_any b ⟨T.toArray⟩ (by rw [size_mk7]; omega) w ht)
  rw [bl_mk7] at HRD
  have HDR := hide (fun w hat ht => dropOthers_any oa n cap fs b hbr w hat (by omega) (fun f hf => by have := hnm f hf; omega) ht)
  have hdl : (drops b fs).length ≤ 1000 := by have := drops_room b fs; omega
  have HNA := hide (jnName_length b)
  unfold RfPost at HRD
  rw [HRF.out] at HRD
  simp only [zeroJ] at HRD
  obtain ⟨h9, hh9⟩ : ∃ h9, hasAt fs (jnName b) = h9 := ⟨_, rfl⟩
  rw [hh9] at HFA
  generalize (⟨(jnName b).toArray⟩ : ByteArray) = NB at HJN HFA
  generalize (⟨T.toArray⟩ : ByteArray) = TB at HFA HRD
  clear hd hnm htx hlen hh9 hT hb HFW
  rw [show errV 1 = faultV 1 from rfl] at HRD
  go_enter Tryz.func26, Tryz.ntmps26
  go_wp2_with fail
  refine HDO.out.mono ?_
  rintro e w1 ⟨rfl, hb1⟩
  have HD1 := hide (HD0.out.on hb1 (by simp; omega))
  have HR1 := hide (HR0.out.on hb1 (by simp))
  have B1 := hide (HB0.out.trans (hb1.mono (by simp; omega)))
  clear hb1 HD0 HR0 HB0 HDO
  obtain dv1 := HD1.out.cell
  go_wp2_with fail
  refine (HLN.out _ (HAT.out.below B1.out) (tab_below HPW.out B1.out)).mono ?_
  rintro e w2 ⟨rfl, hb2⟩
  have HD2 := hide (HD1.out.on hb2 HD1.out.lt)
  have HR2 := hide (HR1.out.on hb2 HR1.out.lt)
  have B2 := hide (B1.out.trans (hb2.mono B1.out.size))
  clear hb2 HD1 HR1 B1 dv1
  go_wp2_with fail
  refine wp_region_in (F := (fun w' => Below w2.heap.size w2 w')) (by kernel_rfl) (by kernel_rfl) (Below.refl _ _).drew ?_
  have hne : Nonempty (InW (fun w' => Below w2.heap.size w2 w')) := ⟨⟨_, Below.refl _ _⟩⟩
  have k0 : ∀ m : InW (fun w' => Below w2.heap.size w2 w'), m.w.cell? ⟨w.heap.size, 0, none⟩ = some (.slice oa n cap) := fun m => (HD2.out.on m.h HD2.out.lt).cell
  have HATW := hide (show ∀ m : InW (fun w' => Below w2.heap.size w2 w'), FilesAt m.w oa n cap fs from fun m => HAT.out.below (B2.out.trans (m.h.mono B2.out.size)))
  have HPWW := hide (show ∀ m : InW (fun w' => Below w2.heap.size w2 w'), PowIs m.w from fun m => tab_below HPW.out (B2.out.trans (m.h.mono B2.out.size)))
  repeat (go_big_quiet_step (first | (go_at_call 50; refine (HJN.out _ (HPWW.out _)).mono ?_; rintro r w9 ⟨rfl, hb9⟩; exact ⟨rfl, ⟨w9, Below.trans (InW.h _) (hb9.mono (Below.size (InW.h (F := (fun w' => Below w2.heap.size w2 w')) ‹_›)))⟩, rfl⟩) | (go_at_call 49; refine (HFA.out _ (HATW.out _)).mono ?_; rintro r w9 ⟨rfl, hb9⟩; exact ⟨rfl, ⟨w9, Below.trans (InW.h _) (hb9.mono (Below.size (InW.h (F := (fun w' => Below w2.heap.size w2 w')) ‹_›)))⟩, rfl⟩)))
  refine wpQuiet_nil ?_
  intro _ hw'
  obtain ⟨nq, hw''⟩ := hw'
  subst hw''
  have hb3 := nq.h
  generalize nq.w = w3 at hb3 ⊢
  have HD3 := hide (HD2.out.on hb3 HD2.out.lt)
  have HR3 := hide (HR2.out.on hb3 HR2.out.lt)
  have B3 := hide (B2.out.trans (hb3.mono B2.out.size))
  clear hne k0 HATW HPWW hb3 HD2 HR2 B2
  go_wp2_with fail
  refine (HRD.out _ (tab_below HTB.out B3.out)).mono ?_
  rintro e w4 ⟨v4, rfl, ho4, hb4⟩
  obtain ⟨oa4, cap4, hv4⟩ := own_form3 ho4
  subst hv4
  replace ho4 : w4.ownsRow w3.heap.size 111 3 (.slice oa4 0 cap4) 0 (([] : List EntV).flatMap ecells) := ho4
  have hb5 := (Below.refl w4.heap.size w4).alloc (Nat.le_refl _) (.cells (jcells 0 0 0 0 0 (.slice oa4 0 cap4)) 30)
  have hx5 := JB.new w4 0 0 0 0 0 (.slice oa4 0 cap4)
  have hbb := hb4.trans (hb5.mono hb4.size)
  have HD5 := hide (HD3.out.on hbb HD3.out.lt)
  have HR5 := hide (HR3.out.on hbb HR3.out.lt)
  have B5 := hide (B3.out.trans (hbb.mono B3.out.size))
  have HO5 := hide (own_base (own_below ho4 hb5) B3.out.size)
  have HX5 := hide hx5
  have hl9 : w.heap.size + 1 < w4.heap.size := Nat.lt_of_lt_of_le HR3.out.lt hb4.size
  clear ho4 hb4 hb5 hx5 hbb HD3 HR3 B3
  have dv5 := HD5.out.cell
  go_wp2_with fail
  generalize w4.alloc (Obj.cells #[Value.int IntKind.i64 0, Value.int IntKind.i64 0, Value.int IntKind.i64 0, Value.int IntKind.i64 0, Value.int IntKind.i64 0, Value.slice oa4 0 cap4] 30) = w5 at HD5 HR5 B5 HO5 HX5 dv5 ⊢
  generalize w4.heap.size = b8 at HX5 hl9 ⊢
  refine (HDR.out _ (HAT.out.below B5.out) (tab_below HPW.out B5.out)).mono ?_
  rintro e w6 ⟨va, rfl, ha6, hb6⟩
  obtain ⟨oaA, capA, hvA⟩ := own_form3 ha6
  subst hvA
  have HR6 := hide (HR5.out.on hb6 HR5.out.lt)
  have HX6 := hide (HX5.out.on hb6 HX5.out.lt)
  have B6 := hide (B5.out.trans (hb6.mono B5.out.size))
  have HO6 := hide (own_below HO5.out hb6)
  have HA6 := hide (own_base ha6 B5.out.size)
  clear ha6 hb6 HD5 HR5 HX5 HO5 B5 dv5
  go_wp2_with fail
  refine (faultOf_code 1 _ (HER.out.on B6.out)).mono ?_
  rintro e w7 ⟨rfl, hb7⟩
  have HR7 := hide (HR6.out.on hb7 HR6.out.lt)
  have HX7 := hide (HX6.out.on hb7 HX6.out.lt)
  have B7 := hide (B6.out.trans (hb7.mono B6.out.size))
  have HO7 := hide (own_below HO6.out hb7)
  have HA7 := hide (own_below HA6.out hb7)
  clear hb7 HR6 HX6 B6 HO6 HA6
  have hr7 := HR7.out
  have hx7 := HX7.out
  obtain ⟨r0, r1, r2, r3, r4, r5⟩ := hr7.jv
  have f0 := hr7.free 0
  have f1 := hr7.free 1
  have f2 := hr7.free 2
  have f3 := hr7.free 3
  have f4 := hr7.free 4
  have f5 := hr7.free 5
  obtain ⟨x0, x1, x2, x3, x4, x5⟩ := hx7.jv
  have HE := hide (hr7.all 0 0 0 0 0 (.slice oa4 0 cap4))
  clear hr7 hx7 HX7
  go_wp2_with fail
  go_region
  go_wp2_with fail
  have hX := HE.out.1
  have hY := HE.out.2
  have HO8 := hide (own_keptJA HO7.out HR7.out (by decide) hY)
  have HA8 := hide (own_keptJA HA7.out HR7.out (by decide) hY)
  have B8 := hide (B7.out.grown hY B7.out.size (fun k e => by cases e; omega))
  clear HE HR7 HO7 HA7 B7
  generalize ((((((w7.setCell ⟨w.heap.size + 1, 0, none⟩ (Value.int IntKind.i64 0)).setCell ⟨w.heap.size + 1, 1, none⟩ (Value.int IntKind.i64 0)).setCell ⟨w.heap.size + 1, 2, none⟩ (Value.int IntKind.i64 0)).setCell ⟨w.heap.size + 1, 3, none⟩ (Value.int IntKind.i64 0)).setCell ⟨w.heap.size + 1, 4, none⟩ (Value.int IntKind.i64 0)).setCell ⟨w.heap.size + 1, 5, none⟩ (Value.slice oa4 0 cap4)) = wf at hX HO8 HA8 B8 ⊢
  replace hX : JB wf.drew (w.heap.size + 1) 0 0 0 0 0 (.slice oa4 0 cap4) := hX
  obtain ⟨k0, k1, k2, k3, k4, k5⟩ := hX.jv
  refine bodyPost_ret (v := .tuple #[.slice oaA (drops b fs).length capA, jval 0 0 0 0 0 (.slice oa4 0 cap4), faultV 1]) (by simp [results, Tryz.results26, go_sem, k0, k1, k2, k3, k4, k5]) rfl ?_
  exact OpPost.mk' HR.out rfl (own_below HA8.out (Below.refl _ _).drew) (own_below HO8.out (Below.refl _ _).drew) B8.out.drew

set_option maxHeartbeats 8000000 in
theorem open_2 (oa : Option Addr) (n cap : Nat) (fs : List FileV) (w : World) (hat : FilesAt w oa n cap fs) (hw : ∀ f ∈ fs, Fine f) (htb : SumTabIs w) (hpw : PowIs w) (herr : ErrVar w) (hd : diskOk fs = true) (hrf : rfR (lastOf (-1) fs) (textAt fs (jnName (lastOf (-1) fs))) = (zeroJ, 0, 2)) :
    Calls Tryz.prog 26 #[.agg #[.slice oa n cap]] w fun e w' => OpPost fs w e w' := by
  have HRF := hide hrf
  clear hrf
  have hb0 := ((Below.refl w.heap.size w).alloc (Nat.le_refl _) (.cells #[.slice oa n cap] 36)).alloc (by simp) (.cells (jcells 0 0 0 0 0 (.slice none 0 0)) 30)
  have hd0 : DV ((w.alloc (.cells #[.slice oa n cap] 36)).alloc (.cells (jcells 0 0 0 0 0 (.slice none 0 0)) 30)) w.heap.size (.slice oa n cap) := (Below.heap_alloc _ _ _ (by simp)).trans (heap_alloc_new _ _)
  have hr0 : JB ((w.alloc (.cells #[.slice oa n cap] 36)).alloc (.cells (jcells 0 0 0 0 0 (.slice none 0 0)) 30)) (w.heap.size + 1) 0 0 0 0 0 (.slice none 0 0) := by have := heap_alloc_new (w.alloc (.cells #[.slice oa n cap] 36)) (.cells (jcells 0 0 0 0 0 (.slice none 0 0)) 30); rwa [World.size_alloc] at this
  have HDO := hide (implDiskOk_any oa n cap fs _ (hat.below hb0) hw)
  rw [hd] at HDO
  have HB0 := hide hb0
  have HD0 := hide hd0
  have HR0 := hide hr0
  have HAT := hide hat
  have HTB := hide htb
  have HPW := hide hpw
  have HER := hide herr
  have HFW := hide hw
  clear hb0 hd0 hr0 hat htb hpw herr hw
  have HR := hide (show opR fs = (drops (lastOf (-1) fs) fs, zeroJ, 2) by unfold opR; rw [if_pos hd, HRF.out]; simp only; rw [if_neg (by decide)])
  obtain ⟨hlen, hnm, htx, -⟩ := disk_names hd
  have hnn := HAT.out.len
  have hbr := lastOf_range (-1) fs (by omega)
  obtain ⟨b, hb⟩ : ∃ b, lastOf (-1) fs = b := ⟨_, rfl⟩
  rw [hb] at hbr HRF HR
  obtain ⟨T, hT⟩ : ∃ T, textAt fs (jnName b) = T := ⟨_, rfl⟩
  have hTl := textAt_room htx (jnName b)
  rw [hT] at hTl HRF
  have HLN := hide (fun w hat ht => lastNumber_any oa n cap fs w hat (by omega) (fun f hf => by have := hnm f hf; omega) ht)
  rw [hb] at HLN
  have HJN := hide (fun w ht => implJournalName_any b (by omega) (by omega) w ht)
  have HFA := hide (fun w hat => implFileAt_any oa n cap fs (jnName b) w hat HFW.out)
  rw [hT] at HFA
  have HRD := hide (fun w ht => readFile_any b ⟨T.toArray⟩ (by rw [size_mk7]; omega) w ht)
  rw [bl_mk7] at HRD
  have HDR := hide (fun w hat ht => dropOthers_any oa n cap fs b hbr w hat (by omega) (fun f hf => by have := hnm f hf; omega) ht)
  have hdl : (drops b fs).length ≤ 1000 := by have := drops_room b fs; omega
  have HNA := hide (jnName_length b)
  unfold RfPost at HRD
  rw [HRF.out] at HRD
  simp only [zeroJ] at HRD
  obtain ⟨h9, hh9⟩ : ∃ h9, hasAt fs (jnName b) = h9 := ⟨_, rfl⟩
  rw [hh9] at HFA
  generalize (⟨(jnName b).toArray⟩ : ByteArray) = NB at HJN HFA
  generalize (⟨T.toArray⟩ : ByteArray) = TB at HFA HRD
  clear hd hnm htx hlen hh9 hT hb HFW
  rw [show errV 2 = faultV 2 from rfl] at HRD
  go_enter Tryz.func26, Tryz.ntmps26
  go_wp2_with fail
  refine HDO.out.mono ?_
  rintro e w1 ⟨rfl, hb1⟩
  have HD1 := hide (HD0.out.on hb1 (by simp; omega))
  have HR1 := hide (HR0.out.on hb1 (by simp))
  have B1 := hide (HB0.out.trans (hb1.mono (by simp; omega)))
  clear hb1 HD0 HR0 HB0 HDO
  obtain dv1 := HD1.out.cell
  go_wp2_with fail
  refine (HLN.out _ (HAT.out.below B1.out) (tab_below HPW.out B1.out)).mono ?_
  rintro e w2 ⟨rfl, hb2⟩
  have HD2 := hide (HD1.out.on hb2 HD1.out.lt)
  have HR2 := hide (HR1.out.on hb2 HR1.out.lt)
  have B2 := hide (B1.out.trans (hb2.mono B1.out.size))
  clear hb2 HD1 HR1 B1 dv1
  go_wp2_with fail
  refine wp_region_in (F := (fun w' => Below w2.heap.size w2 w')) (by kernel_rfl) (by kernel_rfl) (Below.refl _ _).drew ?_
  have hne : Nonempty (InW (fun w' => Below w2.heap.size w2 w')) := ⟨⟨_, Below.refl _ _⟩⟩
  have k0 : ∀ m : InW (fun w' => Below w2.heap.size w2 w'), m.w.cell? ⟨w.heap.size, 0, none⟩ = some (.slice oa n cap) := fun m => (HD2.out.on m.h HD2.out.lt).cell
  have HATW := hide (show ∀ m : InW (fun w' => Below w2.heap.size w2 w'), FilesAt m.w oa n cap fs from fun m => HAT.out.below (B2.out.trans (m.h.mono B2.out.size)))
  have HPWW := hide (show ∀ m : InW (fun w' => Below w2.heap.size w2 w'), PowIs m.w from fun m => tab_below HPW.out (B2.out.trans (m.h.mono B2.out.size)))
  repeat (go_big_quiet_step (first | (go_at_call 50; refine (HJN.out _ (HPWW.out _)).mono ?_; rintro r w9 ⟨rfl, hb9⟩; exact ⟨rfl, ⟨w9, Below.trans (InW.h _) (hb9.mono (Below.size (InW.h (F := (fun w' => Below w2.heap.size w2 w')) ‹_›)))⟩, rfl⟩) | (go_at_call 49; refine (HFA.out _ (HATW.out _)).mono ?_; rintro r w9 ⟨rfl, hb9⟩; exact ⟨rfl, ⟨w9, Below.trans (InW.h _) (hb9.mono (Below.size (InW.h (F := (fun w' => Below w2.heap.size w2 w')) ‹_›)))⟩, rfl⟩)))
  refine wpQuiet_nil ?_
  intro _ hw'
  obtain ⟨nq, hw''⟩ := hw'
  subst hw''
  have hb3 := nq.h
  generalize nq.w = w3 at hb3 ⊢
  have HD3 := hide (HD2.out.on hb3 HD2.out.lt)
  have HR3 := hide (HR2.out.on hb3 HR2.out.lt)
  have B3 := hide (B2.out.trans (hb3.mono B2.out.size))
  clear hne k0 HATW HPWW hb3 HD2 HR2 B2
  go_wp2_with fail
  refine (HRD.out _ (tab_below HTB.out B3.out)).mono ?_
  rintro e w4 ⟨v4, rfl, ho4, hb4⟩
  obtain ⟨oa4, cap4, hv4⟩ := own_form3 ho4
  subst hv4
  replace ho4 : w4.ownsRow w3.heap.size 111 3 (.slice oa4 0 cap4) 0 (([] : List EntV).flatMap ecells) := ho4
  have hb5 := (Below.refl w4.heap.size w4).alloc (Nat.le_refl _) (.cells (jcells 0 0 0 0 0 (.slice oa4 0 cap4)) 30)
  have hx5 := JB.new w4 0 0 0 0 0 (.slice oa4 0 cap4)
  have hbb := hb4.trans (hb5.mono hb4.size)
  have HD5 := hide (HD3.out.on hbb HD3.out.lt)
  have HR5 := hide (HR3.out.on hbb HR3.out.lt)
  have B5 := hide (B3.out.trans (hbb.mono B3.out.size))
  have HO5 := hide (own_base (own_below ho4 hb5) B3.out.size)
  have HX5 := hide hx5
  have hl9 : w.heap.size + 1 < w4.heap.size := Nat.lt_of_lt_of_le HR3.out.lt hb4.size
  clear ho4 hb4 hb5 hx5 hbb HD3 HR3 B3
  have dv5 := HD5.out.cell
  go_wp2_with fail
  generalize w4.alloc (Obj.cells #[Value.int IntKind.i64 0, Value.int IntKind.i64 0, Value.int IntKind.i64 0, Value.int IntKind.i64 0, Value.int IntKind.i64 0, Value.slice oa4 0 cap4] 30) = w5 at HD5 HR5 B5 HO5 HX5 dv5 ⊢
  generalize w4.heap.size = b8 at HX5 hl9 ⊢
  refine (HDR.out _ (HAT.out.below B5.out) (tab_below HPW.out B5.out)).mono ?_
  rintro e w6 ⟨va, rfl, ha6, hb6⟩
  obtain ⟨oaA, capA, hvA⟩ := own_form3 ha6
  subst hvA
  have HR6 := hide (HR5.out.on hb6 HR5.out.lt)
  have HX6 := hide (HX5.out.on hb6 HX5.out.lt)
  have B6 := hide (B5.out.trans (hb6.mono B5.out.size))
  have HO6 := hide (own_below HO5.out hb6)
  have HA6 := hide (own_base ha6 B5.out.size)
  clear ha6 hb6 HD5 HR5 HX5 HO5 B5 dv5
  go_wp2_with fail
  refine (faultOf_code 2 _ (HER.out.on B6.out)).mono ?_
  rintro e w7 ⟨rfl, hb7⟩
  have HR7 := hide (HR6.out.on hb7 HR6.out.lt)
  have HX7 := hide (HX6.out.on hb7 HX6.out.lt)
  have B7 := hide (B6.out.trans (hb7.mono B6.out.size))
  have HO7 := hide (own_below HO6.out hb7)
  have HA7 := hide (own_below HA6.out hb7)
  clear hb7 HR6 HX6 B6 HO6 HA6
  have hr7 := HR7.out
  have hx7 := HX7.out
  obtain ⟨r0, r1, r2, r3, r4, r5⟩ := hr7.jv
  have f0 := hr7.free 0
  have f1 := hr7.free 1
  have f2 := hr7.free 2
  have f3 := hr7.free 3
  have f4 := hr7.free 4
  have f5 := hr7.free 5
  obtain ⟨x0, x1, x2, x3, x4, x5⟩ := hx7.jv
  have HE := hide (hr7.all 0 0 0 0 0 (.slice oa4 0 cap4))
  clear hr7 hx7 HX7
  go_wp2_with fail
  go_region
  go_wp2_with fail
  have hX := HE.out.1
  have hY := HE.out.2
  have HO8 := hide (own_keptJA HO7.out HR7.out (by decide) hY)
  have HA8 := hide (own_keptJA HA7.out HR7.out (by decide) hY)
  have B8 := hide (B7.out.grown hY B7.out.size (fun k e => by cases e; omega))
  clear HE HR7 HO7 HA7 B7
  generalize ((((((w7.setCell ⟨w.heap.size + 1, 0, none⟩ (Value.int IntKind.i64 0)).setCell ⟨w.heap.size + 1, 1, none⟩ (Value.int IntKind.i64 0)).setCell ⟨w.heap.size + 1, 2, none⟩ (Value.int IntKind.i64 0)).setCell ⟨w.heap.size + 1, 3, none⟩ (Value.int IntKind.i64 0)).setCell ⟨w.heap.size + 1, 4, none⟩ (Value.int IntKind.i64 0)).setCell ⟨w.heap.size + 1, 5, none⟩ (Value.slice oa4 0 cap4)) = wf at hX HO8 HA8 B8 ⊢
  replace hX : JB wf.drew (w.heap.size + 1) 0 0 0 0 0 (.slice oa4 0 cap4) := hX
  obtain ⟨k0, k1, k2, k3, k4, k5⟩ := hX.jv
  refine bodyPost_ret (v := .tuple #[.slice oaA (drops b fs).length capA, jval 0 0 0 0 0 (.slice oa4 0 cap4), faultV 2]) (by simp [results, Tryz.results26, go_sem, k0, k1, k2, k3, k4, k5]) rfl ?_
  exact OpPost.mk' HR.out rfl (own_below HA8.out (Below.refl _ _).drew) (own_below HO8.out (Below.refl _ _).drew) B8.out.drew

set_option maxHeartbeats 8000000 in
theorem open_next (oa : Option Addr) (n cap : Nat) (fs : List FileV) (w : World) (hat : FilesAt w oa n cap fs) (hw : ∀ f ∈ fs, Fine f) (htb : SumTabIs w) (hpw : PowIs w) (herr : ErrVar w) (hd : diskOk fs = true) (j : JnV) (E : Nat) (hrf : rfR (lastOf (-1) fs) (textAt fs (jnName (lastOf (-1) fs))) = (j, E, 3)) (hc : j.number < 999) :
    Calls Tryz.prog 26 #[.agg #[.slice oa n cap]] w fun e w' => OpPost fs w e w' := by
  have HRF := hide hrf
  clear hrf
  have hb0 := ((Below.refl w.heap.size w).alloc (Nat.le_refl _) (.cells #[.slice oa n cap] 36)).alloc (by simp) (.cells (jcells 0 0 0 0 0 (.slice none 0 0)) 30)
  have hd0 : DV ((w.alloc (.cells #[.slice oa n cap] 36)).alloc (.cells (jcells 0 0 0 0 0 (.slice none 0 0)) 30)) w.heap.size (.slice oa n cap) := (Below.heap_alloc _ _ _ (by simp)).trans (heap_alloc_new _ _)
  have hr0 : JB ((w.alloc (.cells #[.slice oa n cap] 36)).alloc (.cells (jcells 0 0 0 0 0 (.slice none 0 0)) 30)) (w.heap.size + 1) 0 0 0 0 0 (.slice none 0 0) := by have := heap_alloc_new (w.alloc (.cells #[.slice oa n cap] 36)) (.cells (jcells 0 0 0 0 0 (.slice none 0 0)) 30); rwa [World.size_alloc] at this
  have HDO := hide (implDiskOk_any oa n cap fs _ (hat.below hb0) hw)
  rw [hd] at HDO
  have HB0 := hide hb0
  have HD0 := hide hd0
  have HR0 := hide hr0
  have HAT := hide hat
  have HTB := hide htb
  have HPW := hide hpw
  have HER := hide herr
  have HFW := hide hw
  clear hb0 hd0 hr0 hat htb hpw herr hw
  have HR := hide (show opR fs = (drops (lastOf (-1) fs) fs ++ anewA j, { j with number := j.number + 1 }, 0) by unfold opR; rw [if_pos hd, HRF.out]; simp only; rw [if_pos (by trivial), if_pos hc])
  obtain ⟨hjo, -⟩ := rf_rest HRF.out
  obtain ⟨hlen, hnm, htx, -⟩ := disk_names hd
  have hnn := HAT.out.len
  have hbr := lastOf_range (-1) fs (by omega)
  obtain ⟨b, hb⟩ : ∃ b, lastOf (-1) fs = b := ⟨_, rfl⟩
  rw [hb] at hbr HRF HR
  obtain ⟨T, hT⟩ : ∃ T, textAt fs (jnName b) = T := ⟨_, rfl⟩
  have hTl := textAt_room htx (jnName b)
  rw [hT] at hTl HRF
  have HLN := hide (fun w hat ht => lastNumber_any oa n cap fs w hat (by omega) (fun f hf => by have := hnm f hf; omega) ht)
  rw [hb] at HLN
  have HJN := hide (fun w ht => implJournalName_any b (by omega) (by omega) w ht)
  have HFA := hide (fun w hat => implFileAt_any oa n cap fs (jnName b) w hat HFW.out)
  rw [hT] at HFA
  have HRD := hide (fun w ht => readFile_any b ⟨T.toArray⟩ (by rw [size_mk7]; omega) w ht)
  rw [bl_mk7] at HRD
  have HDR := hide (fun w hat ht => dropOthers_any oa n cap fs b hbr w hat (by omega) (fun f hf => by have := hnm f hf; omega) ht)
  have hdl : (drops b fs).length ≤ 1000 := by have := drops_room b fs; omega
  have HNA := hide (jnName_length b)
  unfold RfPost at HRD
  rw [HRF.out] at HRD
  simp only at HRD
  obtain ⟨h9, hh9⟩ : ∃ h9, hasAt fs (jnName b) = h9 := ⟨_, rfl⟩
  rw [hh9] at HFA
  generalize (⟨(jnName b).toArray⟩ : ByteArray) = NB at HJN HFA
  generalize (⟨T.toArray⟩ : ByteArray) = TB at HFA HRD
  clear hd hnm htx hlen hh9 hT hb HFW
  rw [show errV 3 = faultV 3 from rfl] at HRD
  go_enter Tryz.func26, Tryz.ntmps26
  go_wp2_with fail
  refine HDO.out.mono ?_
  rintro e w1 ⟨rfl, hb1⟩
  have HD1 := hide (HD0.out.on hb1 (by simp; omega))
  have HR1 := hide (HR0.out.on hb1 (by simp))
  have B1 := hide (HB0.out.trans (hb1.mono (by simp; omega)))
  clear hb1 HD0 HR0 HB0 HDO
  obtain dv1 := HD1.out.cell
  go_wp2_with fail
  refine (HLN.out _ (HAT.out.below B1.out) (tab_below HPW.out B1.out)).mono ?_
  rintro e w2 ⟨rfl, hb2⟩
  have HD2 := hide (HD1.out.on hb2 HD1.out.lt)
  have HR2 := hide (HR1.out.on hb2 HR1.out.lt)
  have B2 := hide (B1.out.trans (hb2.mono B1.out.size))
  clear hb2 HD1 HR1 B1 dv1
  go_wp2_with fail
  refine wp_region_in (F := (fun w' => Below w2.heap.size w2 w')) (by kernel_rfl) (by kernel_rfl) (Below.refl _ _).drew ?_
  have hne : Nonempty (InW (fun w' => Below w2.heap.size w2 w')) := ⟨⟨_, Below.refl _ _⟩⟩
  have k0 : ∀ m : InW (fun w' => Below w2.heap.size w2 w'), m.w.cell? ⟨w.heap.size, 0, none⟩ = some (.slice oa n cap) := fun m => (HD2.out.on m.h HD2.out.lt).cell
  have HATW := hide (show ∀ m : InW (fun w' => Below w2.heap.size w2 w'), FilesAt m.w oa n cap fs from fun m => HAT.out.below (B2.out.trans (m.h.mono B2.out.size)))
  have HPWW := hide (show ∀ m : InW (fun w' => Below w2.heap.size w2 w'), PowIs m.w from fun m => tab_below HPW.out (B2.out.trans (m.h.mono B2.out.size)))
  repeat (go_big_quiet_step (first | (go_at_call 50; refine (HJN.out _ (HPWW.out _)).mono ?_; rintro r w9 ⟨rfl, hb9⟩; exact ⟨rfl, ⟨w9, Below.trans (InW.h _) (hb9.mono (Below.size (InW.h (F := (fun w' => Below w2.heap.size w2 w')) ‹_›)))⟩, rfl⟩) | (go_at_call 49; refine (HFA.out _ (HATW.out _)).mono ?_; rintro r w9 ⟨rfl, hb9⟩; exact ⟨rfl, ⟨w9, Below.trans (InW.h _) (hb9.mono (Below.size (InW.h (F := (fun w' => Below w2.heap.size w2 w')) ‹_›)))⟩, rfl⟩)))
  refine wpQuiet_nil ?_
  intro _ hw'
  obtain ⟨nq, hw''⟩ := hw'
  subst hw''
  have hb3 := nq.h
  generalize nq.w = w3 at hb3 ⊢
  have HD3 := hide (HD2.out.on hb3 HD2.out.lt)
  have HR3 := hide (HR2.out.on hb3 HR2.out.lt)
  have B3 := hide (B2.out.trans (hb3.mono B2.out.size))
  clear hne k0 HATW HPWW hb3 HD2 HR2 B2
  go_wp2_with fail
  refine (HRD.out _ (tab_below HTB.out B3.out)).mono ?_
  rintro e w4 ⟨v4, rfl, ho4, hb4⟩
  obtain ⟨oa4, cap4, hv4⟩ := own_form3 ho4
  subst hv4
  have hb5 := (Below.refl w4.heap.size w4).alloc (Nat.le_refl _) (.cells (jcells j.number j.term j.vote j.s j.u (.slice oa4 j.es.length cap4)) 30)
  have hx5 := JB.new w4 j.number j.term j.vote j.s j.u (.slice oa4 j.es.length cap4)
  have hbb := hb4.trans (hb5.mono hb4.size)
  have HD5 := hide (HD3.out.on hbb HD3.out.lt)
  have HR5 := hide (HR3.out.on hbb HR3.out.lt)
  have B5 := hide (B3.out.trans (hbb.mono B3.out.size))
  have HO5 := hide (own_base (own_below ho4 hb5) B3.out.size)
  have HX5 := hide hx5
  have hl9 : w.heap.size + 1 < w4.heap.size := Nat.lt_of_lt_of_le HR3.out.lt hb4.size
  clear ho4 hb4 hb5 hx5 hbb HD3 HR3 B3
  have dv5 := HD5.out.cell
  go_wp2_with fail
  generalize w4.alloc (Obj.cells #[Value.int IntKind.i64 j.number, Value.int IntKind.i64 j.term, Value.int IntKind.i64 j.vote, Value.int IntKind.i64 j.s, Value.int IntKind.i64 j.u, Value.slice oa4 j.es.length cap4] 30) = w5 at HD5 HR5 B5 HO5 HX5 dv5 ⊢
  generalize w4.heap.size = b8 at HX5 hl9 ⊢
  refine (HDR.out _ (HAT.out.below B5.out) (tab_below HPW.out B5.out)).mono ?_
  rintro e w6 ⟨va, rfl, ha6, hb6⟩
  obtain ⟨oaA, capA, hvA⟩ := own_form3 ha6
  subst hvA
  have HR6 := hide (HR5.out.on hb6 HR5.out.lt)
  have HX6 := hide (HX5.out.on hb6 HX5.out.lt)
  have B6 := hide (B5.out.trans (hb6.mono B5.out.size))
  have HO6 := hide (own_below HO5.out hb6)
  have HA6 := hide (own_base ha6 B5.out.size)
  clear ha6 hb6 HD5 HR5 HX5 HO5 B5 dv5
  go_wp2_with fail
  refine (faultOf_code 3 _ (HER.out.on B6.out)).mono ?_
  rintro e w7 ⟨rfl, hb7⟩
  have HR7 := hide (HR6.out.on hb7 HR6.out.lt)
  have HX7 := hide (HX6.out.on hb7 HX6.out.lt)
  have B7 := hide (B6.out.trans (hb7.mono B6.out.size))
  have HO7 := hide (own_below HO6.out hb7)
  have HA7 := hide (own_below HA6.out hb7)
  clear hb7 HR6 HX6 B6 HO6 HA6
  have HNF := hide (nextFile_yes j oa4 j.es.length cap4 (.slice oaA (drops b fs).length capA) w.heap.size (drops b fs) w7 hjo (by obtain ⟨_, _, he, h⟩ := entsAt_own HO7.out; cases he; exact h) hdl HA7.out B7.out.size (tab_below HTB.out B7.out) (tab_below HPW.out B7.out) hc)
  unfold NfYes at HNF
  obtain ⟨Y, hY9⟩ : ∃ Y, drops b fs ++ anewA j = Y := ⟨_, rfl⟩
  rw [hY9] at HNF HR
  have hx7 := HX7.out
  obtain ⟨x0, x1, x2, x3, x4, x5⟩ := hx7.jv
  clear hx7 hY9
  go_wp2_with fail
  refine HNF.out.mono ?_
  rintro e w8 ⟨vb, rfl, ha8, hg8⟩
  obtain ⟨oaB, capB, hvB⟩ := own_form3 ha8
  subst hvB
  have hr8 := HR7.out.kept hg8 (jb_rowA HR7.out HA7.out (by decide))
  have HO8 := hide (own_stays HO7.out HA7.out (by decide) hg8)
  have HA8 := hide ha8
  have B8 := hide (B7.out.grown hg8 B7.out.size (fun q hq => (HA7.out.lt q hq).1))
  clear ha8 hg8 HNF HR7 HX7 HO7 HA7 B7 x0 x1 x2 x3 x4 x5
  obtain ⟨r0, r1, r2, r3, r4, r5⟩ := hr8.jv
  have f0 := hr8.free 0
  have f1 := hr8.free 1
  have f2 := hr8.free 2
  have f3 := hr8.free 3
  have f4 := hr8.free 4
  have f5 := hr8.free 5
  have HE := hide (hr8.all (j.number + 1) j.term j.vote j.s j.u (.slice oa4 j.es.length cap4))
  have HR8 := hide hr8
  clear hr8
  go_wp2_with fail
  have hX := HE.out.1
  have hY := HE.out.2
  have HO9 := hide (own_keptJA HO8.out HR8.out (by decide) hY)
  have HA9 := hide (own_keptJA HA8.out HR8.out (by decide) hY)
  have B9 := hide (B8.out.grown hY B8.out.size (fun k e => by cases e; omega))
  clear HE HR8 HO8 HA8 B8
  generalize ((((((w8.setCell ⟨w.heap.size + 1, 0, none⟩ (Value.int IntKind.i64 (j.number + 1))).setCell ⟨w.heap.size + 1, 1, none⟩ (Value.int IntKind.i64 j.term)).setCell ⟨w.heap.size + 1, 2, none⟩ (Value.int IntKind.i64 j.vote)).setCell ⟨w.heap.size + 1, 3, none⟩ (Value.int IntKind.i64 j.s)).setCell ⟨w.heap.size + 1, 4, none⟩ (Value.int IntKind.i64 j.u)).setCell ⟨w.heap.size + 1, 5, none⟩ (Value.slice oa4 j.es.length cap4)) = wf at hX HO9 HA9 B9 ⊢
  obtain ⟨k0, k1, k2, k3, k4, k5⟩ := hX.jv
  refine bodyPost_ret (v := .tuple #[.slice oaB Y.length capB, jval (j.number + 1) j.term j.vote j.s j.u (.slice oa4 j.es.length cap4), .nilIface]) (by simp [results, Tryz.results26, go_sem, k0, k1, k2, k3, k4, k5]) rfl ?_
  exact OpPost.mk' HR.out rfl HA9.out HO9.out B9.out

set_option maxHeartbeats 8000000 in
theorem open_full (oa : Option Addr) (n cap : Nat) (fs : List FileV) (w : World) (hat : FilesAt w oa n cap fs) (hw : ∀ f ∈ fs, Fine f) (htb : SumTabIs w) (hpw : PowIs w) (herr : ErrVar w) (hd : diskOk fs = true) (j : JnV) (E : Nat) (hrf : rfR (lastOf (-1) fs) (textAt fs (jnName (lastOf (-1) fs))) = (j, E, 3)) (hc : ¬ j.number < 999) :
    Calls Tryz.prog 26 #[.agg #[.slice oa n cap]] w fun e w' => OpPost fs w e w' := by
  have HRF := hide hrf
  clear hrf
  have hb0 := ((Below.refl w.heap.size w).alloc (Nat.le_refl _) (.cells #[.slice oa n cap] 36)).alloc (by simp) (.cells (jcells 0 0 0 0 0 (.slice none 0 0)) 30)
  have hd0 : DV ((w.alloc (.cells #[.slice oa n cap] 36)).alloc (.cells (jcells 0 0 0 0 0 (.slice none 0 0)) 30)) w.heap.size (.slice oa n cap) := (Below.heap_alloc _ _ _ (by simp)).trans (heap_alloc_new _ _)
  have hr0 : JB ((w.alloc (.cells #[.slice oa n cap] 36)).alloc (.cells (jcells 0 0 0 0 0 (.slice none 0 0)) 30)) (w.heap.size + 1) 0 0 0 0 0 (.slice none 0 0) := by have := heap_alloc_new (w.alloc (.cells #[.slice oa n cap] 36)) (.cells (jcells 0 0 0 0 0 (.slice none 0 0)) 30); rwa [World.size_alloc] at this
  have HDO := hide (implDiskOk_any oa n cap fs _ (hat.below hb0) hw)
  rw [hd] at HDO
  have HB0 := hide hb0
  have HD0 := hide hd0
  have HR0 := hide hr0
  have HAT := hide hat
  have HTB := hide htb
  have HPW := hide hpw
  have HER := hide herr
  have HFW := hide hw
  clear hb0 hd0 hr0 hat htb hpw herr hw
  have HR := hide (show opR fs = ([], zeroJ, 6) by unfold opR; rw [if_pos hd, HRF.out]; simp only; rw [if_pos (by trivial), if_neg hc])
  obtain ⟨hjo, -⟩ := rf_rest HRF.out
  obtain ⟨hlen, hnm, htx, -⟩ := disk_names hd
  have hnn := HAT.out.len
  have hbr := lastOf_range (-1) fs (by omega)
  obtain ⟨b, hb⟩ : ∃ b, lastOf (-1) fs = b := ⟨_, rfl⟩
  rw [hb] at hbr HRF
  obtain ⟨T, hT⟩ : ∃ T, textAt fs (jnName b) = T := ⟨_, rfl⟩
  have hTl := textAt_room htx (jnName b)
  rw [hT] at hTl HRF
  have HLN := hide (fun w hat ht => lastNumber_any oa n cap fs w hat (by omega) (fun f hf => by have := hnm f hf; omega) ht)
  rw [hb] at HLN
  have HJN := hide (fun w ht => implJournalName_any b (by omega) (by omega) w ht)
  have HFA := hide (fun w hat => implFileAt_any oa n cap fs (jnName b) w hat HFW.out)
  rw [hT] at HFA
  have HRD := hide (fun w ht => readFile_any b ⟨T.toArray⟩ (by rw [size_mk7]; omega) w ht)
  rw [bl_mk7] at HRD
  have HDR := hide (fun w hat ht => dropOthers_any oa n cap fs b hbr w hat (by omega) (fun f hf => by have := hnm f hf; omega) ht)
  have hdl : (drops b fs).length ≤ 1000 := by have := drops_room b fs; omega
  have HNA := hide (jnName_length b)
  unfold RfPost at HRD
  rw [HRF.out] at HRD
  simp only at HRD
  obtain ⟨h9, hh9⟩ : ∃ h9, hasAt fs (jnName b) = h9 := ⟨_, rfl⟩
  rw [hh9] at HFA
  generalize (⟨(jnName b).toArray⟩ : ByteArray) = NB at HJN HFA
  generalize (⟨T.toArray⟩ : ByteArray) = TB at HFA HRD
  clear hd hnm htx hlen hh9 hT hb HFW
  rw [show errV 3 = faultV 3 from rfl] at HRD
  go_enter Tryz.func26, Tryz.ntmps26
  go_wp2_with fail
  refine HDO.out.mono ?_
  rintro e w1 ⟨rfl, hb1⟩
  have HD1 := hide (HD0.out.on hb1 (by simp; omega))
  have HR1 := hide (HR0.out.on hb1 (by simp))
  have B1 := hide (HB0.out.trans (hb1.mono (by simp; omega)))
  clear hb1 HD0 HR0 HB0 HDO
  obtain dv1 := HD1.out.cell
  go_wp2_with fail
  refine (HLN.out _ (HAT.out.below B1.out) (tab_below HPW.out B1.out)).mono ?_
  rintro e w2 ⟨rfl, hb2⟩
  have HD2 := hide (HD1.out.on hb2 HD1.out.lt)
  have HR2 := hide (HR1.out.on hb2 HR1.out.lt)
  have B2 := hide (B1.out.trans (hb2.mono B1.out.size))
  clear hb2 HD1 HR1 B1 dv1
  go_wp2_with fail
  refine wp_region_in (F := (fun w' => Below w2.heap.size w2 w')) (by kernel_rfl) (by kernel_rfl) (Below.refl _ _).drew ?_
  have hne : Nonempty (InW (fun w' => Below w2.heap.size w2 w')) := ⟨⟨_, Below.refl _ _⟩⟩
  have k0 : ∀ m : InW (fun w' => Below w2.heap.size w2 w'), m.w.cell? ⟨w.heap.size, 0, none⟩ = some (.slice oa n cap) := fun m => (HD2.out.on m.h HD2.out.lt).cell
  have HATW := hide (show ∀ m : InW (fun w' => Below w2.heap.size w2 w'), FilesAt m.w oa n cap fs from fun m => HAT.out.below (B2.out.trans (m.h.mono B2.out.size)))
  have HPWW := hide (show ∀ m : InW (fun w' => Below w2.heap.size w2 w'), PowIs m.w from fun m => tab_below HPW.out (B2.out.trans (m.h.mono B2.out.size)))
  repeat (go_big_quiet_step (first | (go_at_call 50; refine (HJN.out _ (HPWW.out _)).mono ?_; rintro r w9 ⟨rfl, hb9⟩; exact ⟨rfl, ⟨w9, Below.trans (InW.h _) (hb9.mono (Below.size (InW.h (F := (fun w' => Below w2.heap.size w2 w')) ‹_›)))⟩, rfl⟩) | (go_at_call 49; refine (HFA.out _ (HATW.out _)).mono ?_; rintro r w9 ⟨rfl, hb9⟩; exact ⟨rfl, ⟨w9, Below.trans (InW.h _) (hb9.mono (Below.size (InW.h (F := (fun w' => Below w2.heap.size w2 w')) ‹_›)))⟩, rfl⟩)))
  refine wpQuiet_nil ?_
  intro _ hw'
  obtain ⟨nq, hw''⟩ := hw'
  subst hw''
  have hb3 := nq.h
  generalize nq.w = w3 at hb3 ⊢
  have HD3 := hide (HD2.out.on hb3 HD2.out.lt)
  have HR3 := hide (HR2.out.on hb3 HR2.out.lt)
  have B3 := hide (B2.out.trans (hb3.mono B2.out.size))
  clear hne k0 HATW HPWW hb3 HD2 HR2 B2
  go_wp2_with fail
  refine (HRD.out _ (tab_below HTB.out B3.out)).mono ?_
  rintro e w4 ⟨v4, rfl, ho4, hb4⟩
  obtain ⟨oa4, cap4, hv4⟩ := own_form3 ho4
  subst hv4
  have hb5 := (Below.refl w4.heap.size w4).alloc (Nat.le_refl _) (.cells (jcells j.number j.term j.vote j.s j.u (.slice oa4 j.es.length cap4)) 30)
  have hx5 := JB.new w4 j.number j.term j.vote j.s j.u (.slice oa4 j.es.length cap4)
  have hbb := hb4.trans (hb5.mono hb4.size)
  have HD5 := hide (HD3.out.on hbb HD3.out.lt)
  have HR5 := hide (HR3.out.on hbb HR3.out.lt)
  have B5 := hide (B3.out.trans (hbb.mono B3.out.size))
  have HO5 := hide (own_base (own_below ho4 hb5) B3.out.size)
  have HX5 := hide hx5
  have hl9 : w.heap.size + 1 < w4.heap.size := Nat.lt_of_lt_of_le HR3.out.lt hb4.size
  clear ho4 hb4 hb5 hx5 hbb HD3 HR3 B3
  have dv5 := HD5.out.cell
  go_wp2_with fail
  generalize w4.alloc (Obj.cells #[Value.int IntKind.i64 j.number, Value.int IntKind.i64 j.term, Value.int IntKind.i64 j.vote, Value.int IntKind.i64 j.s, Value.int IntKind.i64 j.u, Value.slice oa4 j.es.length cap4] 30) = w5 at HD5 HR5 B5 HO5 HX5 dv5 ⊢
  generalize w4.heap.size = b8 at HX5 hl9 ⊢
  refine (HDR.out _ (HAT.out.below B5.out) (tab_below HPW.out B5.out)).mono ?_
  rintro e w6 ⟨va, rfl, ha6, hb6⟩
  obtain ⟨oaA, capA, hvA⟩ := own_form3 ha6
  subst hvA
  have HR6 := hide (HR5.out.on hb6 HR5.out.lt)
  have HX6 := hide (HX5.out.on hb6 HX5.out.lt)
  have B6 := hide (B5.out.trans (hb6.mono B5.out.size))
  have HO6 := hide (own_below HO5.out hb6)
  have HA6 := hide (own_base ha6 B5.out.size)
  clear ha6 hb6 HD5 HR5 HX5 HO5 B5 dv5
  go_wp2_with fail
  refine (faultOf_code 3 _ (HER.out.on B6.out)).mono ?_
  rintro e w7 ⟨rfl, hb7⟩
  have HR7 := hide (HR6.out.on hb7 HR6.out.lt)
  have HX7 := hide (HX6.out.on hb7 HX6.out.lt)
  have B7 := hide (B6.out.trans (hb7.mono B6.out.size))
  have HO7 := hide (own_below HO6.out hb7)
  have HA7 := hide (own_below HA6.out hb7)
  clear hb7 HR6 HX6 B6 HO6 HA6
  have HNF := hide (nextFile_no j oa4 j.es.length cap4 (.slice oaA (drops b fs).length capA) w.heap.size (drops b fs) w7 hjo (by obtain ⟨_, _, he, h⟩ := entsAt_own HO7.out; cases he; exact h) hdl HA7.out B7.out.size (tab_below HTB.out B7.out) (tab_below HPW.out B7.out) (by omega))
  have hx7 := HX7.out
  obtain ⟨x0, x1, x2, x3, x4, x5⟩ := hx7.jv
  clear hx7
  go_wp2_with fail
  refine HNF.out.mono ?_
  rintro e w8 ⟨rfl, hb8⟩
  have hr8 := HR7.out.on hb8 HR7.out.lt
  have B8 := hide (B7.out.trans (hb8.mono B7.out.size))
  clear hb8 HNF HR7 HX7 HO7 HA7 B7 x0 x1 x2 x3 x4 x5
  obtain ⟨r0, r1, r2, r3, r4, r5⟩ := hr8.jv
  have f0 := hr8.free 0
  have f1 := hr8.free 1
  have f2 := hr8.free 2
  have f3 := hr8.free 3
  have f4 := hr8.free 4
  have f5 := hr8.free 5
  have HE := hide (hr8.all 0 0 0 0 0 (.slice none 0 0))
  clear hr8
  go_wp2_with fail
  refine bodyPost_ret (v := .tuple #[.slice none 0 0, jval 0 0 0 0 0 (.slice none 0 0), faultV 6]) (by simp [results, Tryz.results26, go_sem, r0, r1, r2, r3, r4, r5, f0, f1, f2, f3, f4, f5]) rfl ?_
  exact OpPost.mk' HR.out rfl (World.ownsRow_nil _ _ _ _) (World.ownsRow_nil _ _ _ _) (B8.out.grown HE.out.2 B8.out.size (fun k e => by cases e; omega))

theorem open_any (oa : Option Addr) (n cap : Nat) (fs : List FileV) (w : World) (hat : FilesAt w oa n cap fs) (hw : ∀ f ∈ fs, Fine f) (htb : SumTabIs w) (hpw : PowIs w) (herr : ErrVar w) :
    Calls Tryz.prog 26 #[.agg #[.slice oa n cap]] w fun e w' => OpPost fs w e w' := by
  cases hd : diskOk fs with
  | false => exact open_not oa n cap fs w hat hw htb hpw herr hd
  | true =>
    rcases rf_cases (lastOf (-1) fs) (textAt fs (jnName (lastOf (-1) fs))) with ⟨j, e, hf, -⟩ | ⟨j, e, hf, -⟩ | ⟨hf, -⟩ | ⟨hf, -⟩
    · exact open_0 oa n cap fs w hat hw htb hpw herr hd j e hf
    · by_cases hc : j.number < 999
      · exact open_next oa n cap fs w hat hw htb hpw herr hd j e hf hc
      · exact open_full oa n cap fs w hat hw htb hpw herr hd j e hf hc
    · exact open_1 oa n cap fs w hat hw htb hpw herr hd hf
    · exact open_2 oa n cap fs w hat hw htb hpw herr hd hf

end Go.Proofs.YthbgklmnmoclhaaGreatDoor
