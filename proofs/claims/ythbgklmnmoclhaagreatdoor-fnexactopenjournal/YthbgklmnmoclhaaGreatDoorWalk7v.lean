/-
  Walks of chapter 7: OpenJournal of the specification (made by wip/tools/gen7v.py).
-/
import Derived.Test.YthbgklmnmoclhaaGreatDoorWalk7s
import Derived.Test.YthbgklmnmoclhaaGreatDoorWalk7u
import Derived.Test.YthbgklmnmoclhaaGreatDoorWalk7o
namespace Go.Proofs.YthbgklmnmoclhaaGreatDoor
open Go.RowKit P1 P3 P5 P9 K
attribute [local go_sem ↓] Go.wp_at_zero Go.wp_at_succ
set_option linter.unusedVariables false
set_option linter.unusedSimpArgs false

theorem others_next {fs : List FileV} {k : Nat} {f : FileV} (b : Int) (h : fs[k]? = some f) : others b (fs.take (k + 1)) = others b (fs.take k) ++ (if isOther b f = true then [dropA f.name] else []) := by
  unfold others
  rw [List.take_add_one, h, List.filter_append, List.map_append]
  congr 1
  simp only [Option.toList_some, List.filter_cons, List.filter_nil]
  split <;> rfl
theorem others_room (b : Int) (fs : List FileV) : (others b fs).length ≤ fs.length := by
  unfold others
  rw [List.length_map]
  exact List.length_filter_le _ _

/-- Whether there is a file NameNew. -/
theorem new_at (fs : List FileV) : (atFrom nmNew fs 0 = -1 ∧ newDrop fs = []) ∨ ∃ i : Nat, atFrom nmNew fs 0 = (i : Int) ∧ newDrop fs = [dropA nmNew] := by
  rcases atFrom_spec nmNew fs 0 with ⟨h1, h2⟩ | ⟨i, f, h1, h2, h3, h4⟩
  · exact Or.inl ⟨h1, by unfold newDrop; rw [h2]; rfl⟩
  · exact Or.inr ⟨0 + i, h1, by unfold newDrop; rw [h3]; rfl⟩

theorem DV.kept {w w' : World} {b : Nat} {row : Option Nat} {x : Value} (h : DV w b x) (hg : w.grownBy w' row) (hne : row ≠ some b) : DV w' b x := (hg.block b h.lt (fun e => hne e.symm)).trans h
theorem dv_row {w : World} {b : Nat} {v : Value} {base2 : Nat} {e2 : TypeId} {k2 : Nat} {v2 : Value} {n2 : Nat} {xs2 : List Value} (hj : DV w b v) (ho : w.ownsRow base2 e2 k2 v2 n2 xs2) (hne : e2 ≠ 36) : v2.ownBlock ≠ some b := by
  intro e1
  rcases ho.2 with ⟨rfl, -⟩ | ⟨g, cap, cur, rfl, -, hgb, -⟩
  · cases e1
  · cases e1
    unfold DV at hj
    rw [hgb] at hj
    cases hj
    exact hne rfl

/-- What stands while the acts are listed. -/
structure L2 (w : World) (b8 : Nat) (dx : Value) (j : JnV) (x v : Value) (X : List ActV) (wr : World) : Prop where
  ac : wr.ownsRow w.heap.size 57 4 v X.length (X.flatMap akc)
  en : wr.ownsRow w.heap.size 111 3 x j.es.length (j.es.flatMap ecells)
  dk : DV wr w.heap.size dx
  rz : JB wr (w.heap.size + 1) 0 0 0 0 0 (.slice none 0 0)
  jb : JB wr b8 j.number j.term j.vote j.s j.u x
  be : Below w.heap.size w wr
theorem L2.on {w : World} {b8 : Nat} {dx : Value} {j : JnV} {x v : Value} {X : List ActV} {wr w' : World} (h : L2 w b8 dx j x v X wr) (hb : Below wr.heap.size wr w') : L2 w b8 dx j x v X w' :=
  ⟨own_below h.ac hb, own_below h.en hb, h.dk.on hb h.dk.lt, h.rz.on hb h.rz.lt, h.jb.on hb h.jb.lt, h.be.trans (hb.mono h.be.size)⟩
theorem L2.push {w : World} {b8 : Nat} {dx : Value} {j : JnV} {x v v' : Value} {X Y : List ActV} {wr w' : World} (h : L2 w b8 dx j x v X wr) (ho : w'.ownsRow w.heap.size 57 4 v' Y.length (Y.flatMap akc)) (hg : wr.grownBy w' v.ownBlock) : L2 w b8 dx j x v' Y w' :=
  ⟨ho, own_stays h.en h.ac (by decide) hg, h.dk.kept hg (dv_row h.dk h.ac (by decide)), h.rz.kept hg (jb_rowA h.rz h.ac (by decide)), h.jb.kept hg (jb_rowA h.jb h.ac (by decide)), h.be.grown hg h.be.size (fun q hq => (h.ac.lt q hq).1)⟩

/-- A row that the call owns, appended to another one. -/
theorem wp_append_rowK {P : Program} {w : World} {o : Oper} {a : Act} {K : Act → World → Prop} {Q : Exit → Act → World → Prop} (s x : Operand) (t : TypeId)
    (ho : o.op = .call { callee := .builtin .append, args := #[s, x], argTypes := #[t, t] })
    {base base2 k m : Nat} (hk0 : 0 < k) {e : TypeId} {z : Value} {bytes : Nat} (ht : P.underlying t = some (.slice e)) (hi : (P.info? e).map (fun i => (i.zero, i.size, i.bytes)) = some (some z, k, bytes)) (hzs : z.cells.size = k)
    {v v2 : Value} {n : Nat} {xs xs2 : List Value} (hs : a.eval s = v) (hown : w.ownsRow base e k v n xs) (hx : a.eval x = v2) (hown2 : w.ownsRow base2 e k v2 m xs2) (hm : 0 < m) (hu : ∀ u ∈ xs2, u.oneCell' = true)
    (hbase : base ≤ w.heap.size) (h63 : n + m ≤ maxLen) (hbytes : (n + m) * bytes ≤ 140737488355328)
    (h : ∀ v' w', w'.ownsRow base e k v' (n + m) (xs ++ xs2) → w.grownBy w' v.ownBlock → K (a.put o.dst v') w') : o.wp P a w K Q := by
  obtain ⟨i, hi, hz, h1, h2⟩ := info_parts hi
  rcases hown2.2 with ⟨_, rfl⟩ | ⟨g, cap, cur, rfl, hg0, hgb, hmc, hcm, hcs, htk⟩
  · omega
  · obtain ⟨v', w', hr, r1, r2, -⟩ := run_append_own (P := P) w base t o.type e i z k bytes ht hi hz h1 h2 hzs hk0 v n xs hown ⟨g, 0, none⟩ m cap xs2 hown2.1 (fun q u hq => World.news_of_block hgb q u (by
      rw [← htk] at hq
      rw [List.getElem?_take] at hq
      split at hq
      · exact hq
      · cases hq)) hu h63 hbytes hbase
    unfold Oper.wp execOp
    simp only [ho, resolve, invoke, builtin, Sem.run_bind, Sem.run_pure, Result.andThen_ok, List.map_toArray, List.map_cons, List.map_nil, hs, hx, hr]
    exact h v' w' r1 r2

set_option maxHeartbeats 4000000 in
theorem specOpen_not (oa : Option Addr) (n cap : Nat) (fs : List FileV) (w : World) (hat : FilesAt w oa n cap fs) (hw : ∀ f ∈ fs, Fine f) (hd : diskOk fs = false) :
    Calls Tryz.prog 5 #[.agg #[.slice oa n cap]] w fun e w' => OjPost fs w e w' := by
  have HDO := hide (fun w hat => specDiskOk_any oa n cap fs w hat hw)
  rw [hd] at HDO
  have hb0 := ((Below.refl w.heap.size w).alloc (Nat.le_refl _) (.cells #[.slice oa n cap] 36)).alloc (by simp) (.cells (jcells 0 0 0 0 0 (.slice none 0 0)) 30)
  have hd0 : DV ((w.alloc (.cells #[.slice oa n cap] 36)).alloc (.cells (jcells 0 0 0 0 0 (.slice none 0 0)) 30)) w.heap.size (.slice oa n cap) := (Below.heap_alloc _ _ _ (by simp)).trans (heap_alloc_new _ _)
  have hr0 : JB ((w.alloc (.cells #[.slice oa n cap] 36)).alloc (.cells (jcells 0 0 0 0 0 (.slice none 0 0)) 30)) (w.heap.size + 1) 0 0 0 0 0 (.slice none 0 0) := by have := heap_alloc_new (w.alloc (.cells #[.slice oa n cap] 36)) (.cells (jcells 0 0 0 0 0 (.slice none 0 0)) 30); rwa [World.size_alloc] at this
  have hb1 := hb0.alloc (by simp; omega) (.cells #[] 57)
  have hbx := (Below.refl ((w.alloc (.cells #[.slice oa n cap] 36)).alloc (.cells (jcells 0 0 0 0 0 (.slice none 0 0)) 30)).heap.size ((w.alloc (.cells #[.slice oa n cap] 36)).alloc (.cells (jcells 0 0 0 0 0 (.slice none 0 0)) 30))).alloc (Nat.le_refl _) (.cells #[] 57)
  have HD1 := hide (hd0.on hbx hd0.lt)
  have HR1 := hide (hr0.on hbx hr0.lt)
  have ha1 := World.ownsRow_made (w := ((w.alloc (.cells #[.slice oa n cap] 36)).alloc (.cells (jcells 0 0 0 0 0 (.slice none 0 0)) 30))) (e := 57) (base := w.heap.size) (size := 4) #[] 0 (by simp; omega) (by decide) rfl
  rw [World.size_alloc, World.size_alloc] at ha1
  replace ha1 : World.ownsRow (((w.alloc (.cells #[.slice oa n cap] 36)).alloc (.cells (jcells 0 0 0 0 0 (.slice none 0 0)) 30)).alloc (.cells #[] 57)) w.heap.size 57 4 (.slice (some ⟨w.heap.size + 1 + 1, 0, none⟩) 0 0) 0 (([] : List ActV).flatMap akc) := ha1
  have HA1 := hide ha1
  have HB1 := hide hb1
  have HN := hide hat.len
  have hmost := hat.most
  unfold maxLen at hmost
  have HAT := hide hat
  clear hb0 hd0 hr0 hb1 hbx ha1 hat hw
  have HR := hide (show ojR fs = (zeroJ, [], false) by unfold ojR opR; rw [if_neg (show ¬ diskOk fs = true by rw [hd]; decide)]; rfl)
  clear hd
  go_enter Tryz.func5, Tryz.ntmps5
  go_wp2_with fail
  generalize ((w.alloc (Obj.cells #[Value.slice oa n cap] 36)).alloc (Obj.cells #[Value.int IntKind.i64 0, Value.int IntKind.i64 0, Value.int IntKind.i64 0, Value.int IntKind.i64 0, Value.int IntKind.i64 0, Value.slice none 0 0] 30)).alloc (Obj.cells #[] 57) = w1 at HB1 HD1 HR1 HA1 ⊢
  generalize w.heap.size + 1 + 1 = g1 at HA1 ⊢
  go_loopw [6, 7] (fun m i wr => i = .int .i64 0 ∧ m = .int .i64 (-1) ∧ Below w1.heap.size w1 wr) (fun _ _ _ => 0)
  case atStart => exact ⟨rfl, rfl, Below.refl _ _⟩
  case round =>
    obtain ⟨rfl, rfl, hbel⟩ := hrel
    by_cases hlt : 0 < n
    · have k0 : (0 : Int) < (n : Int) := by omega
      have dv := (HD1.out.on hbel HD1.out.lt).cell
      have HBL := hide hbel
      go_wp2_with fail
      refine (HDO.out _ (HAT.out.below (HB1.out.trans (hbel.mono HB1.out.size)))).mono ?_
      rintro e w2 ⟨rfl, hb2⟩
      have hb3 := hbel.trans (hb2.mono hbel.size)
      clear dv
      have hr2 := HR1.out.on hb3 HR1.out.lt
      have r0 := hr2.jv.c0
      have r1 := hr2.jv.c1
      have r2 := hr2.jv.c2
      have r3 := hr2.jv.c3
      have r4 := hr2.jv.c4
      have r5 := hr2.jv.c5
      have f0 := hr2.free 0
      have f1 := hr2.free 1
      have f2 := hr2.free 2
      have f3 := hr2.free 3
      have f4 := hr2.free 4
      have f5 := hr2.free 5
      have HE := hide (hr2.all 0 0 0 0 0 (.slice none 0 0))
      have HA2 := hide (own_keptJA (own_below HA1.out hb3) hr2 (by decide) HE.out.2)
      have HB2 := hide ((HB1.out.trans (hb3.mono HB1.out.size)).grown HE.out.2 (Nat.le_trans HB1.out.size (hb3).size) (fun k e => by cases e; omega))
      clear hr2
      go_wp2_with fail
      refine bodyPost_ret (v := .tuple #[jval 0 0 0 0 0 (.slice none 0 0), .slice (some ⟨g1, 0, none⟩) 0 0, .bool false]) (by simp [results, Tryz.results5, go_sem, r0, r1, r2, r3, r4, r5, f0, f1, f2, f3, f4, f5]) rfl ?_
      exact OjPost.mk' HR.out rfl (World.ownsRow_nil _ _ _ _) HA2.out HB2.out
    · obtain rfl : n = 0 := by omega
      have k0 : ¬ (0 : Int) < ((0 : Nat) : Int) := by omega
      have dv := (HD1.out.on hbel HD1.out.lt).cell
      have hr2 := HR1.out.on hbel HR1.out.lt
      have r0 := hr2.jv.c0
      have r1 := hr2.jv.c1
      have r2 := hr2.jv.c2
      have r3 := hr2.jv.c3
      have r4 := hr2.jv.c4
      have r5 := hr2.jv.c5
      have f0 := hr2.free 0
      have f1 := hr2.free 1
      have f2 := hr2.free 2
      have f3 := hr2.free 3
      have f4 := hr2.free 4
      have f5 := hr2.free 5
      have HE := hide (hr2.all 0 0 0 0 0 (.slice none 0 0))
      have HA2 := hide (own_keptJA (own_below HA1.out hbel) hr2 (by decide) HE.out.2)
      have HB2 := hide ((HB1.out.trans (hbel.mono HB1.out.size)).grown HE.out.2 (Nat.le_trans HB1.out.size (hbel).size) (fun k e => by cases e; omega))
      clear hr2
      go_wp2_with fail
      refine bodyPost_ret (v := .tuple #[jval 0 0 0 0 0 (.slice none 0 0), .slice (some ⟨g1, 0, none⟩) 0 0, .bool false]) (by simp [results, Tryz.results5, go_sem, r0, r1, r2, r3, r4, r5, f0, f1, f2, f3, f4, f5]) rfl ?_
      exact OjPost.mk' HR.out rfl (World.ownsRow_nil _ _ _ _) HA2.out HB2.out

theorem rf_out {n : Int} {l : List UInt8} (h : jnIn n = false) : rfR n l = (zeroJ, 0, 1) := by unfold rfR; rw [if_neg (by rw [h]; decide)]

set_option maxHeartbeats 4000000 in
theorem specOpen_none (oa : Option Addr) (n cap : Nat) (fs : List FileV) (w : World) (hat : FilesAt w oa n cap fs) (hw : ∀ f ∈ fs, Fine f) (hd : diskOk fs = true) (hneg : lastOf (-1) fs < 0) :
    Calls Tryz.prog 5 #[.agg #[.slice oa n cap]] w fun e w' => OjPost fs w e w' := by
  have HDO := hide (fun w hat => specDiskOk_any oa n cap fs w hat hw)
  rw [hd] at HDO
  have hb0 := ((Below.refl w.heap.size w).alloc (Nat.le_refl _) (.cells #[.slice oa n cap] 36)).alloc (by simp) (.cells (jcells 0 0 0 0 0 (.slice none 0 0)) 30)
  have hd0 : DV ((w.alloc (.cells #[.slice oa n cap] 36)).alloc (.cells (jcells 0 0 0 0 0 (.slice none 0 0)) 30)) w.heap.size (.slice oa n cap) := (Below.heap_alloc _ _ _ (by simp)).trans (heap_alloc_new _ _)
  have hr0 : JB ((w.alloc (.cells #[.slice oa n cap] 36)).alloc (.cells (jcells 0 0 0 0 0 (.slice none 0 0)) 30)) (w.heap.size + 1) 0 0 0 0 0 (.slice none 0 0) := by have := heap_alloc_new (w.alloc (.cells #[.slice oa n cap] 36)) (.cells (jcells 0 0 0 0 0 (.slice none 0 0)) 30); rwa [World.size_alloc] at this
  have hb1 := hb0.alloc (by simp; omega) (.cells #[] 57)
  have hbx := (Below.refl ((w.alloc (.cells #[.slice oa n cap] 36)).alloc (.cells (jcells 0 0 0 0 0 (.slice none 0 0)) 30)).heap.size ((w.alloc (.cells #[.slice oa n cap] 36)).alloc (.cells (jcells 0 0 0 0 0 (.slice none 0 0)) 30))).alloc (Nat.le_refl _) (.cells #[] 57)
  have HD1 := hide (hd0.on hbx hd0.lt)
  have HR1 := hide (hr0.on hbx hr0.lt)
  have ha1 := World.ownsRow_made (w := ((w.alloc (.cells #[.slice oa n cap] 36)).alloc (.cells (jcells 0 0 0 0 0 (.slice none 0 0)) 30))) (e := 57) (base := w.heap.size) (size := 4) #[] 0 (by simp; omega) (by decide) rfl
  rw [World.size_alloc, World.size_alloc] at ha1
  replace ha1 : World.ownsRow (((w.alloc (.cells #[.slice oa n cap] 36)).alloc (.cells (jcells 0 0 0 0 0 (.slice none 0 0)) 30)).alloc (.cells #[] 57)) w.heap.size 57 4 (.slice (some ⟨w.heap.size + 1 + 1, 0, none⟩) 0 0) 0 (([] : List ActV).flatMap akc) := ha1
  have HA1 := hide ha1
  have HB1 := hide hb1
  have HN := hide hat.len
  have hmost := hat.most
  unfold maxLen at hmost
  have HAT := hide hat
  clear hb0 hd0 hr0 hb1 hbx ha1 hat hw
  obtain ⟨hlen, hnm, htx, hasc⟩ := disk_names hd
  have hnn := HN.out
  have hbr := lastOf_range (-1) fs (by omega)
  have HNM := hide (show ∀ f ∈ fs, f.name.length ≤ 1048576 from fun f hf => by have := hnm f hf; omega)
  obtain ⟨b, hb⟩ : ∃ b, lastOf (-1) fs = b := ⟨_, rfl⟩
  rw [hb] at hbr
  have HBE := hide hb
  rw [hb] at hneg
  have HR := hide (show ojR fs = (zeroJ, [], false) by unfold ojR opR; rw [if_pos hd, hb, rf_out (by unfold jnIn; simp; omega)]; rfl)
  have g0 : decide (b < 0) = true := by simpa using hneg
  clear hd hb hasc htx hnm
  go_enter Tryz.func5, Tryz.ntmps5
  go_wp2_with fail
  generalize ((w.alloc (Obj.cells #[Value.slice oa n cap] 36)).alloc (Obj.cells #[Value.int IntKind.i64 0, Value.int IntKind.i64 0, Value.int IntKind.i64 0, Value.int IntKind.i64 0, Value.int IntKind.i64 0, Value.slice none 0 0] 30)).alloc (Obj.cells #[] 57) = w1 at HB1 HD1 HR1 HA1 ⊢
  generalize w.heap.size + 1 + 1 = g1 at HA1 ⊢
  go_loopw [6, 7] (fun m i wr => ∃ (k : Nat), i = .int .i64 (k : Int) ∧ m = .int .i64 (lastOf (-1) (fs.take k)) ∧ k ≤ n ∧ Below w1.heap.size w1 wr) (fun _ i _ => n - (intOf i).toNat)
  case atStart => exact ⟨0, rfl, rfl, Nat.zero_le _, Below.refl _ _⟩
  case round =>
    obtain ⟨k, rfl, rfl, hk, hbel⟩ := hrel
    by_cases hlt : k < n
    · have k0 : (k : Int) < (n : Int) := by omega
      have dv := (HD1.out.on hbel HD1.out.lt).cell
      have HBL := hide hbel
      clear g0
      go_wp2_with fail
      refine (HDO.out _ (HAT.out.below (HB1.out.trans (HBL.out.mono HB1.out.size)))).mono ?_
      rintro e w2 ⟨rfl, hb2⟩
      have hb3 := HBL.out.trans (hb2.mono HBL.out.size)
      clear dv
      have dv2 := (HD1.out.on hb3 HD1.out.lt).cell
      obtain ⟨f, bk, q, hf, hidx, hbk, c0, c1, c2⟩ := (HAT.out.below (HB1.out.trans (hb3.mono HB1.out.size))).get Tryz.underlying34 infoIF7 k hlt
      have HNX := hide (lastOf_next (-1) hf)
      have hr := lastOf_range (-1) (fs.take k) (by omega)
      have hr2 := jnNumber_range f.name
      have hnl := HNM.out f (List.mem_of_getElem? hf)
      have HBL2 := hide hb3
      clear hf hb2 hb3 hbel HBL
      generalize lastOf (-1) (fs.take k) = m at HNX hr ⊢
      go_wp2_with fail
      refine (l07Number_any f.name hnl _).mono ?_
      rintro e w3 ⟨rfl, hb3⟩
      have HB3 := hide (HBL2.out.trans (hb3.mono HBL2.out.size))
      clear hb3 HBL2 hidx hbk c0 c1 c2 dv2
      generalize jnNumber f.name = y at HNX hr2 ⊢
      by_cases hmy : m < y
      · have g5 : decide (m < y) = true := by simpa using hmy
        go_wp2_with fail
        go_roundw
        case rel => exact ⟨k + 1, by go_num, by rw [HNX.out, show max m y = y by omega], by omega, HB3.out⟩
        case measure => simp [intOf]; omega
      · have g5 : decide (m < y) = false := by simpa using hmy
        go_wp2_with fail
        go_roundw
        case rel => exact ⟨k + 1, by go_num, by rw [HNX.out, show max m y = m by omega], by omega, HB3.out⟩
        case measure => simp [intOf]; omega
    · obtain rfl : n = k := by omega
      have dv := (HD1.out.on hbel HD1.out.lt).cell
      have k1 : ¬ (n : Int) < (n : Int) := by omega
      rw [show lastOf (-1) (fs.take n) = b by rw [List.take_of_length_le (by rw [HN.out]; exact Nat.le_refl _)]; exact HBE.out]
      have hr2 := HR1.out.on hbel HR1.out.lt
      have r0 := hr2.jv.c0
      have r1 := hr2.jv.c1
      have r2 := hr2.jv.c2
      have r3 := hr2.jv.c3
      have r4 := hr2.jv.c4
      have r5 := hr2.jv.c5
      have f0 := hr2.free 0
      have f1 := hr2.free 1
      have f2 := hr2.free 2
      have f3 := hr2.free 3
      have f4 := hr2.free 4
      have f5 := hr2.free 5
      have HE := hide (hr2.all 0 0 0 0 0 (.slice none 0 0))
      have HA2 := hide (own_keptJA (own_below HA1.out hbel) hr2 (by decide) HE.out.2)
      have HB2 := hide ((HB1.out.trans (hbel.mono HB1.out.size)).grown HE.out.2 (Nat.le_trans HB1.out.size (hbel).size) (fun k e => by cases e; omega))
      clear hr2
      go_wp2_with fail
      refine bodyPost_ret (v := .tuple #[jval 0 0 0 0 0 (.slice none 0 0), .slice (some ⟨g1, 0, none⟩) 0 0, .bool false]) (by simp [results, Tryz.results5, go_sem, r0, r1, r2, r3, r4, r5, f0, f1, f2, f3, f4, f5]) rfl ?_
      exact OjPost.mk' HR.out rfl (World.ownsRow_nil _ _ _ _) HA2.out HB2.out

set_option maxHeartbeats 4000000 in
theorem specOpen_bad (oa : Option Addr) (n cap : Nat) (fs : List FileV) (w : World) (hat : FilesAt w oa n cap fs) (hw : ∀ f ∈ fs, Fine f) (hd : diskOk fs = true) (hneg : ¬ lastOf (-1) fs < 0) (hrf : rfR (lastOf (-1) fs) (textAt fs (jnName (lastOf (-1) fs))) = (zeroJ, 0, 2)) (hjr : jrR (lastOf (-1) fs) (textAt fs (jnName (lastOf (-1) fs))) = (zeroJ, 0, false)) :
    Calls Tryz.prog 5 #[.agg #[.slice oa n cap]] w fun e w' => OjPost fs w e w' := by
  have HDO := hide (fun w hat => specDiskOk_any oa n cap fs w hat hw)
  rw [hd] at HDO
  have hb0 := ((Below.refl w.heap.size w).alloc (Nat.le_refl _) (.cells #[.slice oa n cap] 36)).alloc (by simp) (.cells (jcells 0 0 0 0 0 (.slice none 0 0)) 30)
  have hd0 : DV ((w.alloc (.cells #[.slice oa n cap] 36)).alloc (.cells (jcells 0 0 0 0 0 (.slice none 0 0)) 30)) w.heap.size (.slice oa n cap) := (Below.heap_alloc _ _ _ (by simp)).trans (heap_alloc_new _ _)
  have hr0 : JB ((w.alloc (.cells #[.slice oa n cap] 36)).alloc (.cells (jcells 0 0 0 0 0 (.slice none 0 0)) 30)) (w.heap.size + 1) 0 0 0 0 0 (.slice none 0 0) := by have := heap_alloc_new (w.alloc (.cells #[.slice oa n cap] 36)) (.cells (jcells 0 0 0 0 0 (.slice none 0 0)) 30); rwa [World.size_alloc] at this
  have hb1 := hb0.alloc (by simp; omega) (.cells #[] 57)
  have hbx := (Below.refl ((w.alloc (.cells #[.slice oa n cap] 36)).alloc (.cells (jcells 0 0 0 0 0 (.slice none 0 0)) 30)).heap.size ((w.alloc (.cells #[.slice oa n cap] 36)).alloc (.cells (jcells 0 0 0 0 0 (.slice none 0 0)) 30))).alloc (Nat.le_refl _) (.cells #[] 57)
  have HD1 := hide (hd0.on hbx hd0.lt)
  have HR1 := hide (hr0.on hbx hr0.lt)
  have ha1 := World.ownsRow_made (w := ((w.alloc (.cells #[.slice oa n cap] 36)).alloc (.cells (jcells 0 0 0 0 0 (.slice none 0 0)) 30))) (e := 57) (base := w.heap.size) (size := 4) #[] 0 (by simp; omega) (by decide) rfl
  rw [World.size_alloc, World.size_alloc] at ha1
  replace ha1 : World.ownsRow (((w.alloc (.cells #[.slice oa n cap] 36)).alloc (.cells (jcells 0 0 0 0 0 (.slice none 0 0)) 30)).alloc (.cells #[] 57)) w.heap.size 57 4 (.slice (some ⟨w.heap.size + 1 + 1, 0, none⟩) 0 0) 0 (([] : List ActV).flatMap akc) := ha1
  have HA1 := hide ha1
  have HB1 := hide hb1
  have HN := hide hat.len
  have hmost := hat.most
  unfold maxLen at hmost
  have HAT := hide hat
  clear hb0 hd0 hr0 hb1 hbx ha1 hat hw
  obtain ⟨hlen, hnm, htx, hasc⟩ := disk_names hd
  have hnn := HN.out
  have hbr := lastOf_range (-1) fs (by omega)
  have HNM := hide (show ∀ f ∈ fs, f.name.length ≤ 1048576 from fun f hf => by have := hnm f hf; omega)
  obtain ⟨b, hb⟩ : ∃ b, lastOf (-1) fs = b := ⟨_, rfl⟩
  rw [hb] at hbr
  have HBE := hide hb
  have HR := hide (show ojR fs = (zeroJ, [], false) by unfold ojR opR; rw [if_pos hd, hrf]; rfl)
  obtain ⟨T, hT⟩ : ∃ T, textAt fs (jnName b) = T := ⟨_, rfl⟩
  have hTl := textAt_room htx (jnName b)
  rw [hb] at hneg hjr
  rw [hT] at hTl hjr
  have HJN := hide (fun w => specJournalName_any b (by omega) (by omega) w)
  have HFA := hide (fun w hat => specFileAt_any oa n cap fs (jnName b) w hat)
  rw [hT] at HFA
  have HRD := hide (fun w => specReadJournal_any b ⟨T.toArray⟩ (by rw [size_mk7]; omega) w)
  unfold JrPost at HRD
  rw [bl_mk7, hjr] at HRD
  simp only [zeroJ] at HRD
  have HNA := hide (jnName_length b)
  obtain ⟨h9, hh9⟩ : ∃ h9, hasAt fs (jnName b) = h9 := ⟨_, rfl⟩
  rw [hh9] at HFA
  have hTS : (⟨T.toArray⟩ : ByteArray).size = T.length := size_mk7 T
  generalize (⟨(jnName b).toArray⟩ : ByteArray) = NB at HJN HFA
  generalize (⟨T.toArray⟩ : ByteArray) = TB at HFA HRD hTS
  have g0 : decide (b < 0) = false := by simpa using hneg
  clear hd hb hasc htx hnm hrf hjr
  go_enter Tryz.func5, Tryz.ntmps5
  go_wp2_with fail
  generalize ((w.alloc (Obj.cells #[Value.slice oa n cap] 36)).alloc (Obj.cells #[Value.int IntKind.i64 0, Value.int IntKind.i64 0, Value.int IntKind.i64 0, Value.int IntKind.i64 0, Value.int IntKind.i64 0, Value.slice none 0 0] 30)).alloc (Obj.cells #[] 57) = w1 at HB1 HD1 HR1 HA1 ⊢
  generalize w.heap.size + 1 + 1 = g1 at HA1 ⊢
  go_loopw [6, 7] (fun m i wr => ∃ (k : Nat), i = .int .i64 (k : Int) ∧ m = .int .i64 (lastOf (-1) (fs.take k)) ∧ k ≤ n ∧ Below w1.heap.size w1 wr) (fun _ i _ => n - (intOf i).toNat)
  case atStart => exact ⟨0, rfl, rfl, Nat.zero_le _, Below.refl _ _⟩
  case round =>
    obtain ⟨k, rfl, rfl, hk, hbel⟩ := hrel
    by_cases hlt : k < n
    · have k0 : (k : Int) < (n : Int) := by omega
      have dv := (HD1.out.on hbel HD1.out.lt).cell
      have HBL := hide hbel
      clear g0
      go_wp2_with fail
      refine (HDO.out _ (HAT.out.below (HB1.out.trans (HBL.out.mono HB1.out.size)))).mono ?_
      rintro e w2 ⟨rfl, hb2⟩
      have hb3 := HBL.out.trans (hb2.mono HBL.out.size)
      clear dv
      have dv2 := (HD1.out.on hb3 HD1.out.lt).cell
      obtain ⟨f, bk, q, hf, hidx, hbk, c0, c1, c2⟩ := (HAT.out.below (HB1.out.trans (hb3.mono HB1.out.size))).get Tryz.underlying34 infoIF7 k hlt
      have HNX := hide (lastOf_next (-1) hf)
      have hr := lastOf_range (-1) (fs.take k) (by omega)
      have hr2 := jnNumber_range f.name
      have hnl := HNM.out f (List.mem_of_getElem? hf)
      have HBL2 := hide hb3
      clear hf hb2 hb3 hbel HBL
      generalize lastOf (-1) (fs.take k) = m at HNX hr ⊢
      go_wp2_with fail
      refine (l07Number_any f.name hnl _).mono ?_
      rintro e w3 ⟨rfl, hb3⟩
      have HB3 := hide (HBL2.out.trans (hb3.mono HBL2.out.size))
      clear hb3 HBL2 hidx hbk c0 c1 c2 dv2
      generalize jnNumber f.name = y at HNX hr2 ⊢
      by_cases hmy : m < y
      · have g5 : decide (m < y) = true := by simpa using hmy
        go_wp2_with fail
        go_roundw
        case rel => exact ⟨k + 1, by go_num, by rw [HNX.out, show max m y = y by omega], by omega, HB3.out⟩
        case measure => simp [intOf]; omega
      · have g5 : decide (m < y) = false := by simpa using hmy
        go_wp2_with fail
        go_roundw
        case rel => exact ⟨k + 1, by go_num, by rw [HNX.out, show max m y = m by omega], by omega, HB3.out⟩
        case measure => simp [intOf]; omega
    · obtain rfl : n = k := by omega
      have dv := (HD1.out.on hbel HD1.out.lt).cell
      have k1 : ¬ (n : Int) < (n : Int) := by omega
      rw [show lastOf (-1) (fs.take n) = b by rw [List.take_of_length_le (by rw [HN.out]; exact Nat.le_refl _)]; exact HBE.out]
      have HB2 := hide (HB1.out.trans (hbel.mono HB1.out.size))
      have HD2 := hide (HD1.out.on hbel HD1.out.lt)
      have HR2 := hide (HR1.out.on hbel HR1.out.lt)
      have HA2 := hide (own_below HA1.out hbel)
      clear HB1 HD1 HR1 HA1
      go_wp2_with fail
      refine wp_region_in (F := (fun w' => Below wr.heap.size wr w')) (by kernel_rfl) (by kernel_rfl) (Below.refl _ _).drew ?_
      have hne : Nonempty (InW (fun w' => Below wr.heap.size wr w')) := ⟨⟨_, Below.refl _ _⟩⟩
      have k0 : ∀ m : InW (fun w' => Below wr.heap.size wr w'), m.w.cell? ⟨w.heap.size, 0, none⟩ = some (.slice oa n cap) := fun m => (HD2.out.on m.h HD2.out.lt).cell
      have HATW := hide (show ∀ m : InW (fun w' => Below wr.heap.size wr w'), FilesAt m.w oa n cap fs from fun m => HAT.out.below (HB2.out.trans (m.h.mono HB2.out.size)))
      repeat (go_big_quiet_step (first | (go_at_call 20; refine (HJN.out _).mono ?_; rintro r w9 ⟨rfl, hb9⟩; exact ⟨rfl, ⟨w9, Below.trans (InW.h _) (hb9.mono (Below.size (InW.h (F := (fun w' => Below wr.heap.size wr w')) ‹_›)))⟩, rfl⟩) | (go_at_call 19; refine (HFA.out _ (HATW.out _)).mono ?_; rintro r w9 ⟨rfl, hb9⟩; exact ⟨rfl, ⟨w9, Below.trans (InW.h _) (hb9.mono (Below.size (InW.h (F := (fun w' => Below wr.heap.size wr w')) ‹_›)))⟩, rfl⟩)))
      refine wpQuiet_nil ?_
      intro _ hw'
      obtain ⟨nq, hw''⟩ := hw'
      subst hw''
      have hb3 := nq.h
      generalize nq.w = w3 at hb3 ⊢
      have HD3 := hide (HD2.out.on hb3 HD2.out.lt)
      have HR3 := hide (HR2.out.on hb3 HR2.out.lt)
      have HA3 := hide (own_below HA2.out hb3)
      have B3 := hide (HB2.out.trans (hb3.mono HB2.out.size))
      clear hne k0 HATW hb3 hbel dv HD2 HR2 HA2 HB2
      go_wp2_with fail
      refine (HRD.out _).mono ?_
      rintro e w4 ⟨v4, rfl, ho4, hb4⟩
      obtain ⟨oa4, cap4, hv4⟩ := own_form3 ho4
      subst hv4
      replace ho4 : w4.ownsRow w3.heap.size 111 3 (.slice oa4 0 cap4) 0 [] := ho4
      have hr4 := HR3.out.on hb4 HR3.out.lt
      have r0 := hr4.jv.c0
      have r1 := hr4.jv.c1
      have r2 := hr4.jv.c2
      have r3 := hr4.jv.c3
      have r4 := hr4.jv.c4
      have r5 := hr4.jv.c5
      have f0 := hr4.free 0
      have f1 := hr4.free 1
      have f2 := hr4.free 2
      have f3 := hr4.free 3
      have f4 := hr4.free 4
      have f5 := hr4.free 5
      have HE := hide (hr4.all 0 0 0 0 0 (.slice none 0 0))
      have HA5 := hide (own_keptJA (own_below HA3.out hb4) hr4 (by decide) HE.out.2)
      have HB5 := hide ((B3.out.trans (hb4.mono B3.out.size)).grown HE.out.2 (Nat.le_trans B3.out.size hb4.size) (fun k e => by cases e; omega))
      have hl9 : w.heap.size + 1 < w4.heap.size := hr4.lt
      clear hr4 hb4 ho4
      go_wp2_with fail
      have hX := HE.out.1
      generalize ((((((w4.setCell ⟨w.heap.size + 1, 0, none⟩ (Value.int IntKind.i64 0)).setCell ⟨w.heap.size + 1, 1, none⟩ (Value.int IntKind.i64 0)).setCell ⟨w.heap.size + 1, 2, none⟩ (Value.int IntKind.i64 0)).setCell ⟨w.heap.size + 1, 3, none⟩ (Value.int IntKind.i64 0)).setCell ⟨w.heap.size + 1, 4, none⟩ (Value.int IntKind.i64 0)).setCell ⟨w.heap.size + 1, 5, none⟩ (Value.slice none 0 0)) = wq at hX HA5 HB5 ⊢
      have hX2 := hX.on ((Below.refl wq.heap.size wq).alloc (Nat.le_refl _) (Obj.cells #[Value.int IntKind.i64 0, Value.int IntKind.i64 0, Value.int IntKind.i64 0, Value.int IntKind.i64 0, Value.int IntKind.i64 0, Value.slice oa4 0 cap4] 30)) hX.lt
      have HA6 := HA5.out.alloc (Obj.cells #[Value.int IntKind.i64 0, Value.int IntKind.i64 0, Value.int IntKind.i64 0, Value.int IntKind.i64 0, Value.int IntKind.i64 0, Value.slice oa4 0 cap4] 30)
      have HB6 := HB5.out.alloc HB5.out.size (Obj.cells #[Value.int IntKind.i64 0, Value.int IntKind.i64 0, Value.int IntKind.i64 0, Value.int IntKind.i64 0, Value.int IntKind.i64 0, Value.slice oa4 0 cap4] 30)
      generalize wq.alloc (Obj.cells #[Value.int IntKind.i64 0, Value.int IntKind.i64 0, Value.int IntKind.i64 0, Value.int IntKind.i64 0, Value.int IntKind.i64 0, Value.slice oa4 0 cap4] 30) = wf at hX2 HA6 HB6 ⊢
      clear r0 r1 r2 r3 r4 r5 f0 f1 f2 f3 f4 f5
      have r0 := hX2.jv.c0
      have r1 := hX2.jv.c1
      have r2 := hX2.jv.c2
      have r3 := hX2.jv.c3
      have r4 := hX2.jv.c4
      have r5 := hX2.jv.c5
      refine bodyPost_ret (v := .tuple #[jval 0 0 0 0 0 (.slice none 0 0), .slice (some ⟨g1, 0, none⟩) 0 0, .bool false]) (by simp [results, Tryz.results5, go_sem, r0, r1, r2, r3, r4, r5]) rfl ?_
      exact OjPost.mk' HR.out rfl (World.ownsRow_nil _ _ _ _) HA6 HB6

theorem rf_rest0 {n : Int} {l : List UInt8} {j : JnV} {e : Nat} {c : Int} (hc : c = 0 ∨ c = 3) (h : rfR n l = (j, e, c)) : j.ok = true ∧ j.number = n := by
  unfold rfR at h
  split at h
  · split at h
    · injection h with h1 h2; injection h2 with h2 h3; rcases hc with rfl | rfl <;> cases h3
    · rename_i j' e' hr
      have k := rdJn_ok hr
      injection h with h1 h2
      subst h1
      exact k
  · injection h with h1 h2; injection h2 with h2 h3; rcases hc with rfl | rfl <;> cases h3

set_option maxHeartbeats 4000000 in
theorem specOpen_whole (oa : Option Addr) (n cap : Nat) (fs : List FileV) (w : World) (hat : FilesAt w oa n cap fs) (hw : ∀ f ∈ fs, Fine f) (hd : diskOk fs = true) (hneg : ¬ lastOf (-1) fs < 0) (j : JnV) (E : Nat) (hE : E = (textAt fs (jnName (lastOf (-1) fs))).length) (hrf : rfR (lastOf (-1) fs) (textAt fs (jnName (lastOf (-1) fs))) = (j, E, 0)) (hjr : jrR (lastOf (-1) fs) (textAt fs (jnName (lastOf (-1) fs))) = (j, E, true)) :
    Calls Tryz.prog 5 #[.agg #[.slice oa n cap]] w fun e w' => OjPost fs w e w' := by
  have HDO := hide (fun w hat => specDiskOk_any oa n cap fs w hat hw)
  rw [hd] at HDO
  have hb0 := ((Below.refl w.heap.size w).alloc (Nat.le_refl _) (.cells #[.slice oa n cap] 36)).alloc (by simp) (.cells (jcells 0 0 0 0 0 (.slice none 0 0)) 30)
  have hd0 : DV ((w.alloc (.cells #[.slice oa n cap] 36)).alloc (.cells (jcells 0 0 0 0 0 (.slice none 0 0)) 30)) w.heap.size (.slice oa n cap) := (Below.heap_alloc _ _ _ (by simp)).trans (heap_alloc_new _ _)
  have hr0 : JB ((w.alloc (.cells #[.slice oa n cap] 36)).alloc (.cells (jcells 0 0 0 0 0 (.slice none 0 0)) 30)) (w.heap.size + 1) 0 0 0 0 0 (.slice none 0 0) := by have := heap_alloc_new (w.alloc (.cells #[.slice oa n cap] 36)) (.cells (jcells 0 0 0 0 0 (.slice none 0 0)) 30); rwa [World.size_alloc] at this
  have hb1 := hb0.alloc (by simp; omega) (.cells #[] 57)
  have hbx := (Below.refl ((w.alloc (.cells #[.slice oa n cap] 36)).alloc (.cells (jcells 0 0 0 0 0 (.slice none 0 0)) 30)).heap.size ((w.alloc (.cells #[.slice oa n cap] 36)).alloc (.cells (jcells 0 0 0 0 0 (.slice none 0 0)) 30))).alloc (Nat.le_refl _) (.cells #[] 57)
  have HD1 := hide (hd0.on hbx hd0.lt)
  have HR1 := hide (hr0.on hbx hr0.lt)
  have ha1 := World.ownsRow_made (w := ((w.alloc (.cells #[.slice oa n cap] 36)).alloc (.cells (jcells 0 0 0 0 0 (.slice none 0 0)) 30))) (e := 57) (base := w.heap.size) (size := 4) #[] 0 (by simp; omega) (by decide) rfl
  rw [World.size_alloc, World.size_alloc] at ha1
  replace ha1 : World.ownsRow (((w.alloc (.cells #[.slice oa n cap] 36)).alloc (.cells (jcells 0 0 0 0 0 (.slice none 0 0)) 30)).alloc (.cells #[] 57)) w.heap.size 57 4 (.slice (some ⟨w.heap.size + 1 + 1, 0, none⟩) 0 0) 0 (([] : List ActV).flatMap akc) := ha1
  have HA1 := hide ha1
  have HB1 := hide hb1
  have HN := hide hat.len
  have hmost := hat.most
  unfold maxLen at hmost
  have HAT := hide hat
  clear hb0 hd0 hr0 hb1 hbx ha1 hat hw
  obtain ⟨hlen, hnm, htx, hasc⟩ := disk_names hd
  have hnn := HN.out
  have hbr := lastOf_range (-1) fs (by omega)
  have HNM := hide (show ∀ f ∈ fs, f.name.length ≤ 1048576 from fun f hf => by have := hnm f hf; omega)
  obtain ⟨b, hb⟩ : ∃ b, lastOf (-1) fs = b := ⟨_, rfl⟩
  rw [hb] at hbr
  have HBE := hide hb
  have HR := hide (show ojR fs = (j, drops (lastOf (-1) fs) fs, true) by unfold ojR opR; rw [if_pos hd, hrf]; rfl)
  rw [hb] at HR
  obtain ⟨T, hT⟩ : ∃ T, textAt fs (jnName b) = T := ⟨_, rfl⟩
  have hTl := textAt_room htx (jnName b)
  rw [hb] at hneg hjr hE
  rw [hT] at hTl hjr hE
  have HJN := hide (fun w => specJournalName_any b (by omega) (by omega) w)
  have HFA := hide (fun w hat => specFileAt_any oa n cap fs (jnName b) w hat)
  rw [hT] at HFA
  have HRD := hide (fun w => specReadJournal_any b ⟨T.toArray⟩ (by rw [size_mk7]; omega) w)
  unfold JrPost at HRD
  rw [bl_mk7, hjr] at HRD
  simp only at HRD
  have HNA := hide (jnName_length b)
  obtain ⟨h9, hh9⟩ : ∃ h9, hasAt fs (jnName b) = h9 := ⟨_, rfl⟩
  rw [hh9] at HFA
  have hTS : (⟨T.toArray⟩ : ByteArray).size = T.length := size_mk7 T
  generalize (⟨(jnName b).toArray⟩ : ByteArray) = NB at HJN HFA
  generalize (⟨T.toArray⟩ : ByteArray) = TB at HFA HRD hTS
  have g0 : decide (b < 0) = false := by simpa using hneg
  have HL3 := hide (fun w hat => l03At_any oa n cap fs nmNew w hat)
  rw [show (⟨nmNew.toArray⟩ : ByteArray) = ⟨#[106, 43]⟩ from rfl] at HL3
  have hnew := new_at fs
  obtain ⟨hjo, -⟩ := rf_rest0 (Or.inl rfl) hrf
  obtain ⟨hj1, hj2, hj3⟩ := JnV.parts hjo
  have hl60 := (lgOk_rm hj3).2.2.2.2.1
  have HCP := hide (fun oa4 cap4 w hat => l07Copy_any j.number j.term j.vote j.s j.u oa4 j.es.length cap4 j.es (by omega) w hat)
  clear hd hb htx hnm hrf hjr
  rcases hnew with ⟨hn1, hn2⟩ | ⟨i9, hn1, hn2⟩
  · rw [hn1] at HL3
    have HX := hide (show [] ++ others b fs = drops b fs by rw [drops_is hasc, hn2])
    clear hn1 hn2 hasc
    obtain ⟨X0, hX0⟩ : ∃ X0 : List ActV, [] = X0 := ⟨_, rfl⟩
    have hxl : X0.length ≤ 1 := by rw [← hX0]; decide
    rw [hX0] at HX
    go_enter Tryz.func5, Tryz.ntmps5
    go_wp2_with fail
    generalize ((w.alloc (Obj.cells #[Value.slice oa n cap] 36)).alloc (Obj.cells #[Value.int IntKind.i64 0, Value.int IntKind.i64 0, Value.int IntKind.i64 0, Value.int IntKind.i64 0, Value.int IntKind.i64 0, Value.slice none 0 0] 30)).alloc (Obj.cells #[] 57) = w1 at HB1 HD1 HR1 HA1 ⊢
    generalize w.heap.size + 1 + 1 = g1 at HA1 ⊢
    go_loopw [6, 7] (fun m i wr => ∃ (k : Nat), i = .int .i64 (k : Int) ∧ m = .int .i64 (lastOf (-1) (fs.take k)) ∧ k ≤ n ∧ Below w1.heap.size w1 wr) (fun _ i _ => n - (intOf i).toNat)
    case atStart => exact ⟨0, rfl, rfl, Nat.zero_le _, Below.refl _ _⟩
    case round =>
      obtain ⟨k, rfl, rfl, hk, hbel⟩ := hrel
      by_cases hlt : k < n
      · have k0 : (k : Int) < (n : Int) := by omega
        have dv := (HD1.out.on hbel HD1.out.lt).cell
        have HBL := hide hbel
        clear g0
        go_wp2_with fail
        refine (HDO.out _ (HAT.out.below (HB1.out.trans (HBL.out.mono HB1.out.size)))).mono ?_
        rintro e w2 ⟨rfl, hb2⟩
        have hb3 := HBL.out.trans (hb2.mono HBL.out.size)
        clear dv
        have dv2 := (HD1.out.on hb3 HD1.out.lt).cell
        obtain ⟨f, bk, q, hf, hidx, hbk, c0, c1, c2⟩ := (HAT.out.below (HB1.out.trans (hb3.mono HB1.out.size))).get Tryz.underlying34 infoIF7 k hlt
        have HNX := hide (lastOf_next (-1) hf)
        have hr := lastOf_range (-1) (fs.take k) (by omega)
        have hr2 := jnNumber_range f.name
        have hnl := HNM.out f (List.mem_of_getElem? hf)
        have HBL2 := hide hb3
        clear hf hb2 hb3 hbel HBL
        generalize lastOf (-1) (fs.take k) = m at HNX hr ⊢
        go_wp2_with fail
        refine (l07Number_any f.name hnl _).mono ?_
        rintro e w3 ⟨rfl, hb3⟩
        have HB3 := hide (HBL2.out.trans (hb3.mono HBL2.out.size))
        clear hb3 HBL2 hidx hbk c0 c1 c2 dv2
        generalize jnNumber f.name = y at HNX hr2 ⊢
        by_cases hmy : m < y
        · have g5 : decide (m < y) = true := by simpa using hmy
          go_wp2_with fail
          go_roundw
          case rel => exact ⟨k + 1, by go_num, by rw [HNX.out, show max m y = y by omega], by omega, HB3.out⟩
          case measure => simp [intOf]; omega
        · have g5 : decide (m < y) = false := by simpa using hmy
          go_wp2_with fail
          go_roundw
          case rel => exact ⟨k + 1, by go_num, by rw [HNX.out, show max m y = m by omega], by omega, HB3.out⟩
          case measure => simp [intOf]; omega
      · obtain rfl : n = k := by omega
        have dv := (HD1.out.on hbel HD1.out.lt).cell
        have k1 : ¬ (n : Int) < (n : Int) := by omega
        rw [show lastOf (-1) (fs.take n) = b by rw [List.take_of_length_le (by rw [HN.out]; exact Nat.le_refl _)]; exact HBE.out]
        have HB2 := hide (HB1.out.trans (hbel.mono HB1.out.size))
        have HD2 := hide (HD1.out.on hbel HD1.out.lt)
        have HR2 := hide (HR1.out.on hbel HR1.out.lt)
        have HA2 := hide (own_below HA1.out hbel)
        clear HB1 HD1 HR1 HA1
        go_wp2_with fail
        refine wp_region_in (F := (fun w' => Below wr.heap.size wr w')) (by kernel_rfl) (by kernel_rfl) (Below.refl _ _).drew ?_
        have hne : Nonempty (InW (fun w' => Below wr.heap.size wr w')) := ⟨⟨_, Below.refl _ _⟩⟩
        have k0 : ∀ m : InW (fun w' => Below wr.heap.size wr w'), m.w.cell? ⟨w.heap.size, 0, none⟩ = some (.slice oa n cap) := fun m => (HD2.out.on m.h HD2.out.lt).cell
        have HATW := hide (show ∀ m : InW (fun w' => Below wr.heap.size wr w'), FilesAt m.w oa n cap fs from fun m => HAT.out.below (HB2.out.trans (m.h.mono HB2.out.size)))
        repeat (go_big_quiet_step (first | (go_at_call 20; refine (HJN.out _).mono ?_; rintro r w9 ⟨rfl, hb9⟩; exact ⟨rfl, ⟨w9, Below.trans (InW.h _) (hb9.mono (Below.size (InW.h (F := (fun w' => Below wr.heap.size wr w')) ‹_›)))⟩, rfl⟩) | (go_at_call 19; refine (HFA.out _ (HATW.out _)).mono ?_; rintro r w9 ⟨rfl, hb9⟩; exact ⟨rfl, ⟨w9, Below.trans (InW.h _) (hb9.mono (Below.size (InW.h (F := (fun w' => Below wr.heap.size wr w')) ‹_›)))⟩, rfl⟩)))
        refine wpQuiet_nil ?_
        intro _ hw'
        obtain ⟨nq, hw''⟩ := hw'
        subst hw''
        have hb3 := nq.h
        generalize nq.w = w3 at hb3 ⊢
        have HD3 := hide (HD2.out.on hb3 HD2.out.lt)
        have HR3 := hide (HR2.out.on hb3 HR2.out.lt)
        have HA3 := hide (own_below HA2.out hb3)
        have B3 := hide (HB2.out.trans (hb3.mono HB2.out.size))
        clear hne k0 HATW hb3 hbel dv HD2 HR2 HA2 HB2
        go_wp2_with fail
        refine (HRD.out _).mono ?_
        rintro e w4 ⟨v4, rfl, ho4, hb4⟩
        obtain ⟨oa4, cap4, hv4⟩ := own_form3 ho4
        subst hv4
        have hb5 := (Below.refl w4.heap.size w4).alloc (Nat.le_refl _) (.cells (jcells j.number j.term j.vote j.s j.u (.slice oa4 j.es.length cap4)) 30)
        have hx5 := JB.new w4 j.number j.term j.vote j.s j.u (.slice oa4 j.es.length cap4)
        have hbb := hb4.trans (hb5.mono hb4.size)
        have HL5 := hide (L2.mk (X := []) (own_below HA3.out hbb) (own_base (own_below ho4 hb5) B3.out.size) (HD3.out.on hbb HD3.out.lt) (HR3.out.on hbb HR3.out.lt) hx5 (B3.out.trans (hbb.mono B3.out.size)))
        have hl9 : w.heap.size + 1 < w4.heap.size := Nat.lt_of_lt_of_le HR3.out.lt hb4.size
        clear ho4 hb4 hb5 hx5 hbb HD3 HR3 HA3 B3
        have dv5 := HL5.out.dk.cell
        go_wp2_with fail
        generalize w4.alloc (Obj.cells #[Value.int IntKind.i64 j.number, Value.int IntKind.i64 j.term, Value.int IntKind.i64 j.vote, Value.int IntKind.i64 j.s, Value.int IntKind.i64 j.u, Value.slice oa4 j.es.length cap4] 30) = w5 at HL5 dv5 ⊢
        generalize w4.heap.size = b8 at HL5 hl9 ⊢
        refine (HL3.out _ (HAT.out.below HL5.out.be)).mono ?_
        rintro e w6 ⟨rfl, hb6⟩
        have HL6 := hide (HL5.out.on hb6)
        clear hb6 HL5 dv5
        rw [hX0] at HL6
        have HL7 := HL6
        clear HL6 hX0
        go_wp2_with fail
        go_loopw [5, 14] (fun v i wr => ∃ (k : Nat), i = .int .i64 (k : Int) ∧ k ≤ n ∧ L2 w b8 (.slice oa n cap) j (.slice oa4 j.es.length cap4) v (X0 ++ others b (fs.take k)) wr) (fun _ i _ => n - (intOf i).toNat)
        case atStart => exact ⟨0, rfl, Nat.zero_le _, by rw [List.take_zero, show others b [] = [] from rfl, List.append_nil]; exact HL7.out⟩
        case round =>
          obtain ⟨k, rfl, hk, hl2⟩ := hrel
          by_cases hlt : k < n
          · have k0 : (k : Int) < (n : Int) := by omega
            have HL := hide hl2
            have dv := hl2.dk.cell
            obtain ⟨f, bk, q, hf, hidx, hbk, c0, c1, c2⟩ := (HAT.out.below hl2.be).get Tryz.underlying34 infoIF7 k hlt
            have HNX := hide (show X0 ++ others b (fs.take (k + 1)) = (X0 ++ others b (fs.take k)) ++ (if isOther b f = true then [dropA f.name] else []) by rw [others_next b hf, List.append_assoc])
            have hr2 := jnNumber_range f.name
            have hnl := HNM.out f (List.mem_of_getElem? hf)
            have hdl : (X0 ++ others b (fs.take k)).length ≤ 1000 := by have := others_room b (fs.take k); rw [List.length_take] at this; rw [List.length_append]; omega
            clear hf hl2 HL7
            generalize X0 ++ others b (fs.take k) = X at HNX HL hdl ⊢
            go_wp2_with fail
            refine (l07Number_any f.name hnl _).mono ?_
            rintro e w3 ⟨rfl, hb3⟩
            have HL3a := hide (HL.out.on hb3)
            have d0 := (hb3.cell (cell_lt c0)).trans c0
            have dv3 := HL3a.out.dk.cell
            clear hb3 HL dv c0 c1 c2
            obtain ⟨ov, cv, hv⟩ := own_form3 HL3a.out.ac
            subst hv
            have hid : isOther b f = (decide (0 ≤ jnNumber f.name) && decide (jnNumber f.name ≠ b)) := rfl
            rw [hid] at HNX
            clear hid
            generalize jnNumber f.name = y at HNX hr2 ⊢
            by_cases hy : 0 ≤ y ∧ y ≠ b
            · rw [decide_eq_true hy.1, decide_eq_true hy.2, Bool.true_and, if_pos rfl] at HNX
              have y1 : decide (0 ≤ y) = true := by simpa using hy.1
              have y2 : (y == b) = false := by simpa using hy.2
              clear hy
              go_wp2_with (at_builtin; refine wpList_pushM (m := 1) (cs := #[.int .i64 4, .string ⟨f.name.toArray⟩, .string ⟨#[]⟩, .string ⟨#[]⟩]) rfl _ _ 31 rfl (by decide) Tryz.underlying31 infoKAz rfl rfl HL3a.out.ac rfl rfl (akc_one (dropA f.name)) HL3a.out.be.size (by unfold maxLen; omega) (by omega) ?_)
              intro v' w7 ha7 hg7
              have HL8 := hide (HL3a.out.push (dr_own HNX.out ha7) hg7)
              clear ha7 hg7 HL3a dv3 d0
              go_wp2_with fail
              go_roundw
              case rel => exact ⟨k + 1, by go_num, by omega, HL8.out⟩
              case measure => simp [intOf]; omega
            · have HNY := hide (show X0 ++ others b (fs.take (k + 1)) = X by rw [HNX.out, if_neg (by simpa using hy), List.append_nil])
              by_cases hy0 : 0 ≤ y
              · have hyb : y = b := Classical.byContradiction fun e => hy ⟨hy0, e⟩
                have y1 : decide (0 ≤ y) = true := by simpa using hy0
                have y2 : (y == b) = true := by simpa using hyb
                clear hy hy0 hyb
                go_wp2_with fail
                go_roundw
                case rel => exact ⟨k + 1, by go_num, by omega, by rw [HNY.out]; exact HL3a.out⟩
                case measure => simp [intOf]; omega
              · have y1 : decide (0 ≤ y) = false := by simpa using hy0
                clear hy hy0
                go_wp2_with fail
                go_roundw
                case rel => exact ⟨k + 1, by go_num, by omega, by rw [HNY.out]; exact HL3a.out⟩
                case measure => simp [intOf]; omega
          · obtain rfl : n = k := by omega
            have dv := hl2.dk.cell
            have k1 : ¬ (n : Int) < (n : Int) := by omega
            rw [List.take_of_length_le (show fs.length ≤ n by rw [HN.out]; exact Nat.le_refl _), HX.out] at hl2
            have HL := hide hl2
            obtain ⟨oaA, capA, hvA⟩ := own_form3 hl2.ac
            subst hvA
            clear hl2 HL7
            have ge : (E : Int) = (TB.size : Int) := by rw [hTS]; omega
            have x9 := HL.out.jb
            have x0 := x9.jv.c0
            have x1 := x9.jv.c1
            have x2 := x9.jv.c2
            have x3 := x9.jv.c3
            have x4 := x9.jv.c4
            have x5 := x9.jv.c5
            clear x9
            go_wp2_with fail
            refine (HCP.out _ _ _ (by obtain ⟨_, _, he, h⟩ := entsAt_own HL.out.en; cases he; exact h)).mono ?_
            rintro e w9 ⟨v9, rfl, ho9, hb9⟩
            obtain ⟨ov9, cv9, hv9⟩ := own_form3 ho9
            subst hv9
            have HL9 := hide (HL.out.on hb9)
            have HO9 := hide (own_base ho9 HL.out.be.size)
            clear ho9 hb9 HL x0 x1 x2 x3 x4 x5
            have hr9 := HL9.out.rz
            have r0 := hr9.jv.c0
            have r1 := hr9.jv.c1
            have r2 := hr9.jv.c2
            have r3 := hr9.jv.c3
            have r4 := hr9.jv.c4
            have r5 := hr9.jv.c5
            have f0 := hr9.free 0
            have f1 := hr9.free 1
            have f2 := hr9.free 2
            have f3 := hr9.free 3
            have f4 := hr9.free 4
            have f5 := hr9.free 5
            have HE := hide (hr9.all j.number j.term j.vote j.s j.u (.slice ov9 j.es.length cv9))
            have HOe := hide (own_keptJA HO9.out hr9 (by decide) HE.out.2)
            have HAe := hide (own_keptJA HL9.out.ac hr9 (by decide) HE.out.2)
            have HBe := hide (HL9.out.be.grown HE.out.2 HL9.out.be.size (fun k e => by cases e; omega))
            clear hr9 HL9 HO9
            go_wp2_with fail
            have hX := HE.out.1
            generalize ((((((w9.setCell ⟨w.heap.size + 1, 0, none⟩ (Value.int IntKind.i64 j.number)).setCell ⟨w.heap.size + 1, 1, none⟩ (Value.int IntKind.i64 j.term)).setCell ⟨w.heap.size + 1, 2, none⟩ (Value.int IntKind.i64 j.vote)).setCell ⟨w.heap.size + 1, 3, none⟩ (Value.int IntKind.i64 j.s)).setCell ⟨w.heap.size + 1, 4, none⟩ (Value.int IntKind.i64 j.u)).setCell ⟨w.heap.size + 1, 5, none⟩ (Value.slice ov9 j.es.length cv9)) = wf at hX HOe HAe HBe ⊢
            have k0 := hX.jv.c0
            have k1 := hX.jv.c1
            have k2 := hX.jv.c2
            have k3 := hX.jv.c3
            have k4 := hX.jv.c4
            have k5 := hX.jv.c5
            refine bodyPost_ret (v := .tuple #[jval j.number j.term j.vote j.s j.u (.slice ov9 j.es.length cv9), .slice oaA (drops b fs).length capA, .bool true]) (by simp [results, Tryz.results5, go_sem, k0, k1, k2, k3, k4, k5]) rfl ?_
            exact OjPost.mk' HR.out rfl HOe.out HAe.out HBe.out
  · rw [hn1] at HL3
    have HX := hide (show [dropA nmNew] ++ others b fs = drops b fs by rw [drops_is hasc, hn2])
    clear hn1 hn2 hasc
    obtain ⟨X0, hX0⟩ : ∃ X0 : List ActV, [dropA nmNew] = X0 := ⟨_, rfl⟩
    have hxl : X0.length ≤ 1 := by rw [← hX0]; decide
    rw [hX0] at HX
    go_enter Tryz.func5, Tryz.ntmps5
    go_wp2_with fail
    generalize ((w.alloc (Obj.cells #[Value.slice oa n cap] 36)).alloc (Obj.cells #[Value.int IntKind.i64 0, Value.int IntKind.i64 0, Value.int IntKind.i64 0, Value.int IntKind.i64 0, Value.int IntKind.i64 0, Value.slice none 0 0] 30)).alloc (Obj.cells #[] 57) = w1 at HB1 HD1 HR1 HA1 ⊢
    generalize w.heap.size + 1 + 1 = g1 at HA1 ⊢
    go_loopw [6, 7] (fun m i wr => ∃ (k : Nat), i = .int .i64 (k : Int) ∧ m = .int .i64 (lastOf (-1) (fs.take k)) ∧ k ≤ n ∧ Below w1.heap.size w1 wr) (fun _ i _ => n - (intOf i).toNat)
    case atStart => exact ⟨0, rfl, rfl, Nat.zero_le _, Below.refl _ _⟩
    case round =>
      obtain ⟨k, rfl, rfl, hk, hbel⟩ := hrel
      by_cases hlt : k < n
      · have k0 : (k : Int) < (n : Int) := by omega
        have dv := (HD1.out.on hbel HD1.out.lt).cell
        have HBL := hide hbel
        clear g0
        go_wp2_with fail
        refine (HDO.out _ (HAT.out.below (HB1.out.trans (HBL.out.mono HB1.out.size)))).mono ?_
        rintro e w2 ⟨rfl, hb2⟩
        have hb3 := HBL.out.trans (hb2.mono HBL.out.size)
        clear dv
        have dv2 := (HD1.out.on hb3 HD1.out.lt).cell
        obtain ⟨f, bk, q, hf, hidx, hbk, c0, c1, c2⟩ := (HAT.out.below (HB1.out.trans (hb3.mono HB1.out.size))).get Tryz.underlying34 infoIF7 k hlt
        have HNX := hide (lastOf_next (-1) hf)
        have hr := lastOf_range (-1) (fs.take k) (by omega)
        have hr2 := jnNumber_range f.name
        have hnl := HNM.out f (List.mem_of_getElem? hf)
        have HBL2 := hide hb3
        clear hf hb2 hb3 hbel HBL
        generalize lastOf (-1) (fs.take k) = m at HNX hr ⊢
        go_wp2_with fail
        refine (l07Number_any f.name hnl _).mono ?_
        rintro e w3 ⟨rfl, hb3⟩
        have HB3 := hide (HBL2.out.trans (hb3.mono HBL2.out.size))
        clear hb3 HBL2 hidx hbk c0 c1 c2 dv2
        generalize jnNumber f.name = y at HNX hr2 ⊢
        by_cases hmy : m < y
        · have g5 : decide (m < y) = true := by simpa using hmy
          go_wp2_with fail
          go_roundw
          case rel => exact ⟨k + 1, by go_num, by rw [HNX.out, show max m y = y by omega], by omega, HB3.out⟩
          case measure => simp [intOf]; omega
        · have g5 : decide (m < y) = false := by simpa using hmy
          go_wp2_with fail
          go_roundw
          case rel => exact ⟨k + 1, by go_num, by rw [HNX.out, show max m y = m by omega], by omega, HB3.out⟩
          case measure => simp [intOf]; omega
      · obtain rfl : n = k := by omega
        have dv := (HD1.out.on hbel HD1.out.lt).cell
        have k1 : ¬ (n : Int) < (n : Int) := by omega
        rw [show lastOf (-1) (fs.take n) = b by rw [List.take_of_length_le (by rw [HN.out]; exact Nat.le_refl _)]; exact HBE.out]
        have HB2 := hide (HB1.out.trans (hbel.mono HB1.out.size))
        have HD2 := hide (HD1.out.on hbel HD1.out.lt)
        have HR2 := hide (HR1.out.on hbel HR1.out.lt)
        have HA2 := hide (own_below HA1.out hbel)
        clear HB1 HD1 HR1 HA1
        go_wp2_with fail
        refine wp_region_in (F := (fun w' => Below wr.heap.size wr w')) (by kernel_rfl) (by kernel_rfl) (Below.refl _ _).drew ?_
        have hne : Nonempty (InW (fun w' => Below wr.heap.size wr w')) := ⟨⟨_, Below.refl _ _⟩⟩
        have k0 : ∀ m : InW (fun w' => Below wr.heap.size wr w'), m.w.cell? ⟨w.heap.size, 0, none⟩ = some (.slice oa n cap) := fun m => (HD2.out.on m.h HD2.out.lt).cell
        have HATW := hide (show ∀ m : InW (fun w' => Below wr.heap.size wr w'), FilesAt m.w oa n cap fs from fun m => HAT.out.below (HB2.out.trans (m.h.mono HB2.out.size)))
        repeat (go_big_quiet_step (first | (go_at_call 20; refine (HJN.out _).mono ?_; rintro r w9 ⟨rfl, hb9⟩; exact ⟨rfl, ⟨w9, Below.trans (InW.h _) (hb9.mono (Below.size (InW.h (F := (fun w' => Below wr.heap.size wr w')) ‹_›)))⟩, rfl⟩) | (go_at_call 19; refine (HFA.out _ (HATW.out _)).mono ?_; rintro r w9 ⟨rfl, hb9⟩; exact ⟨rfl, ⟨w9, Below.trans (InW.h _) (hb9.mono (Below.size (InW.h (F := (fun w' => Below wr.heap.size wr w')) ‹_›)))⟩, rfl⟩)))
        refine wpQuiet_nil ?_
        intro _ hw'
        obtain ⟨nq, hw''⟩ := hw'
        subst hw''
        have hb3 := nq.h
        generalize nq.w = w3 at hb3 ⊢
        have HD3 := hide (HD2.out.on hb3 HD2.out.lt)
        have HR3 := hide (HR2.out.on hb3 HR2.out.lt)
        have HA3 := hide (own_below HA2.out hb3)
        have B3 := hide (HB2.out.trans (hb3.mono HB2.out.size))
        clear hne k0 HATW hb3 hbel dv HD2 HR2 HA2 HB2
        go_wp2_with fail
        refine (HRD.out _).mono ?_
        rintro e w4 ⟨v4, rfl, ho4, hb4⟩
        obtain ⟨oa4, cap4, hv4⟩ := own_form3 ho4
        subst hv4
        have hb5 := (Below.refl w4.heap.size w4).alloc (Nat.le_refl _) (.cells (jcells j.number j.term j.vote j.s j.u (.slice oa4 j.es.length cap4)) 30)
        have hx5 := JB.new w4 j.number j.term j.vote j.s j.u (.slice oa4 j.es.length cap4)
        have hbb := hb4.trans (hb5.mono hb4.size)
        have HL5 := hide (L2.mk (X := []) (own_below HA3.out hbb) (own_base (own_below ho4 hb5) B3.out.size) (HD3.out.on hbb HD3.out.lt) (HR3.out.on hbb HR3.out.lt) hx5 (B3.out.trans (hbb.mono B3.out.size)))
        have hl9 : w.heap.size + 1 < w4.heap.size := Nat.lt_of_lt_of_le HR3.out.lt hb4.size
        clear ho4 hb4 hb5 hx5 hbb HD3 HR3 HA3 B3
        have dv5 := HL5.out.dk.cell
        go_wp2_with fail
        generalize w4.alloc (Obj.cells #[Value.int IntKind.i64 j.number, Value.int IntKind.i64 j.term, Value.int IntKind.i64 j.vote, Value.int IntKind.i64 j.s, Value.int IntKind.i64 j.u, Value.slice oa4 j.es.length cap4] 30) = w5 at HL5 dv5 ⊢
        generalize w4.heap.size = b8 at HL5 hl9 ⊢
        refine (HL3.out _ (HAT.out.below HL5.out.be)).mono ?_
        rintro e w6 ⟨rfl, hb6⟩
        have HL6 := hide (HL5.out.on hb6)
        clear hb6 HL5 dv5
        have gi : decide (0 ≤ (i9 : Int)) = true := by simp
        generalize Value.slice (some ⟨g1, 0, none⟩) 0 0 = vv at HL6 ⊢
        have HAC := hide (show w6.ownsRow w.heap.size 57 4 vv 0 [] from HL6.out.ac)
        go_wp2_with (at_builtin; refine wpList_pushM (m := 1) (cs := #[.int .i64 4, .string ⟨#[106, 43]⟩, .string ⟨#[]⟩, .string ⟨#[]⟩]) rfl _ _ 31 rfl (by decide) Tryz.underlying31 infoKAz rfl rfl HAC.out rfl rfl (akc_one (dropA nmNew)) HL6.out.be.size (by decide) (by decide) ?_)
        intro v' w7 ha7 hg7
        have HL7 := hide (HL6.out.push (Y := X0) (by rw [← hX0]; exact ha7) hg7)
        clear ha7 hg7 HL6 hX0 gi
        go_wp2_with fail
        go_loopw [5, 14] (fun v i wr => ∃ (k : Nat), i = .int .i64 (k : Int) ∧ k ≤ n ∧ L2 w b8 (.slice oa n cap) j (.slice oa4 j.es.length cap4) v (X0 ++ others b (fs.take k)) wr) (fun _ i _ => n - (intOf i).toNat)
        case atStart => exact ⟨0, rfl, Nat.zero_le _, by rw [List.take_zero, show others b [] = [] from rfl, List.append_nil]; exact HL7.out⟩
        case round =>
          obtain ⟨k, rfl, hk, hl2⟩ := hrel
          by_cases hlt : k < n
          · have k0 : (k : Int) < (n : Int) := by omega
            have HL := hide hl2
            have dv := hl2.dk.cell
            obtain ⟨f, bk, q, hf, hidx, hbk, c0, c1, c2⟩ := (HAT.out.below hl2.be).get Tryz.underlying34 infoIF7 k hlt
            have HNX := hide (show X0 ++ others b (fs.take (k + 1)) = (X0 ++ others b (fs.take k)) ++ (if isOther b f = true then [dropA f.name] else []) by rw [others_next b hf, List.append_assoc])
            have hr2 := jnNumber_range f.name
            have hnl := HNM.out f (List.mem_of_getElem? hf)
            have hdl : (X0 ++ others b (fs.take k)).length ≤ 1000 := by have := others_room b (fs.take k); rw [List.length_take] at this; rw [List.length_append]; omega
            clear hf hl2 HL7
            generalize X0 ++ others b (fs.take k) = X at HNX HL hdl ⊢
            go_wp2_with fail
            refine (l07Number_any f.name hnl _).mono ?_
            rintro e w3 ⟨rfl, hb3⟩
            have HL3a := hide (HL.out.on hb3)
            have d0 := (hb3.cell (cell_lt c0)).trans c0
            have dv3 := HL3a.out.dk.cell
            clear hb3 HL dv c0 c1 c2
            obtain ⟨ov, cv, hv⟩ := own_form3 HL3a.out.ac
            subst hv
            have hid : isOther b f = (decide (0 ≤ jnNumber f.name) && decide (jnNumber f.name ≠ b)) := rfl
            rw [hid] at HNX
            clear hid
            generalize jnNumber f.name = y at HNX hr2 ⊢
            by_cases hy : 0 ≤ y ∧ y ≠ b
            · rw [decide_eq_true hy.1, decide_eq_true hy.2, Bool.true_and, if_pos rfl] at HNX
              have y1 : decide (0 ≤ y) = true := by simpa using hy.1
              have y2 : (y == b) = false := by simpa using hy.2
              clear hy
              go_wp2_with (at_builtin; refine wpList_pushM (m := 1) (cs := #[.int .i64 4, .string ⟨f.name.toArray⟩, .string ⟨#[]⟩, .string ⟨#[]⟩]) rfl _ _ 31 rfl (by decide) Tryz.underlying31 infoKAz rfl rfl HL3a.out.ac rfl rfl (akc_one (dropA f.name)) HL3a.out.be.size (by unfold maxLen; omega) (by omega) ?_)
              intro v' w7 ha7 hg7
              have HL8 := hide (HL3a.out.push (dr_own HNX.out ha7) hg7)
              clear ha7 hg7 HL3a dv3 d0
              go_wp2_with fail
              go_roundw
              case rel => exact ⟨k + 1, by go_num, by omega, HL8.out⟩
              case measure => simp [intOf]; omega
            · have HNY := hide (show X0 ++ others b (fs.take (k + 1)) = X by rw [HNX.out, if_neg (by simpa using hy), List.append_nil])
              by_cases hy0 : 0 ≤ y
              · have hyb : y = b := Classical.byContradiction fun e => hy ⟨hy0, e⟩
                have y1 : decide (0 ≤ y) = true := by simpa using hy0
                have y2 : (y == b) = true := by simpa using hyb
                clear hy hy0 hyb
                go_wp2_with fail
                go_roundw
                case rel => exact ⟨k + 1, by go_num, by omega, by rw [HNY.out]; exact HL3a.out⟩
                case measure => simp [intOf]; omega
              · have y1 : decide (0 ≤ y) = false := by simpa using hy0
                clear hy hy0
                go_wp2_with fail
                go_roundw
                case rel => exact ⟨k + 1, by go_num, by omega, by rw [HNY.out]; exact HL3a.out⟩
                case measure => simp [intOf]; omega
          · obtain rfl : n = k := by omega
            have dv := hl2.dk.cell
            have k1 : ¬ (n : Int) < (n : Int) := by omega
            rw [List.take_of_length_le (show fs.length ≤ n by rw [HN.out]; exact Nat.le_refl _), HX.out] at hl2
            have HL := hide hl2
            obtain ⟨oaA, capA, hvA⟩ := own_form3 hl2.ac
            subst hvA
            clear hl2 HL7
            have ge : (E : Int) = (TB.size : Int) := by rw [hTS]; omega
            have x9 := HL.out.jb
            have x0 := x9.jv.c0
            have x1 := x9.jv.c1
            have x2 := x9.jv.c2
            have x3 := x9.jv.c3
            have x4 := x9.jv.c4
            have x5 := x9.jv.c5
            clear x9
            go_wp2_with fail
            refine (HCP.out _ _ _ (by obtain ⟨_, _, he, h⟩ := entsAt_own HL.out.en; cases he; exact h)).mono ?_
            rintro e w9 ⟨v9, rfl, ho9, hb9⟩
            obtain ⟨ov9, cv9, hv9⟩ := own_form3 ho9
            subst hv9
            have HL9 := hide (HL.out.on hb9)
            have HO9 := hide (own_base ho9 HL.out.be.size)
            clear ho9 hb9 HL x0 x1 x2 x3 x4 x5
            have hr9 := HL9.out.rz
            have r0 := hr9.jv.c0
            have r1 := hr9.jv.c1
            have r2 := hr9.jv.c2
            have r3 := hr9.jv.c3
            have r4 := hr9.jv.c4
            have r5 := hr9.jv.c5
            have f0 := hr9.free 0
            have f1 := hr9.free 1
            have f2 := hr9.free 2
            have f3 := hr9.free 3
            have f4 := hr9.free 4
            have f5 := hr9.free 5
            have HE := hide (hr9.all j.number j.term j.vote j.s j.u (.slice ov9 j.es.length cv9))
            have HOe := hide (own_keptJA HO9.out hr9 (by decide) HE.out.2)
            have HAe := hide (own_keptJA HL9.out.ac hr9 (by decide) HE.out.2)
            have HBe := hide (HL9.out.be.grown HE.out.2 HL9.out.be.size (fun k e => by cases e; omega))
            clear hr9 HL9 HO9
            go_wp2_with fail
            have hX := HE.out.1
            generalize ((((((w9.setCell ⟨w.heap.size + 1, 0, none⟩ (Value.int IntKind.i64 j.number)).setCell ⟨w.heap.size + 1, 1, none⟩ (Value.int IntKind.i64 j.term)).setCell ⟨w.heap.size + 1, 2, none⟩ (Value.int IntKind.i64 j.vote)).setCell ⟨w.heap.size + 1, 3, none⟩ (Value.int IntKind.i64 j.s)).setCell ⟨w.heap.size + 1, 4, none⟩ (Value.int IntKind.i64 j.u)).setCell ⟨w.heap.size + 1, 5, none⟩ (Value.slice ov9 j.es.length cv9)) = wf at hX HOe HAe HBe ⊢
            have k0 := hX.jv.c0
            have k1 := hX.jv.c1
            have k2 := hX.jv.c2
            have k3 := hX.jv.c3
            have k4 := hX.jv.c4
            have k5 := hX.jv.c5
            refine bodyPost_ret (v := .tuple #[jval j.number j.term j.vote j.s j.u (.slice ov9 j.es.length cv9), .slice oaA (drops b fs).length capA, .bool true]) (by simp [results, Tryz.results5, go_sem, k0, k1, k2, k3, k4, k5]) rfl ?_
            exact OjPost.mk' HR.out rfl HOe.out HAe.out HBe.out

set_option maxHeartbeats 4000000 in
theorem specOpen_next (oa : Option Addr) (n cap : Nat) (fs : List FileV) (w : World) (hat : FilesAt w oa n cap fs) (hw : ∀ f ∈ fs, Fine f) (hd : diskOk fs = true) (hneg : ¬ lastOf (-1) fs < 0) (j : JnV) (E : Nat) (hE : ¬ E = (textAt fs (jnName (lastOf (-1) fs))).length) (hrf : rfR (lastOf (-1) fs) (textAt fs (jnName (lastOf (-1) fs))) = (j, E, 3)) (hjr : jrR (lastOf (-1) fs) (textAt fs (jnName (lastOf (-1) fs))) = (j, E, true)) (hc : j.number < 999) :
    Calls Tryz.prog 5 #[.agg #[.slice oa n cap]] w fun e w' => OjPost fs w e w' := by
  have HDO := hide (fun w hat => specDiskOk_any oa n cap fs w hat hw)
  rw [hd] at HDO
  have hb0 := ((Below.refl w.heap.size w).alloc (Nat.le_refl _) (.cells #[.slice oa n cap] 36)).alloc (by simp) (.cells (jcells 0 0 0 0 0 (.slice none 0 0)) 30)
  have hd0 : DV ((w.alloc (.cells #[.slice oa n cap] 36)).alloc (.cells (jcells 0 0 0 0 0 (.slice none 0 0)) 30)) w.heap.size (.slice oa n cap) := (Below.heap_alloc _ _ _ (by simp)).trans (heap_alloc_new _ _)
  have hr0 : JB ((w.alloc (.cells #[.slice oa n cap] 36)).alloc (.cells (jcells 0 0 0 0 0 (.slice none 0 0)) 30)) (w.heap.size + 1) 0 0 0 0 0 (.slice none 0 0) := by have := heap_alloc_new (w.alloc (.cells #[.slice oa n cap] 36)) (.cells (jcells 0 0 0 0 0 (.slice none 0 0)) 30); rwa [World.size_alloc] at this
  have hb1 := hb0.alloc (by simp; omega) (.cells #[] 57)
  have hbx := (Below.refl ((w.alloc (.cells #[.slice oa n cap] 36)).alloc (.cells (jcells 0 0 0 0 0 (.slice none 0 0)) 30)).heap.size ((w.alloc (.cells #[.slice oa n cap] 36)).alloc (.cells (jcells 0 0 0 0 0 (.slice none 0 0)) 30))).alloc (Nat.le_refl _) (.cells #[] 57)
  have HD1 := hide (hd0.on hbx hd0.lt)
  have HR1 := hide (hr0.on hbx hr0.lt)
  have ha1 := World.ownsRow_made (w := ((w.alloc (.cells #[.slice oa n cap] 36)).alloc (.cells (jcells 0 0 0 0 0 (.slice none 0 0)) 30))) (e := 57) (base := w.heap.size) (size := 4) #[] 0 (by simp; omega) (by decide) rfl
  rw [World.size_alloc, World.size_alloc] at ha1
  replace ha1 : World.ownsRow (((w.alloc (.cells #[.slice oa n cap] 36)).alloc (.cells (jcells 0 0 0 0 0 (.slice none 0 0)) 30)).alloc (.cells #[] 57)) w.heap.size 57 4 (.slice (some ⟨w.heap.size + 1 + 1, 0, none⟩) 0 0) 0 (([] : List ActV).flatMap akc) := ha1
  have HA1 := hide ha1
  have HB1 := hide hb1
  have HN := hide hat.len
  have hmost := hat.most
  unfold maxLen at hmost
  have HAT := hide hat
  clear hb0 hd0 hr0 hb1 hbx ha1 hat hw
  obtain ⟨hlen, hnm, htx, hasc⟩ := disk_names hd
  have hnn := HN.out
  have hbr := lastOf_range (-1) fs (by omega)
  have HNM := hide (show ∀ f ∈ fs, f.name.length ≤ 1048576 from fun f hf => by have := hnm f hf; omega)
  obtain ⟨b, hb⟩ : ∃ b, lastOf (-1) fs = b := ⟨_, rfl⟩
  rw [hb] at hbr
  have HBE := hide hb
  have HR := hide (show ojR fs = ({ j with number := j.number + 1 }, drops (lastOf (-1) fs) fs ++ anewA j, true) by unfold ojR opR; rw [if_pos hd, hrf]; simp [hc])
  rw [hb] at HR
  obtain ⟨T, hT⟩ : ∃ T, textAt fs (jnName b) = T := ⟨_, rfl⟩
  have hTl := textAt_room htx (jnName b)
  rw [hb] at hneg hjr hE
  rw [hT] at hTl hjr hE
  have HJN := hide (fun w => specJournalName_any b (by omega) (by omega) w)
  have HFA := hide (fun w hat => specFileAt_any oa n cap fs (jnName b) w hat)
  rw [hT] at HFA
  have HRD := hide (fun w => specReadJournal_any b ⟨T.toArray⟩ (by rw [size_mk7]; omega) w)
  unfold JrPost at HRD
  rw [bl_mk7, hjr] at HRD
  simp only at HRD
  have HNA := hide (jnName_length b)
  obtain ⟨h9, hh9⟩ : ∃ h9, hasAt fs (jnName b) = h9 := ⟨_, rfl⟩
  rw [hh9] at HFA
  have hTS : (⟨T.toArray⟩ : ByteArray).size = T.length := size_mk7 T
  generalize (⟨(jnName b).toArray⟩ : ByteArray) = NB at HJN HFA
  generalize (⟨T.toArray⟩ : ByteArray) = TB at HFA HRD hTS
  have g0 : decide (b < 0) = false := by simpa using hneg
  have HL3 := hide (fun w hat => l03At_any oa n cap fs nmNew w hat)
  rw [show (⟨nmNew.toArray⟩ : ByteArray) = ⟨#[106, 43]⟩ from rfl] at HL3
  have hnew := new_at fs
  obtain ⟨hjo, -⟩ := rf_rest hrf
  obtain ⟨hj1, hj2, hj3⟩ := JnV.parts hjo
  have hl60 := (lgOk_rm hj3).2.2.2.2.1
  have HAW := hide (fun oa4 cap4 w hat => l07Anew_yes j.number j.term j.vote j.s j.u (.slice oa4 j.es.length cap4) rfl j oa4 j.es.length cap4 w hj1.1 hj1.2 (jnHd_iff.2 hj2) hj3 hat hc)
  simp only [AnYes, anewG_self] at HAW
  have HY4 := hide (show (anewA j).length = 4 from rfl)
  have HYU := hide (show ∀ u ∈ (anewA j).flatMap akc, u.oneCell' = true from fun u hu => by obtain ⟨a, -, h⟩ := List.mem_flatMap.1 hu; exact akc_one a u h)
  generalize anewA j = Y at HAW HY4 HYU HR
  have hdl9 : (drops b fs).length ≤ 1000 := by have := drops_room b fs; omega
  clear hd hb htx hnm hrf hjr hc hj1 hj2 hj3
  rcases hnew with ⟨hn1, hn2⟩ | ⟨i9, hn1, hn2⟩
  · rw [hn1] at HL3
    have HX := hide (show [] ++ others b fs = drops b fs by rw [drops_is hasc, hn2])
    clear hn1 hn2 hasc
    obtain ⟨X0, hX0⟩ : ∃ X0 : List ActV, [] = X0 := ⟨_, rfl⟩
    have hxl : X0.length ≤ 1 := by rw [← hX0]; decide
    rw [hX0] at HX
    go_enter Tryz.func5, Tryz.ntmps5
    go_wp2_with fail
    generalize ((w.alloc (Obj.cells #[Value.slice oa n cap] 36)).alloc (Obj.cells #[Value.int IntKind.i64 0, Value.int IntKind.i64 0, Value.int IntKind.i64 0, Value.int IntKind.i64 0, Value.int IntKind.i64 0, Value.slice none 0 0] 30)).alloc (Obj.cells #[] 57) = w1 at HB1 HD1 HR1 HA1 ⊢
    generalize w.heap.size + 1 + 1 = g1 at HA1 ⊢
    go_loopw [6, 7] (fun m i wr => ∃ (k : Nat), i = .int .i64 (k : Int) ∧ m = .int .i64 (lastOf (-1) (fs.take k)) ∧ k ≤ n ∧ Below w1.heap.size w1 wr) (fun _ i _ => n - (intOf i).toNat)
    case atStart => exact ⟨0, rfl, rfl, Nat.zero_le _, Below.refl _ _⟩
    case round =>
      obtain ⟨k, rfl, rfl, hk, hbel⟩ := hrel
      by_cases hlt : k < n
      · have k0 : (k : Int) < (n : Int) := by omega
        have dv := (HD1.out.on hbel HD1.out.lt).cell
        have HBL := hide hbel
        clear g0
        go_wp2_with fail
        refine (HDO.out _ (HAT.out.below (HB1.out.trans (HBL.out.mono HB1.out.size)))).mono ?_
        rintro e w2 ⟨rfl, hb2⟩
        have hb3 := HBL.out.trans (hb2.mono HBL.out.size)
        clear dv
        have dv2 := (HD1.out.on hb3 HD1.out.lt).cell
        obtain ⟨f, bk, q, hf, hidx, hbk, c0, c1, c2⟩ := (HAT.out.below (HB1.out.trans (hb3.mono HB1.out.size))).get Tryz.underlying34 infoIF7 k hlt
        have HNX := hide (lastOf_next (-1) hf)
        have hr := lastOf_range (-1) (fs.take k) (by omega)
        have hr2 := jnNumber_range f.name
        have hnl := HNM.out f (List.mem_of_getElem? hf)
        have HBL2 := hide hb3
        clear hf hb2 hb3 hbel HBL
        generalize lastOf (-1) (fs.take k) = m at HNX hr ⊢
        go_wp2_with fail
        refine (l07Number_any f.name hnl _).mono ?_
        rintro e w3 ⟨rfl, hb3⟩
        have HB3 := hide (HBL2.out.trans (hb3.mono HBL2.out.size))
        clear hb3 HBL2 hidx hbk c0 c1 c2 dv2
        generalize jnNumber f.name = y at HNX hr2 ⊢
        by_cases hmy : m < y
        · have g5 : decide (m < y) = true := by simpa using hmy
          go_wp2_with fail
          go_roundw
          case rel => exact ⟨k + 1, by go_num, by rw [HNX.out, show max m y = y by omega], by omega, HB3.out⟩
          case measure => simp [intOf]; omega
        · have g5 : decide (m < y) = false := by simpa using hmy
          go_wp2_with fail
          go_roundw
          case rel => exact ⟨k + 1, by go_num, by rw [HNX.out, show max m y = m by omega], by omega, HB3.out⟩
          case measure => simp [intOf]; omega
      · obtain rfl : n = k := by omega
        have dv := (HD1.out.on hbel HD1.out.lt).cell
        have k1 : ¬ (n : Int) < (n : Int) := by omega
        rw [show lastOf (-1) (fs.take n) = b by rw [List.take_of_length_le (by rw [HN.out]; exact Nat.le_refl _)]; exact HBE.out]
        have HB2 := hide (HB1.out.trans (hbel.mono HB1.out.size))
        have HD2 := hide (HD1.out.on hbel HD1.out.lt)
        have HR2 := hide (HR1.out.on hbel HR1.out.lt)
        have HA2 := hide (own_below HA1.out hbel)
        clear HB1 HD1 HR1 HA1
        go_wp2_with fail
        refine wp_region_in (F := (fun w' => Below wr.heap.size wr w')) (by kernel_rfl) (by kernel_rfl) (Below.refl _ _).drew ?_
        have hne : Nonempty (InW (fun w' => Below wr.heap.size wr w')) := ⟨⟨_, Below.refl _ _⟩⟩
        have k0 : ∀ m : InW (fun w' => Below wr.heap.size wr w'), m.w.cell? ⟨w.heap.size, 0, none⟩ = some (.slice oa n cap) := fun m => (HD2.out.on m.h HD2.out.lt).cell
        have HATW := hide (show ∀ m : InW (fun w' => Below wr.heap.size wr w'), FilesAt m.w oa n cap fs from fun m => HAT.out.below (HB2.out.trans (m.h.mono HB2.out.size)))
        repeat (go_big_quiet_step (first | (go_at_call 20; refine (HJN.out _).mono ?_; rintro r w9 ⟨rfl, hb9⟩; exact ⟨rfl, ⟨w9, Below.trans (InW.h _) (hb9.mono (Below.size (InW.h (F := (fun w' => Below wr.heap.size wr w')) ‹_›)))⟩, rfl⟩) | (go_at_call 19; refine (HFA.out _ (HATW.out _)).mono ?_; rintro r w9 ⟨rfl, hb9⟩; exact ⟨rfl, ⟨w9, Below.trans (InW.h _) (hb9.mono (Below.size (InW.h (F := (fun w' => Below wr.heap.size wr w')) ‹_›)))⟩, rfl⟩)))
        refine wpQuiet_nil ?_
        intro _ hw'
        obtain ⟨nq, hw''⟩ := hw'
        subst hw''
        have hb3 := nq.h
        generalize nq.w = w3 at hb3 ⊢
        have HD3 := hide (HD2.out.on hb3 HD2.out.lt)
        have HR3 := hide (HR2.out.on hb3 HR2.out.lt)
        have HA3 := hide (own_below HA2.out hb3)
        have B3 := hide (HB2.out.trans (hb3.mono HB2.out.size))
        clear hne k0 HATW hb3 hbel dv HD2 HR2 HA2 HB2
        go_wp2_with fail
        refine (HRD.out _).mono ?_
        rintro e w4 ⟨v4, rfl, ho4, hb4⟩
        obtain ⟨oa4, cap4, hv4⟩ := own_form3 ho4
        subst hv4
        have hb5 := (Below.refl w4.heap.size w4).alloc (Nat.le_refl _) (.cells (jcells j.number j.term j.vote j.s j.u (.slice oa4 j.es.length cap4)) 30)
        have hx5 := JB.new w4 j.number j.term j.vote j.s j.u (.slice oa4 j.es.length cap4)
        have hbb := hb4.trans (hb5.mono hb4.size)
        have HL5 := hide (L2.mk (X := []) (own_below HA3.out hbb) (own_base (own_below ho4 hb5) B3.out.size) (HD3.out.on hbb HD3.out.lt) (HR3.out.on hbb HR3.out.lt) hx5 (B3.out.trans (hbb.mono B3.out.size)))
        have hl9 : w.heap.size + 1 < w4.heap.size := Nat.lt_of_lt_of_le HR3.out.lt hb4.size
        clear ho4 hb4 hb5 hx5 hbb HD3 HR3 HA3 B3
        have dv5 := HL5.out.dk.cell
        go_wp2_with fail
        generalize w4.alloc (Obj.cells #[Value.int IntKind.i64 j.number, Value.int IntKind.i64 j.term, Value.int IntKind.i64 j.vote, Value.int IntKind.i64 j.s, Value.int IntKind.i64 j.u, Value.slice oa4 j.es.length cap4] 30) = w5 at HL5 dv5 ⊢
        generalize w4.heap.size = b8 at HL5 hl9 ⊢
        refine (HL3.out _ (HAT.out.below HL5.out.be)).mono ?_
        rintro e w6 ⟨rfl, hb6⟩
        have HL6 := hide (HL5.out.on hb6)
        clear hb6 HL5 dv5
        rw [hX0] at HL6
        have HL7 := HL6
        clear HL6 hX0
        go_wp2_with fail
        go_loopw [5, 14] (fun v i wr => ∃ (k : Nat), i = .int .i64 (k : Int) ∧ k ≤ n ∧ L2 w b8 (.slice oa n cap) j (.slice oa4 j.es.length cap4) v (X0 ++ others b (fs.take k)) wr) (fun _ i _ => n - (intOf i).toNat)
        case atStart => exact ⟨0, rfl, Nat.zero_le _, by rw [List.take_zero, show others b [] = [] from rfl, List.append_nil]; exact HL7.out⟩
        case round =>
          obtain ⟨k, rfl, hk, hl2⟩ := hrel
          by_cases hlt : k < n
          · have k0 : (k : Int) < (n : Int) := by omega
            have HL := hide hl2
            have dv := hl2.dk.cell
            obtain ⟨f, bk, q, hf, hidx, hbk, c0, c1, c2⟩ := (HAT.out.below hl2.be).get Tryz.underlying34 infoIF7 k hlt
            have HNX := hide (show X0 ++ others b (fs.take (k + 1)) = (X0 ++ others b (fs.take k)) ++ (if isOther b f = true then [dropA f.name] else []) by rw [others_next b hf, List.append_assoc])
            have hr2 := jnNumber_range f.name
            have hnl := HNM.out f (List.mem_of_getElem? hf)
            have hdl : (X0 ++ others b (fs.take k)).length ≤ 1000 := by have := others_room b (fs.take k); rw [List.length_take] at this; rw [List.length_append]; omega
            clear hf hl2 HL7
            generalize X0 ++ others b (fs.take k) = X at HNX HL hdl ⊢
            go_wp2_with fail
            refine (l07Number_any f.name hnl _).mono ?_
            rintro e w3 ⟨rfl, hb3⟩
            have HL3a := hide (HL.out.on hb3)
            have d0 := (hb3.cell (cell_lt c0)).trans c0
            have dv3 := HL3a.out.dk.cell
            clear hb3 HL dv c0 c1 c2
            obtain ⟨ov, cv, hv⟩ := own_form3 HL3a.out.ac
            subst hv
            have hid : isOther b f = (decide (0 ≤ jnNumber f.name) && decide (jnNumber f.name ≠ b)) := rfl
            rw [hid] at HNX
            clear hid
            generalize jnNumber f.name = y at HNX hr2 ⊢
            by_cases hy : 0 ≤ y ∧ y ≠ b
            · rw [decide_eq_true hy.1, decide_eq_true hy.2, Bool.true_and, if_pos rfl] at HNX
              have y1 : decide (0 ≤ y) = true := by simpa using hy.1
              have y2 : (y == b) = false := by simpa using hy.2
              clear hy
              go_wp2_with (at_builtin; refine wpList_pushM (m := 1) (cs := #[.int .i64 4, .string ⟨f.name.toArray⟩, .string ⟨#[]⟩, .string ⟨#[]⟩]) rfl _ _ 31 rfl (by decide) Tryz.underlying31 infoKAz rfl rfl HL3a.out.ac rfl rfl (akc_one (dropA f.name)) HL3a.out.be.size (by unfold maxLen; omega) (by omega) ?_)
              intro v' w7 ha7 hg7
              have HL8 := hide (HL3a.out.push (dr_own HNX.out ha7) hg7)
              clear ha7 hg7 HL3a dv3 d0
              go_wp2_with fail
              go_roundw
              case rel => exact ⟨k + 1, by go_num, by omega, HL8.out⟩
              case measure => simp [intOf]; omega
            · have HNY := hide (show X0 ++ others b (fs.take (k + 1)) = X by rw [HNX.out, if_neg (by simpa using hy), List.append_nil])
              by_cases hy0 : 0 ≤ y
              · have hyb : y = b := Classical.byContradiction fun e => hy ⟨hy0, e⟩
                have y1 : decide (0 ≤ y) = true := by simpa using hy0
                have y2 : (y == b) = true := by simpa using hyb
                clear hy hy0 hyb
                go_wp2_with fail
                go_roundw
                case rel => exact ⟨k + 1, by go_num, by omega, by rw [HNY.out]; exact HL3a.out⟩
                case measure => simp [intOf]; omega
              · have y1 : decide (0 ≤ y) = false := by simpa using hy0
                clear hy hy0
                go_wp2_with fail
                go_roundw
                case rel => exact ⟨k + 1, by go_num, by omega, by rw [HNY.out]; exact HL3a.out⟩
                case measure => simp [intOf]; omega
          · obtain rfl : n = k := by omega
            have dv := hl2.dk.cell
            have k1 : ¬ (n : Int) < (n : Int) := by omega
            rw [List.take_of_length_le (show fs.length ≤ n by rw [HN.out]; exact Nat.le_refl _), HX.out] at hl2
            have HL := hide hl2
            obtain ⟨oaA, capA, hvA⟩ := own_form3 hl2.ac
            subst hvA
            clear hl2 HL7
            have ge : ¬ (E : Int) = (TB.size : Int) := by rw [hTS]; omega
            have x9 := HL.out.jb
            have x0 := x9.jv.c0
            have x1 := x9.jv.c1
            have x2 := x9.jv.c2
            have x3 := x9.jv.c3
            have x4 := x9.jv.c4
            have x5 := x9.jv.c5
            clear x9
            go_wp2_with fail
            refine (HAW.out _ _ _ (by obtain ⟨_, _, he, h⟩ := entsAt_own HL.out.en; cases he; exact h)).mono ?_
            rintro e w9 ⟨va9, v9, rfl, ha9, ho9, hb9⟩
            obtain ⟨oaB, capB, hvB⟩ := own_form3 ha9
            subst hvB
            obtain ⟨ov9, cv9, hv9⟩ := own_form3 ho9
            subst hv9
            have hb10 := (Below.refl w9.heap.size w9).alloc (Nat.le_refl _) (.cells (jcells (j.number + 1) j.term j.vote j.s j.u (.slice ov9 j.es.length cv9)) 30)
            have hx10 := JB.new w9 (j.number + 1) j.term j.vote j.s j.u (.slice ov9 j.es.length cv9)
            have HL10 := hide ((HL.out.on hb9).on hb10)
            have HY10 := hide (own_below (own_base ha9 HL.out.be.size) hb10)
            have HO10 := hide (own_below (own_base ho9 HL.out.be.size) hb10)
            have hl17 : w.heap.size + 1 < w9.heap.size := Nat.lt_of_lt_of_le HL.out.rz.lt hb9.size
            have HX10 := hide hx10
            clear hx10 hb10 hb9 ha9 ho9 HL x0 x1 x2 x3 x4 x5
            go_wp2_with fail
            generalize w9.alloc (Obj.cells #[Value.int IntKind.i64 (j.number + 1), Value.int IntKind.i64 j.term, Value.int IntKind.i64 j.vote, Value.int IntKind.i64 j.s, Value.int IntKind.i64 j.u, Value.slice ov9 j.es.length cv9] 30) = w10 at HL10 HY10 HO10 HX10 ⊢
            generalize w9.heap.size = b17 at HX10 hl17 ⊢
            refine wp_region_held_drew (S := (fun w' => JB w' b17 (j.number + 1) j.term j.vote j.s j.u (.slice ov9 j.es.length cv9))) (by kernel_rfl) (HX10.out.on (Below.refl _ _).drew HX10.out.lt) (fun hHeld => ?_)
            have hdw := (Below.refl w10.heap.size w10).drew
            have HLd := hide (HL10.out.on hdw)
            have HYd := hide (own_below HY10.out hdw)
            have HOd := hide (own_below HO10.out hdw)
            clear hdw HL10 HY10 HO10 HX10
            generalize w10.drew = xd at hHeld HLd HYd HOd ⊢
            refine wpAnyH_take (i := 0) (v := ?_) rfl (by kernel_rfl) (by kernel_rfl) (by kernel_rfl) (fun _ _ _ h => h) (Or.inl ⟨by rfl, ?_⟩) (by assumption) ?_; rotate_left
            · (intro wz hSw; have z0 := (JB.jv hSw).c0; have z1 := (JB.jv hSw).c1; have z2 := (JB.jv hSw).c2; have z3 := (JB.jv hSw).c3; have z4 := (JB.jv hSw).c4; have z5 := (JB.jv hSw).c5; clear hSw; go_simp; first | done | with_reducible rfl)
            try simp only [Act.put, List.getElem_toArray, List.getElem_cons_zero, List.getElem_cons_succ, List.setIfInBounds_toArray, List.set_cons_zero, List.set_cons_succ]
            refine wpAnyH_take (i := 1) (v := ?_) rfl (by kernel_rfl) (by kernel_rfl) (by kernel_rfl) (fun _ _ _ h => h) (Or.inl ⟨by rfl, ?_⟩) (by assumption) ?_; rotate_left
            · (intro wz hSw; have z0 := (JB.jv hSw).c0; have z1 := (JB.jv hSw).c1; have z2 := (JB.jv hSw).c2; have z3 := (JB.jv hSw).c3; have z4 := (JB.jv hSw).c4; have z5 := (JB.jv hSw).c5; clear hSw; go_simp; first | done | with_reducible rfl)
            try simp only [Act.put, List.getElem_toArray, List.getElem_cons_zero, List.getElem_cons_succ, List.setIfInBounds_toArray, List.set_cons_zero, List.set_cons_succ]
            refine wpAnyH_take (i := 2) (v := ?_) rfl (by kernel_rfl) (by kernel_rfl) (by kernel_rfl) (fun _ _ _ h => h) (Or.inl ⟨by rfl, ?_⟩) (by assumption) ?_; rotate_left
            · (intro wz hSw; have z0 := (JB.jv hSw).c0; have z1 := (JB.jv hSw).c1; have z2 := (JB.jv hSw).c2; have z3 := (JB.jv hSw).c3; have z4 := (JB.jv hSw).c4; have z5 := (JB.jv hSw).c5; clear hSw; go_simp; first | done | with_reducible rfl)
            try simp only [Act.put, List.getElem_toArray, List.getElem_cons_zero, List.getElem_cons_succ, List.setIfInBounds_toArray, List.set_cons_zero, List.set_cons_succ]
            refine wpAnyH_ready (rs := [3]) (by kernel_rfl) (by simp) ?_
            refine AllReadyH.cons rfl (fun K hK => ?_) ?_
            · rw [if_pos (by rfl)]
              refine wp_append_rowK _ _ 31 rfl (by decide) Tryz.underlying31 infoKAz rfl rfl HLd.out.ac rfl HYd.out (by rw [HY4.out]; omega) HYU.out HLd.out.be.size (by rw [HY4.out]; unfold maxLen; omega) (by rw [HY4.out]; omega) ?_
              intro va3 x3 ha3 hg3
              obtain ⟨oaC, capC, hvC⟩ := own_form3 ha3
              subst hvC
              have HLp := hide (HLd.out.push (Y := drops b fs ++ Y) (by rw [List.length_append, List.flatMap_append]; exact ha3) hg3)
              have HOp := hide (own_stays HOd.out HLd.out.ac (by decide) hg3)
              refine hK.out _ _ ?_ (fun hHeld => ?_)
              · exact JB.kept hHeld hg3 (jb_rowA hHeld HLd.out.ac (by decide))
              clear hK K
              try simp only [Act.put, List.getElem_toArray, List.getElem_cons_zero, List.getElem_cons_succ, List.setIfInBounds_toArray, List.set_cons_zero, List.set_cons_succ]
              clear ha3 hg3 HLd HOd HYd
              refine wpAnyH_ready (rs := [4]) (by kernel_rfl) (by simp) ?_
              refine AllReadyH.cons rfl (fun K hK => ?_) ?_
              · have hr9 := HLp.out.rz
                have q0 := hr9.jv.c0
                have q1 := hr9.jv.c1
                have q2 := hr9.jv.c2
                have q3 := hr9.jv.c3
                have q4 := hr9.jv.c4
                have q5 := hr9.jv.c5
                have f0 := hr9.free 0
                have f1 := hr9.free 1
                have f2 := hr9.free 2
                have f3 := hr9.free 3
                have f4 := hr9.free 4
                have f5 := hr9.free 5
                have HE := hide (hr9.all (j.number + 1) j.term j.vote j.s j.u (.slice ov9 j.es.length cv9))
                have HOe := hide (own_keptJA HOp.out hr9 (by decide) HE.out.2)
                have HAe := hide (own_keptJA HLp.out.ac hr9 (by decide) HE.out.2)
                have HBe := hide (HLp.out.be.grown HE.out.2 HLp.out.be.size (fun k e => by cases e; omega))
                rw [if_pos (by rfl)]
                go_simp
                refine hK.out _ _ ?_ (fun hHeld => ?_)
                · exact JB.kept hHeld HE.out.2 (fun e => by injection e with e; omega)
                clear hK K
                try simp only [Act.put, List.getElem_toArray, List.getElem_cons_zero, List.getElem_cons_succ, List.setIfInBounds_toArray, List.set_cons_zero, List.set_cons_succ]
                clear q0 q1 q2 q3 q4 q5 f0 f1 f2 f3 f4 f5 hr9
                refine wpAnyH_take (i := 5) (v := ?_) rfl (by kernel_rfl) (by kernel_rfl) (by kernel_rfl) (fun _ _ _ h => h) (Or.inl ⟨by rfl, ?_⟩) (by assumption) ?_; rotate_left
                · (intro wz hSw; have z0 := (JB.jv hSw).c0; have z1 := (JB.jv hSw).c1; have z2 := (JB.jv hSw).c2; have z3 := (JB.jv hSw).c3; have z4 := (JB.jv hSw).c4; have z5 := (JB.jv hSw).c5; clear hSw; go_simp; first | done | with_reducible rfl)
                try simp only [Act.put, List.getElem_toArray, List.getElem_cons_zero, List.getElem_cons_succ, List.setIfInBounds_toArray, List.set_cons_zero, List.set_cons_succ]
                refine wpAnyH_take (i := 6) (v := ?_) rfl (by kernel_rfl) (by kernel_rfl) (by kernel_rfl) (fun _ _ _ h => h) (Or.inl ⟨by rfl, ?_⟩) (by assumption) ?_; rotate_left
                · (intro wz hSw; have z0 := (JB.jv hSw).c0; have z1 := (JB.jv hSw).c1; have z2 := (JB.jv hSw).c2; have z3 := (JB.jv hSw).c3; have z4 := (JB.jv hSw).c4; have z5 := (JB.jv hSw).c5; clear hSw; go_simp; first | done | with_reducible rfl)
                try simp only [Act.put, List.getElem_toArray, List.getElem_cons_zero, List.getElem_cons_succ, List.setIfInBounds_toArray, List.set_cons_zero, List.set_cons_succ]
                refine wpAnyH_done (by kernel_rfl) ?_ _
                have hX := HE.out.1
                generalize ((((((x3.setCell ⟨w.heap.size + 1, 0, none⟩ (Value.int IntKind.i64 (j.number + 1))).setCell ⟨w.heap.size + 1, 1, none⟩ (Value.int IntKind.i64 j.term)).setCell ⟨w.heap.size + 1, 2, none⟩ (Value.int IntKind.i64 j.vote)).setCell ⟨w.heap.size + 1, 3, none⟩ (Value.int IntKind.i64 j.s)).setCell ⟨w.heap.size + 1, 4, none⟩ (Value.int IntKind.i64 j.u)).setCell ⟨w.heap.size + 1, 5, none⟩ (Value.slice ov9 j.es.length cv9)) = wf at hX HOe HAe HBe ⊢
                have k0 := hX.jv.c0
                have k1 := hX.jv.c1
                have k2 := hX.jv.c2
                have k3 := hX.jv.c3
                have k4 := hX.jv.c4
                have k5 := hX.jv.c5
                clear hHeld HE
                go_wp2_with fail
                refine bodyPost_ret (v := .tuple #[jval (j.number + 1) j.term j.vote j.s j.u (.slice ov9 j.es.length cv9), .slice oaC ((drops b fs).length + Y.length) capC, .bool true]) (by simp [results, Tryz.results5, go_sem, k0, k1, k2, k3, k4, k5]) rfl ?_
                exact OjPost.mk' HR.out rfl HOe.out HAe.out HBe.out
              exact AllReadyH.nil
            exact AllReadyH.nil
  · rw [hn1] at HL3
    have HX := hide (show [dropA nmNew] ++ others b fs = drops b fs by rw [drops_is hasc, hn2])
    clear hn1 hn2 hasc
    obtain ⟨X0, hX0⟩ : ∃ X0 : List ActV, [dropA nmNew] = X0 := ⟨_, rfl⟩
    have hxl : X0.length ≤ 1 := by rw [← hX0]; decide
    rw [hX0] at HX
    go_enter Tryz.func5, Tryz.ntmps5
    go_wp2_with fail
    generalize ((w.alloc (Obj.cells #[Value.slice oa n cap] 36)).alloc (Obj.cells #[Value.int IntKind.i64 0, Value.int IntKind.i64 0, Value.int IntKind.i64 0, Value.int IntKind.i64 0, Value.int IntKind.i64 0, Value.slice none 0 0] 30)).alloc (Obj.cells #[] 57) = w1 at HB1 HD1 HR1 HA1 ⊢
    generalize w.heap.size + 1 + 1 = g1 at HA1 ⊢
    go_loopw [6, 7] (fun m i wr => ∃ (k : Nat), i = .int .i64 (k : Int) ∧ m = .int .i64 (lastOf (-1) (fs.take k)) ∧ k ≤ n ∧ Below w1.heap.size w1 wr) (fun _ i _ => n - (intOf i).toNat)
    case atStart => exact ⟨0, rfl, rfl, Nat.zero_le _, Below.refl _ _⟩
    case round =>
      obtain ⟨k, rfl, rfl, hk, hbel⟩ := hrel
      by_cases hlt : k < n
      · have k0 : (k : Int) < (n : Int) := by omega
        have dv := (HD1.out.on hbel HD1.out.lt).cell
        have HBL := hide hbel
        clear g0
        go_wp2_with fail
        refine (HDO.out _ (HAT.out.below (HB1.out.trans (HBL.out.mono HB1.out.size)))).mono ?_
        rintro e w2 ⟨rfl, hb2⟩
        have hb3 := HBL.out.trans (hb2.mono HBL.out.size)
        clear dv
        have dv2 := (HD1.out.on hb3 HD1.out.lt).cell
        obtain ⟨f, bk, q, hf, hidx, hbk, c0, c1, c2⟩ := (HAT.out.below (HB1.out.trans (hb3.mono HB1.out.size))).get Tryz.underlying34 infoIF7 k hlt
        have HNX := hide (lastOf_next (-1) hf)
        have hr := lastOf_range (-1) (fs.take k) (by omega)
        have hr2 := jnNumber_range f.name
        have hnl := HNM.out f (List.mem_of_getElem? hf)
        have HBL2 := hide hb3
        clear hf hb2 hb3 hbel HBL
        generalize lastOf (-1) (fs.take k) = m at HNX hr ⊢
        go_wp2_with fail
        refine (l07Number_any f.name hnl _).mono ?_
        rintro e w3 ⟨rfl, hb3⟩
        have HB3 := hide (HBL2.out.trans (hb3.mono HBL2.out.size))
        clear hb3 HBL2 hidx hbk c0 c1 c2 dv2
        generalize jnNumber f.name = y at HNX hr2 ⊢
        by_cases hmy : m < y
        · have g5 : decide (m < y) = true := by simpa using hmy
          go_wp2_with fail
          go_roundw
          case rel => exact ⟨k + 1, by go_num, by rw [HNX.out, show max m y = y by omega], by omega, HB3.out⟩
          case measure => simp [intOf]; omega
        · have g5 : decide (m < y) = false := by simpa using hmy
          go_wp2_with fail
          go_roundw
          case rel => exact ⟨k + 1, by go_num, by rw [HNX.out, show max m y = m by omega], by omega, HB3.out⟩
          case measure => simp [intOf]; omega
      · obtain rfl : n = k := by omega
        have dv := (HD1.out.on hbel HD1.out.lt).cell
        have k1 : ¬ (n : Int) < (n : Int) := by omega
        rw [show lastOf (-1) (fs.take n) = b by rw [List.take_of_length_le (by rw [HN.out]; exact Nat.le_refl _)]; exact HBE.out]
        have HB2 := hide (HB1.out.trans (hbel.mono HB1.out.size))
        have HD2 := hide (HD1.out.on hbel HD1.out.lt)
        have HR2 := hide (HR1.out.on hbel HR1.out.lt)
        have HA2 := hide (own_below HA1.out hbel)
        clear HB1 HD1 HR1 HA1
        go_wp2_with fail
        refine wp_region_in (F := (fun w' => Below wr.heap.size wr w')) (by kernel_rfl) (by kernel_rfl) (Below.refl _ _).drew ?_
        have hne : Nonempty (InW (fun w' => Below wr.heap.size wr w')) := ⟨⟨_, Below.refl _ _⟩⟩
        have k0 : ∀ m : InW (fun w' => Below wr.heap.size wr w'), m.w.cell? ⟨w.heap.size, 0, none⟩ = some (.slice oa n cap) := fun m => (HD2.out.on m.h HD2.out.lt).cell
        have HATW := hide (show ∀ m : InW (fun w' => Below wr.heap.size wr w'), FilesAt m.w oa n cap fs from fun m => HAT.out.below (HB2.out.trans (m.h.mono HB2.out.size)))
        repeat (go_big_quiet_step (first | (go_at_call 20; refine (HJN.out _).mono ?_; rintro r w9 ⟨rfl, hb9⟩; exact ⟨rfl, ⟨w9, Below.trans (InW.h _) (hb9.mono (Below.size (InW.h (F := (fun w' => Below wr.heap.size wr w')) ‹_›)))⟩, rfl⟩) | (go_at_call 19; refine (HFA.out _ (HATW.out _)).mono ?_; rintro r w9 ⟨rfl, hb9⟩; exact ⟨rfl, ⟨w9, Below.trans (InW.h _) (hb9.mono (Below.size (InW.h (F := (fun w' => Below wr.heap.size wr w')) ‹_›)))⟩, rfl⟩)))
        refine wpQuiet_nil ?_
        intro _ hw'
        obtain ⟨nq, hw''⟩ := hw'
        subst hw''
        have hb3 := nq.h
        generalize nq.w = w3 at hb3 ⊢
        have HD3 := hide (HD2.out.on hb3 HD2.out.lt)
        have HR3 := hide (HR2.out.on hb3 HR2.out.lt)
        have HA3 := hide (own_below HA2.out hb3)
        have B3 := hide (HB2.out.trans (hb3.mono HB2.out.size))
        clear hne k0 HATW hb3 hbel dv HD2 HR2 HA2 HB2
        go_wp2_with fail
        refine (HRD.out _).mono ?_
        rintro e w4 ⟨v4, rfl, ho4, hb4⟩
        obtain ⟨oa4, cap4, hv4⟩ := own_form3 ho4
        subst hv4
        have hb5 := (Below.refl w4.heap.size w4).alloc (Nat.le_refl _) (.cells (jcells j.number j.term j.vote j.s j.u (.slice oa4 j.es.length cap4)) 30)
        have hx5 := JB.new w4 j.number j.term j.vote j.s j.u (.slice oa4 j.es.length cap4)
        have hbb := hb4.trans (hb5.mono hb4.size)
        have HL5 := hide (L2.mk (X := []) (own_below HA3.out hbb) (own_base (own_below ho4 hb5) B3.out.size) (HD3.out.on hbb HD3.out.lt) (HR3.out.on hbb HR3.out.lt) hx5 (B3.out.trans (hbb.mono B3.out.size)))
        have hl9 : w.heap.size + 1 < w4.heap.size := Nat.lt_of_lt_of_le HR3.out.lt hb4.size
        clear ho4 hb4 hb5 hx5 hbb HD3 HR3 HA3 B3
        have dv5 := HL5.out.dk.cell
        go_wp2_with fail
        generalize w4.alloc (Obj.cells #[Value.int IntKind.i64 j.number, Value.int IntKind.i64 j.term, Value.int IntKind.i64 j.vote, Value.int IntKind.i64 j.s, Value.int IntKind.i64 j.u, Value.slice oa4 j.es.length cap4] 30) = w5 at HL5 dv5 ⊢
        generalize w4.heap.size = b8 at HL5 hl9 ⊢
        refine (HL3.out _ (HAT.out.below HL5.out.be)).mono ?_
        rintro e w6 ⟨rfl, hb6⟩
        have HL6 := hide (HL5.out.on hb6)
        clear hb6 HL5 dv5
        have gi : decide (0 ≤ (i9 : Int)) = true := by simp
        generalize Value.slice (some ⟨g1, 0, none⟩) 0 0 = vv at HL6 ⊢
        have HAC := hide (show w6.ownsRow w.heap.size 57 4 vv 0 [] from HL6.out.ac)
        go_wp2_with (at_builtin; refine wpList_pushM (m := 1) (cs := #[.int .i64 4, .string ⟨#[106, 43]⟩, .string ⟨#[]⟩, .string ⟨#[]⟩]) rfl _ _ 31 rfl (by decide) Tryz.underlying31 infoKAz rfl rfl HAC.out rfl rfl (akc_one (dropA nmNew)) HL6.out.be.size (by decide) (by decide) ?_)
        intro v' w7 ha7 hg7
        have HL7 := hide (HL6.out.push (Y := X0) (by rw [← hX0]; exact ha7) hg7)
        clear ha7 hg7 HL6 hX0 gi
        go_wp2_with fail
        go_loopw [5, 14] (fun v i wr => ∃ (k : Nat), i = .int .i64 (k : Int) ∧ k ≤ n ∧ L2 w b8 (.slice oa n cap) j (.slice oa4 j.es.length cap4) v (X0 ++ others b (fs.take k)) wr) (fun _ i _ => n - (intOf i).toNat)
        case atStart => exact ⟨0, rfl, Nat.zero_le _, by rw [List.take_zero, show others b [] = [] from rfl, List.append_nil]; exact HL7.out⟩
        case round =>
          obtain ⟨k, rfl, hk, hl2⟩ := hrel
          by_cases hlt : k < n
          · have k0 : (k : Int) < (n : Int) := by omega
            have HL := hide hl2
            have dv := hl2.dk.cell
            obtain ⟨f, bk, q, hf, hidx, hbk, c0, c1, c2⟩ := (HAT.out.below hl2.be).get Tryz.underlying34 infoIF7 k hlt
            have HNX := hide (show X0 ++ others b (fs.take (k + 1)) = (X0 ++ others b (fs.take k)) ++ (if isOther b f = true then [dropA f.name] else []) by rw [others_next b hf, List.append_assoc])
            have hr2 := jnNumber_range f.name
            have hnl := HNM.out f (List.mem_of_getElem? hf)
            have hdl : (X0 ++ others b (fs.take k)).length ≤ 1000 := by have := others_room b (fs.take k); rw [List.length_take] at this; rw [List.length_append]; omega
            clear hf hl2 HL7
            generalize X0 ++ others b (fs.take k) = X at HNX HL hdl ⊢
            go_wp2_with fail
            refine (l07Number_any f.name hnl _).mono ?_
            rintro e w3 ⟨rfl, hb3⟩
            have HL3a := hide (HL.out.on hb3)
            have d0 := (hb3.cell (cell_lt c0)).trans c0
            have dv3 := HL3a.out.dk.cell
            clear hb3 HL dv c0 c1 c2
            obtain ⟨ov, cv, hv⟩ := own_form3 HL3a.out.ac
            subst hv
            have hid : isOther b f = (decide (0 ≤ jnNumber f.name) && decide (jnNumber f.name ≠ b)) := rfl
            rw [hid] at HNX
            clear hid
            generalize jnNumber f.name = y at HNX hr2 ⊢
            by_cases hy : 0 ≤ y ∧ y ≠ b
            · rw [decide_eq_true hy.1, decide_eq_true hy.2, Bool.true_and, if_pos rfl] at HNX
              have y1 : decide (0 ≤ y) = true := by simpa using hy.1
              have y2 : (y == b) = false := by simpa using hy.2
              clear hy
              go_wp2_with (at_builtin; refine wpList_pushM (m := 1) (cs := #[.int .i64 4, .string ⟨f.name.toArray⟩, .string ⟨#[]⟩, .string ⟨#[]⟩]) rfl _ _ 31 rfl (by decide) Tryz.underlying31 infoKAz rfl rfl HL3a.out.ac rfl rfl (akc_one (dropA f.name)) HL3a.out.be.size (by unfold maxLen; omega) (by omega) ?_)
              intro v' w7 ha7 hg7
              have HL8 := hide (HL3a.out.push (dr_own HNX.out ha7) hg7)
              clear ha7 hg7 HL3a dv3 d0
              go_wp2_with fail
              go_roundw
              case rel => exact ⟨k + 1, by go_num, by omega, HL8.out⟩
              case measure => simp [intOf]; omega
            · have HNY := hide (show X0 ++ others b (fs.take (k + 1)) = X by rw [HNX.out, if_neg (by simpa using hy), List.append_nil])
              by_cases hy0 : 0 ≤ y
              · have hyb : y = b := Classical.byContradiction fun e => hy ⟨hy0, e⟩
                have y1 : decide (0 ≤ y) = true := by simpa using hy0
                have y2 : (y == b) = true := by simpa using hyb
                clear hy hy0 hyb
                go_wp2_with fail
                go_roundw
                case rel => exact ⟨k + 1, by go_num, by omega, by rw [HNY.out]; exact HL3a.out⟩
                case measure => simp [intOf]; omega
              · have y1 : decide (0 ≤ y) = false := by simpa using hy0
                clear hy hy0
                go_wp2_with fail
                go_roundw
                case rel => exact ⟨k + 1, by go_num, by omega, by rw [HNY.out]; exact HL3a.out⟩
                case measure => simp [intOf]; omega
          · obtain rfl : n = k := by omega
            have dv := hl2.dk.cell
            have k1 : ¬ (n : Int) < (n : Int) := by omega
            rw [List.take_of_length_le (show fs.length ≤ n by rw [HN.out]; exact Nat.le_refl _), HX.out] at hl2
            have HL := hide hl2
            obtain ⟨oaA, capA, hvA⟩ := own_form3 hl2.ac
            subst hvA
            clear hl2 HL7
            have ge : ¬ (E : Int) = (TB.size : Int) := by rw [hTS]; omega
            have x9 := HL.out.jb
            have x0 := x9.jv.c0
            have x1 := x9.jv.c1
            have x2 := x9.jv.c2
            have x3 := x9.jv.c3
            have x4 := x9.jv.c4
            have x5 := x9.jv.c5
            clear x9
            go_wp2_with fail
            refine (HAW.out _ _ _ (by obtain ⟨_, _, he, h⟩ := entsAt_own HL.out.en; cases he; exact h)).mono ?_
            rintro e w9 ⟨va9, v9, rfl, ha9, ho9, hb9⟩
            obtain ⟨oaB, capB, hvB⟩ := own_form3 ha9
            subst hvB
            obtain ⟨ov9, cv9, hv9⟩ := own_form3 ho9
            subst hv9
            have hb10 := (Below.refl w9.heap.size w9).alloc (Nat.le_refl _) (.cells (jcells (j.number + 1) j.term j.vote j.s j.u (.slice ov9 j.es.length cv9)) 30)
            have hx10 := JB.new w9 (j.number + 1) j.term j.vote j.s j.u (.slice ov9 j.es.length cv9)
            have HL10 := hide ((HL.out.on hb9).on hb10)
            have HY10 := hide (own_below (own_base ha9 HL.out.be.size) hb10)
            have HO10 := hide (own_below (own_base ho9 HL.out.be.size) hb10)
            have hl17 : w.heap.size + 1 < w9.heap.size := Nat.lt_of_lt_of_le HL.out.rz.lt hb9.size
            have HX10 := hide hx10
            clear hx10 hb10 hb9 ha9 ho9 HL x0 x1 x2 x3 x4 x5
            go_wp2_with fail
            generalize w9.alloc (Obj.cells #[Value.int IntKind.i64 (j.number + 1), Value.int IntKind.i64 j.term, Value.int IntKind.i64 j.vote, Value.int IntKind.i64 j.s, Value.int IntKind.i64 j.u, Value.slice ov9 j.es.length cv9] 30) = w10 at HL10 HY10 HO10 HX10 ⊢
            generalize w9.heap.size = b17 at HX10 hl17 ⊢
            refine wp_region_held_drew (S := (fun w' => JB w' b17 (j.number + 1) j.term j.vote j.s j.u (.slice ov9 j.es.length cv9))) (by kernel_rfl) (HX10.out.on (Below.refl _ _).drew HX10.out.lt) (fun hHeld => ?_)
            have hdw := (Below.refl w10.heap.size w10).drew
            have HLd := hide (HL10.out.on hdw)
            have HYd := hide (own_below HY10.out hdw)
            have HOd := hide (own_below HO10.out hdw)
            clear hdw HL10 HY10 HO10 HX10
            generalize w10.drew = xd at hHeld HLd HYd HOd ⊢
            refine wpAnyH_take (i := 0) (v := ?_) rfl (by kernel_rfl) (by kernel_rfl) (by kernel_rfl) (fun _ _ _ h => h) (Or.inl ⟨by rfl, ?_⟩) (by assumption) ?_; rotate_left
            · (intro wz hSw; have z0 := (JB.jv hSw).c0; have z1 := (JB.jv hSw).c1; have z2 := (JB.jv hSw).c2; have z3 := (JB.jv hSw).c3; have z4 := (JB.jv hSw).c4; have z5 := (JB.jv hSw).c5; clear hSw; go_simp; first | done | with_reducible rfl)
            try simp only [Act.put, List.getElem_toArray, List.getElem_cons_zero, List.getElem_cons_succ, List.setIfInBounds_toArray, List.set_cons_zero, List.set_cons_succ]
            refine wpAnyH_take (i := 1) (v := ?_) rfl (by kernel_rfl) (by kernel_rfl) (by kernel_rfl) (fun _ _ _ h => h) (Or.inl ⟨by rfl, ?_⟩) (by assumption) ?_; rotate_left
            · (intro wz hSw; have z0 := (JB.jv hSw).c0; have z1 := (JB.jv hSw).c1; have z2 := (JB.jv hSw).c2; have z3 := (JB.jv hSw).c3; have z4 := (JB.jv hSw).c4; have z5 := (JB.jv hSw).c5; clear hSw; go_simp; first | done | with_reducible rfl)
            try simp only [Act.put, List.getElem_toArray, List.getElem_cons_zero, List.getElem_cons_succ, List.setIfInBounds_toArray, List.set_cons_zero, List.set_cons_succ]
            refine wpAnyH_take (i := 2) (v := ?_) rfl (by kernel_rfl) (by kernel_rfl) (by kernel_rfl) (fun _ _ _ h => h) (Or.inl ⟨by rfl, ?_⟩) (by assumption) ?_; rotate_left
            · (intro wz hSw; have z0 := (JB.jv hSw).c0; have z1 := (JB.jv hSw).c1; have z2 := (JB.jv hSw).c2; have z3 := (JB.jv hSw).c3; have z4 := (JB.jv hSw).c4; have z5 := (JB.jv hSw).c5; clear hSw; go_simp; first | done | with_reducible rfl)
            try simp only [Act.put, List.getElem_toArray, List.getElem_cons_zero, List.getElem_cons_succ, List.setIfInBounds_toArray, List.set_cons_zero, List.set_cons_succ]
            refine wpAnyH_ready (rs := [3]) (by kernel_rfl) (by simp) ?_
            refine AllReadyH.cons rfl (fun K hK => ?_) ?_
            · rw [if_pos (by rfl)]
              refine wp_append_rowK _ _ 31 rfl (by decide) Tryz.underlying31 infoKAz rfl rfl HLd.out.ac rfl HYd.out (by rw [HY4.out]; omega) HYU.out HLd.out.be.size (by rw [HY4.out]; unfold maxLen; omega) (by rw [HY4.out]; omega) ?_
              intro va3 x3 ha3 hg3
              obtain ⟨oaC, capC, hvC⟩ := own_form3 ha3
              subst hvC
              have HLp := hide (HLd.out.push (Y := drops b fs ++ Y) (by rw [List.length_append, List.flatMap_append]; exact ha3) hg3)
              have HOp := hide (own_stays HOd.out HLd.out.ac (by decide) hg3)
              refine hK.out _ _ ?_ (fun hHeld => ?_)
              · exact JB.kept hHeld hg3 (jb_rowA hHeld HLd.out.ac (by decide))
              clear hK K
              try simp only [Act.put, List.getElem_toArray, List.getElem_cons_zero, List.getElem_cons_succ, List.setIfInBounds_toArray, List.set_cons_zero, List.set_cons_succ]
              clear ha3 hg3 HLd HOd HYd
              refine wpAnyH_ready (rs := [4]) (by kernel_rfl) (by simp) ?_
              refine AllReadyH.cons rfl (fun K hK => ?_) ?_
              · have hr9 := HLp.out.rz
                have q0 := hr9.jv.c0
                have q1 := hr9.jv.c1
                have q2 := hr9.jv.c2
                have q3 := hr9.jv.c3
                have q4 := hr9.jv.c4
                have q5 := hr9.jv.c5
                have f0 := hr9.free 0
                have f1 := hr9.free 1
                have f2 := hr9.free 2
                have f3 := hr9.free 3
                have f4 := hr9.free 4
                have f5 := hr9.free 5
                have HE := hide (hr9.all (j.number + 1) j.term j.vote j.s j.u (.slice ov9 j.es.length cv9))
                have HOe := hide (own_keptJA HOp.out hr9 (by decide) HE.out.2)
                have HAe := hide (own_keptJA HLp.out.ac hr9 (by decide) HE.out.2)
                have HBe := hide (HLp.out.be.grown HE.out.2 HLp.out.be.size (fun k e => by cases e; omega))
                rw [if_pos (by rfl)]
                go_simp
                refine hK.out _ _ ?_ (fun hHeld => ?_)
                · exact JB.kept hHeld HE.out.2 (fun e => by injection e with e; omega)
                clear hK K
                try simp only [Act.put, List.getElem_toArray, List.getElem_cons_zero, List.getElem_cons_succ, List.setIfInBounds_toArray, List.set_cons_zero, List.set_cons_succ]
                clear q0 q1 q2 q3 q4 q5 f0 f1 f2 f3 f4 f5 hr9
                refine wpAnyH_take (i := 5) (v := ?_) rfl (by kernel_rfl) (by kernel_rfl) (by kernel_rfl) (fun _ _ _ h => h) (Or.inl ⟨by rfl, ?_⟩) (by assumption) ?_; rotate_left
                · (intro wz hSw; have z0 := (JB.jv hSw).c0; have z1 := (JB.jv hSw).c1; have z2 := (JB.jv hSw).c2; have z3 := (JB.jv hSw).c3; have z4 := (JB.jv hSw).c4; have z5 := (JB.jv hSw).c5; clear hSw; go_simp; first | done | with_reducible rfl)
                try simp only [Act.put, List.getElem_toArray, List.getElem_cons_zero, List.getElem_cons_succ, List.setIfInBounds_toArray, List.set_cons_zero, List.set_cons_succ]
                refine wpAnyH_take (i := 6) (v := ?_) rfl (by kernel_rfl) (by kernel_rfl) (by kernel_rfl) (fun _ _ _ h => h) (Or.inl ⟨by rfl, ?_⟩) (by assumption) ?_; rotate_left
                · (intro wz hSw; have z0 := (JB.jv hSw).c0; have z1 := (JB.jv hSw).c1; have z2 := (JB.jv hSw).c2; have z3 := (JB.jv hSw).c3; have z4 := (JB.jv hSw).c4; have z5 := (JB.jv hSw).c5; clear hSw; go_simp; first | done | with_reducible rfl)
                try simp only [Act.put, List.getElem_toArray, List.getElem_cons_zero, List.getElem_cons_succ, List.setIfInBounds_toArray, List.set_cons_zero, List.set_cons_succ]
                refine wpAnyH_done (by kernel_rfl) ?_ _
                have hX := HE.out.1
                generalize ((((((x3.setCell ⟨w.heap.size + 1, 0, none⟩ (Value.int IntKind.i64 (j.number + 1))).setCell ⟨w.heap.size + 1, 1, none⟩ (Value.int IntKind.i64 j.term)).setCell ⟨w.heap.size + 1, 2, none⟩ (Value.int IntKind.i64 j.vote)).setCell ⟨w.heap.size + 1, 3, none⟩ (Value.int IntKind.i64 j.s)).setCell ⟨w.heap.size + 1, 4, none⟩ (Value.int IntKind.i64 j.u)).setCell ⟨w.heap.size + 1, 5, none⟩ (Value.slice ov9 j.es.length cv9)) = wf at hX HOe HAe HBe ⊢
                have k0 := hX.jv.c0
                have k1 := hX.jv.c1
                have k2 := hX.jv.c2
                have k3 := hX.jv.c3
                have k4 := hX.jv.c4
                have k5 := hX.jv.c5
                clear hHeld HE
                go_wp2_with fail
                refine bodyPost_ret (v := .tuple #[jval (j.number + 1) j.term j.vote j.s j.u (.slice ov9 j.es.length cv9), .slice oaC ((drops b fs).length + Y.length) capC, .bool true]) (by simp [results, Tryz.results5, go_sem, k0, k1, k2, k3, k4, k5]) rfl ?_
                exact OjPost.mk' HR.out rfl HOe.out HAe.out HBe.out
              exact AllReadyH.nil
            exact AllReadyH.nil

set_option maxHeartbeats 4000000 in
theorem specOpen_full (oa : Option Addr) (n cap : Nat) (fs : List FileV) (w : World) (hat : FilesAt w oa n cap fs) (hw : ∀ f ∈ fs, Fine f) (hd : diskOk fs = true) (hneg : ¬ lastOf (-1) fs < 0) (j : JnV) (E : Nat) (hE : ¬ E = (textAt fs (jnName (lastOf (-1) fs))).length) (hrf : rfR (lastOf (-1) fs) (textAt fs (jnName (lastOf (-1) fs))) = (j, E, 3)) (hjr : jrR (lastOf (-1) fs) (textAt fs (jnName (lastOf (-1) fs))) = (j, E, true)) (hc : ¬ j.number < 999) :
    Calls Tryz.prog 5 #[.agg #[.slice oa n cap]] w fun e w' => OjPost fs w e w' := by
  have HDO := hide (fun w hat => specDiskOk_any oa n cap fs w hat hw)
  rw [hd] at HDO
  have hb0 := ((Below.refl w.heap.size w).alloc (Nat.le_refl _) (.cells #[.slice oa n cap] 36)).alloc (by simp) (.cells (jcells 0 0 0 0 0 (.slice none 0 0)) 30)
  have hd0 : DV ((w.alloc (.cells #[.slice oa n cap] 36)).alloc (.cells (jcells 0 0 0 0 0 (.slice none 0 0)) 30)) w.heap.size (.slice oa n cap) := (Below.heap_alloc _ _ _ (by simp)).trans (heap_alloc_new _ _)
  have hr0 : JB ((w.alloc (.cells #[.slice oa n cap] 36)).alloc (.cells (jcells 0 0 0 0 0 (.slice none 0 0)) 30)) (w.heap.size + 1) 0 0 0 0 0 (.slice none 0 0) := by have := heap_alloc_new (w.alloc (.cells #[.slice oa n cap] 36)) (.cells (jcells 0 0 0 0 0 (.slice none 0 0)) 30); rwa [World.size_alloc] at this
  have hb1 := hb0.alloc (by simp; omega) (.cells #[] 57)
  have hbx := (Below.refl ((w.alloc (.cells #[.slice oa n cap] 36)).alloc (.cells (jcells 0 0 0 0 0 (.slice none 0 0)) 30)).heap.size ((w.alloc (.cells #[.slice oa n cap] 36)).alloc (.cells (jcells 0 0 0 0 0 (.slice none 0 0)) 30))).alloc (Nat.le_refl _) (.cells #[] 57)
  have HD1 := hide (hd0.on hbx hd0.lt)
  have HR1 := hide (hr0.on hbx hr0.lt)
  have ha1 := World.ownsRow_made (w := ((w.alloc (.cells #[.slice oa n cap] 36)).alloc (.cells (jcells 0 0 0 0 0 (.slice none 0 0)) 30))) (e := 57) (base := w.heap.size) (size := 4) #[] 0 (by simp; omega) (by decide) rfl
  rw [World.size_alloc, World.size_alloc] at ha1
  replace ha1 : World.ownsRow (((w.alloc (.cells #[.slice oa n cap] 36)).alloc (.cells (jcells 0 0 0 0 0 (.slice none 0 0)) 30)).alloc (.cells #[] 57)) w.heap.size 57 4 (.slice (some ⟨w.heap.size + 1 + 1, 0, none⟩) 0 0) 0 (([] : List ActV).flatMap akc) := ha1
  have HA1 := hide ha1
  have HB1 := hide hb1
  have HN := hide hat.len
  have hmost := hat.most
  unfold maxLen at hmost
  have HAT := hide hat
  clear hb0 hd0 hr0 hb1 hbx ha1 hat hw
  obtain ⟨hlen, hnm, htx, hasc⟩ := disk_names hd
  have hnn := HN.out
  have hbr := lastOf_range (-1) fs (by omega)
  have HNM := hide (show ∀ f ∈ fs, f.name.length ≤ 1048576 from fun f hf => by have := hnm f hf; omega)
  obtain ⟨b, hb⟩ : ∃ b, lastOf (-1) fs = b := ⟨_, rfl⟩
  rw [hb] at hbr
  have HBE := hide hb
  have HR := hide (show ojR fs = (zeroJ, [], false) by unfold ojR opR; rw [if_pos hd, hrf]; simp [hc])
  obtain ⟨T, hT⟩ : ∃ T, textAt fs (jnName b) = T := ⟨_, rfl⟩
  have hTl := textAt_room htx (jnName b)
  rw [hb] at hneg hjr hE
  rw [hT] at hTl hjr hE
  have HJN := hide (fun w => specJournalName_any b (by omega) (by omega) w)
  have HFA := hide (fun w hat => specFileAt_any oa n cap fs (jnName b) w hat)
  rw [hT] at HFA
  have HRD := hide (fun w => specReadJournal_any b ⟨T.toArray⟩ (by rw [size_mk7]; omega) w)
  unfold JrPost at HRD
  rw [bl_mk7, hjr] at HRD
  simp only at HRD
  have HNA := hide (jnName_length b)
  obtain ⟨h9, hh9⟩ : ∃ h9, hasAt fs (jnName b) = h9 := ⟨_, rfl⟩
  rw [hh9] at HFA
  have hTS : (⟨T.toArray⟩ : ByteArray).size = T.length := size_mk7 T
  generalize (⟨(jnName b).toArray⟩ : ByteArray) = NB at HJN HFA
  generalize (⟨T.toArray⟩ : ByteArray) = TB at HFA HRD hTS
  have g0 : decide (b < 0) = false := by simpa using hneg
  have HL3 := hide (fun w hat => l03At_any oa n cap fs nmNew w hat)
  rw [show (⟨nmNew.toArray⟩ : ByteArray) = ⟨#[106, 43]⟩ from rfl] at HL3
  have hnew := new_at fs
  obtain ⟨hjo, -⟩ := rf_rest hrf
  obtain ⟨hj1, hj2, hj3⟩ := JnV.parts hjo
  have hl60 := (lgOk_rm hj3).2.2.2.2.1
  have HAW := hide (fun oa4 cap4 w hat => l07Anew_no j.number j.term j.vote j.s j.u (.slice oa4 j.es.length cap4) rfl j oa4 j.es.length cap4 w hj1.1 hj1.2 (jnHd_iff.2 hj2) hj3 hat hc)
  clear hd hb htx hnm hrf hjr hc hj1 hj2 hj3
  rcases hnew with ⟨hn1, hn2⟩ | ⟨i9, hn1, hn2⟩
  · rw [hn1] at HL3
    have HX := hide (show [] ++ others b fs = drops b fs by rw [drops_is hasc, hn2])
    clear hn1 hn2 hasc
    obtain ⟨X0, hX0⟩ : ∃ X0 : List ActV, [] = X0 := ⟨_, rfl⟩
    have hxl : X0.length ≤ 1 := by rw [← hX0]; decide
    rw [hX0] at HX
    go_enter Tryz.func5, Tryz.ntmps5
    go_wp2_with fail
    generalize ((w.alloc (Obj.cells #[Value.slice oa n cap] 36)).alloc (Obj.cells #[Value.int IntKind.i64 0, Value.int IntKind.i64 0, Value.int IntKind.i64 0, Value.int IntKind.i64 0, Value.int IntKind.i64 0, Value.slice none 0 0] 30)).alloc (Obj.cells #[] 57) = w1 at HB1 HD1 HR1 HA1 ⊢
    generalize w.heap.size + 1 + 1 = g1 at HA1 ⊢
    go_loopw [6, 7] (fun m i wr => ∃ (k : Nat), i = .int .i64 (k : Int) ∧ m = .int .i64 (lastOf (-1) (fs.take k)) ∧ k ≤ n ∧ Below w1.heap.size w1 wr) (fun _ i _ => n - (intOf i).toNat)
    case atStart => exact ⟨0, rfl, rfl, Nat.zero_le _, Below.refl _ _⟩
    case round =>
      obtain ⟨k, rfl, rfl, hk, hbel⟩ := hrel
      by_cases hlt : k < n
      · have k0 : (k : Int) < (n : Int) := by omega
        have dv := (HD1.out.on hbel HD1.out.lt).cell
        have HBL := hide hbel
        clear g0
        go_wp2_with fail
        refine (HDO.out _ (HAT.out.below (HB1.out.trans (HBL.out.mono HB1.out.size)))).mono ?_
        rintro e w2 ⟨rfl, hb2⟩
        have hb3 := HBL.out.trans (hb2.mono HBL.out.size)
        clear dv
        have dv2 := (HD1.out.on hb3 HD1.out.lt).cell
        obtain ⟨f, bk, q, hf, hidx, hbk, c0, c1, c2⟩ := (HAT.out.below (HB1.out.trans (hb3.mono HB1.out.size))).get Tryz.underlying34 infoIF7 k hlt
        have HNX := hide (lastOf_next (-1) hf)
        have hr := lastOf_range (-1) (fs.take k) (by omega)
        have hr2 := jnNumber_range f.name
        have hnl := HNM.out f (List.mem_of_getElem? hf)
        have HBL2 := hide hb3
        clear hf hb2 hb3 hbel HBL
        generalize lastOf (-1) (fs.take k) = m at HNX hr ⊢
        go_wp2_with fail
        refine (l07Number_any f.name hnl _).mono ?_
        rintro e w3 ⟨rfl, hb3⟩
        have HB3 := hide (HBL2.out.trans (hb3.mono HBL2.out.size))
        clear hb3 HBL2 hidx hbk c0 c1 c2 dv2
        generalize jnNumber f.name = y at HNX hr2 ⊢
        by_cases hmy : m < y
        · have g5 : decide (m < y) = true := by simpa using hmy
          go_wp2_with fail
          go_roundw
          case rel => exact ⟨k + 1, by go_num, by rw [HNX.out, show max m y = y by omega], by omega, HB3.out⟩
          case measure => simp [intOf]; omega
        · have g5 : decide (m < y) = false := by simpa using hmy
          go_wp2_with fail
          go_roundw
          case rel => exact ⟨k + 1, by go_num, by rw [HNX.out, show max m y = m by omega], by omega, HB3.out⟩
          case measure => simp [intOf]; omega
      · obtain rfl : n = k := by omega
        have dv := (HD1.out.on hbel HD1.out.lt).cell
        have k1 : ¬ (n : Int) < (n : Int) := by omega
        rw [show lastOf (-1) (fs.take n) = b by rw [List.take_of_length_le (by rw [HN.out]; exact Nat.le_refl _)]; exact HBE.out]
        have HB2 := hide (HB1.out.trans (hbel.mono HB1.out.size))
        have HD2 := hide (HD1.out.on hbel HD1.out.lt)
        have HR2 := hide (HR1.out.on hbel HR1.out.lt)
        have HA2 := hide (own_below HA1.out hbel)
        clear HB1 HD1 HR1 HA1
        go_wp2_with fail
        refine wp_region_in (F := (fun w' => Below wr.heap.size wr w')) (by kernel_rfl) (by kernel_rfl) (Below.refl _ _).drew ?_
        have hne : Nonempty (InW (fun w' => Below wr.heap.size wr w')) := ⟨⟨_, Below.refl _ _⟩⟩
        have k0 : ∀ m : InW (fun w' => Below wr.heap.size wr w'), m.w.cell? ⟨w.heap.size, 0, none⟩ = some (.slice oa n cap) := fun m => (HD2.out.on m.h HD2.out.lt).cell
        have HATW := hide (show ∀ m : InW (fun w' => Below wr.heap.size wr w'), FilesAt m.w oa n cap fs from fun m => HAT.out.below (HB2.out.trans (m.h.mono HB2.out.size)))
        repeat (go_big_quiet_step (first | (go_at_call 20; refine (HJN.out _).mono ?_; rintro r w9 ⟨rfl, hb9⟩; exact ⟨rfl, ⟨w9, Below.trans (InW.h _) (hb9.mono (Below.size (InW.h (F := (fun w' => Below wr.heap.size wr w')) ‹_›)))⟩, rfl⟩) | (go_at_call 19; refine (HFA.out _ (HATW.out _)).mono ?_; rintro r w9 ⟨rfl, hb9⟩; exact ⟨rfl, ⟨w9, Below.trans (InW.h _) (hb9.mono (Below.size (InW.h (F := (fun w' => Below wr.heap.size wr w')) ‹_›)))⟩, rfl⟩)))
        refine wpQuiet_nil ?_
        intro _ hw'
        obtain ⟨nq, hw''⟩ := hw'
        subst hw''
        have hb3 := nq.h
        generalize nq.w = w3 at hb3 ⊢
        have HD3 := hide (HD2.out.on hb3 HD2.out.lt)
        have HR3 := hide (HR2.out.on hb3 HR2.out.lt)
        have HA3 := hide (own_below HA2.out hb3)
        have B3 := hide (HB2.out.trans (hb3.mono HB2.out.size))
        clear hne k0 HATW hb3 hbel dv HD2 HR2 HA2 HB2
        go_wp2_with fail
        refine (HRD.out _).mono ?_
        rintro e w4 ⟨v4, rfl, ho4, hb4⟩
        obtain ⟨oa4, cap4, hv4⟩ := own_form3 ho4
        subst hv4
        have hb5 := (Below.refl w4.heap.size w4).alloc (Nat.le_refl _) (.cells (jcells j.number j.term j.vote j.s j.u (.slice oa4 j.es.length cap4)) 30)
        have hx5 := JB.new w4 j.number j.term j.vote j.s j.u (.slice oa4 j.es.length cap4)
        have hbb := hb4.trans (hb5.mono hb4.size)
        have HL5 := hide (L2.mk (X := []) (own_below HA3.out hbb) (own_base (own_below ho4 hb5) B3.out.size) (HD3.out.on hbb HD3.out.lt) (HR3.out.on hbb HR3.out.lt) hx5 (B3.out.trans (hbb.mono B3.out.size)))
        have hl9 : w.heap.size + 1 < w4.heap.size := Nat.lt_of_lt_of_le HR3.out.lt hb4.size
        clear ho4 hb4 hb5 hx5 hbb HD3 HR3 HA3 B3
        have dv5 := HL5.out.dk.cell
        go_wp2_with fail
        generalize w4.alloc (Obj.cells #[Value.int IntKind.i64 j.number, Value.int IntKind.i64 j.term, Value.int IntKind.i64 j.vote, Value.int IntKind.i64 j.s, Value.int IntKind.i64 j.u, Value.slice oa4 j.es.length cap4] 30) = w5 at HL5 dv5 ⊢
        generalize w4.heap.size = b8 at HL5 hl9 ⊢
        refine (HL3.out _ (HAT.out.below HL5.out.be)).mono ?_
        rintro e w6 ⟨rfl, hb6⟩
        have HL6 := hide (HL5.out.on hb6)
        clear hb6 HL5 dv5
        rw [hX0] at HL6
        have HL7 := HL6
        clear HL6 hX0
        go_wp2_with fail
        go_loopw [5, 14] (fun v i wr => ∃ (k : Nat), i = .int .i64 (k : Int) ∧ k ≤ n ∧ L2 w b8 (.slice oa n cap) j (.slice oa4 j.es.length cap4) v (X0 ++ others b (fs.take k)) wr) (fun _ i _ => n - (intOf i).toNat)
        case atStart => exact ⟨0, rfl, Nat.zero_le _, by rw [List.take_zero, show others b [] = [] from rfl, List.append_nil]; exact HL7.out⟩
        case round =>
          obtain ⟨k, rfl, hk, hl2⟩ := hrel
          by_cases hlt : k < n
          · have k0 : (k : Int) < (n : Int) := by omega
            have HL := hide hl2
            have dv := hl2.dk.cell
            obtain ⟨f, bk, q, hf, hidx, hbk, c0, c1, c2⟩ := (HAT.out.below hl2.be).get Tryz.underlying34 infoIF7 k hlt
            have HNX := hide (show X0 ++ others b (fs.take (k + 1)) = (X0 ++ others b (fs.take k)) ++ (if isOther b f = true then [dropA f.name] else []) by rw [others_next b hf, List.append_assoc])
            have hr2 := jnNumber_range f.name
            have hnl := HNM.out f (List.mem_of_getElem? hf)
            have hdl : (X0 ++ others b (fs.take k)).length ≤ 1000 := by have := others_room b (fs.take k); rw [List.length_take] at this; rw [List.length_append]; omega
            clear hf hl2 HL7
            generalize X0 ++ others b (fs.take k) = X at HNX HL hdl ⊢
            go_wp2_with fail
            refine (l07Number_any f.name hnl _).mono ?_
            rintro e w3 ⟨rfl, hb3⟩
            have HL3a := hide (HL.out.on hb3)
            have d0 := (hb3.cell (cell_lt c0)).trans c0
            have dv3 := HL3a.out.dk.cell
            clear hb3 HL dv c0 c1 c2
            obtain ⟨ov, cv, hv⟩ := own_form3 HL3a.out.ac
            subst hv
            have hid : isOther b f = (decide (0 ≤ jnNumber f.name) && decide (jnNumber f.name ≠ b)) := rfl
            rw [hid] at HNX
            clear hid
            generalize jnNumber f.name = y at HNX hr2 ⊢
            by_cases hy : 0 ≤ y ∧ y ≠ b
            · rw [decide_eq_true hy.1, decide_eq_true hy.2, Bool.true_and, if_pos rfl] at HNX
              have y1 : decide (0 ≤ y) = true := by simpa using hy.1
              have y2 : (y == b) = false := by simpa using hy.2
              clear hy
              go_wp2_with (at_builtin; refine wpList_pushM (m := 1) (cs := #[.int .i64 4, .string ⟨f.name.toArray⟩, .string ⟨#[]⟩, .string ⟨#[]⟩]) rfl _ _ 31 rfl (by decide) Tryz.underlying31 infoKAz rfl rfl HL3a.out.ac rfl rfl (akc_one (dropA f.name)) HL3a.out.be.size (by unfold maxLen; omega) (by omega) ?_)
              intro v' w7 ha7 hg7
              have HL8 := hide (HL3a.out.push (dr_own HNX.out ha7) hg7)
              clear ha7 hg7 HL3a dv3 d0
              go_wp2_with fail
              go_roundw
              case rel => exact ⟨k + 1, by go_num, by omega, HL8.out⟩
              case measure => simp [intOf]; omega
            · have HNY := hide (show X0 ++ others b (fs.take (k + 1)) = X by rw [HNX.out, if_neg (by simpa using hy), List.append_nil])
              by_cases hy0 : 0 ≤ y
              · have hyb : y = b := Classical.byContradiction fun e => hy ⟨hy0, e⟩
                have y1 : decide (0 ≤ y) = true := by simpa using hy0
                have y2 : (y == b) = true := by simpa using hyb
                clear hy hy0 hyb
                go_wp2_with fail
                go_roundw
                case rel => exact ⟨k + 1, by go_num, by omega, by rw [HNY.out]; exact HL3a.out⟩
                case measure => simp [intOf]; omega
              · have y1 : decide (0 ≤ y) = false := by simpa using hy0
                clear hy hy0
                go_wp2_with fail
                go_roundw
                case rel => exact ⟨k + 1, by go_num, by omega, by rw [HNY.out]; exact HL3a.out⟩
                case measure => simp [intOf]; omega
          · obtain rfl : n = k := by omega
            have dv := hl2.dk.cell
            have k1 : ¬ (n : Int) < (n : Int) := by omega
            rw [List.take_of_length_le (show fs.length ≤ n by rw [HN.out]; exact Nat.le_refl _), HX.out] at hl2
            have HL := hide hl2
            obtain ⟨oaA, capA, hvA⟩ := own_form3 hl2.ac
            subst hvA
            clear hl2 HL7
            have ge : ¬ (E : Int) = (TB.size : Int) := by rw [hTS]; omega
            have x9 := HL.out.jb
            have x0 := x9.jv.c0
            have x1 := x9.jv.c1
            have x2 := x9.jv.c2
            have x3 := x9.jv.c3
            have x4 := x9.jv.c4
            have x5 := x9.jv.c5
            clear x9
            go_wp2_with fail
            refine (HAW.out _ _ _ (by obtain ⟨_, _, he, h⟩ := entsAt_own HL.out.en; cases he; exact h)).mono ?_
            rintro e w9 ⟨va9, rfl, ha9, hb9⟩
            obtain ⟨oaB, capB, hvB⟩ := own_form3 ha9
            subst hvB
            have HL9 := hide (HL.out.on hb9)
            clear ha9 hb9 HL x0 x1 x2 x3 x4 x5
            have hr9 := HL9.out.rz
            have r0 := hr9.jv.c0
            have r1 := hr9.jv.c1
            have r2 := hr9.jv.c2
            have r3 := hr9.jv.c3
            have r4 := hr9.jv.c4
            have r5 := hr9.jv.c5
            have f0 := hr9.free 0
            have f1 := hr9.free 1
            have f2 := hr9.free 2
            have f3 := hr9.free 3
            have f4 := hr9.free 4
            have f5 := hr9.free 5
            have HE := hide (hr9.all 0 0 0 0 0 (.slice none 0 0))
            have HBe := hide (HL9.out.be.grown HE.out.2 HL9.out.be.size (fun k e => by cases e; omega))
            have HZ := hide (show ((((((w9.setCell ⟨w.heap.size + 1, 0, none⟩ (Value.int IntKind.i64 0)).setCell ⟨w.heap.size + 1, 1, none⟩ (Value.int IntKind.i64 0)).setCell ⟨w.heap.size + 1, 2, none⟩ (Value.int IntKind.i64 0)).setCell ⟨w.heap.size + 1, 3, none⟩ (Value.int IntKind.i64 0)).setCell ⟨w.heap.size + 1, 4, none⟩ (Value.int IntKind.i64 0)).setCell ⟨w.heap.size + 1, 5, none⟩ (Value.slice none 0 0)).heap.size = w9.heap.size by simp [World.setCell])
            have hl17 : w.heap.size + 1 < w9.heap.size := hr9.lt
            have hl18 : w.heap.size < w9.heap.size := by omega
            have hl19 : w.heap.size + 1 < w9.heap.size + 1 := by omega
            have hl20 : ¬ w.heap.size = w9.heap.size := by omega
            have hl21 : ¬ w.heap.size + 1 = w9.heap.size := by omega
            have HLW := hide HL9.out.be.size
            clear hr9 HL9
            go_wp2_with fail
            have hX := HE.out.1
            generalize ((((((w9.setCell ⟨w.heap.size + 1, 0, none⟩ (Value.int IntKind.i64 0)).setCell ⟨w.heap.size + 1, 1, none⟩ (Value.int IntKind.i64 0)).setCell ⟨w.heap.size + 1, 2, none⟩ (Value.int IntKind.i64 0)).setCell ⟨w.heap.size + 1, 3, none⟩ (Value.int IntKind.i64 0)).setCell ⟨w.heap.size + 1, 4, none⟩ (Value.int IntKind.i64 0)).setCell ⟨w.heap.size + 1, 5, none⟩ (Value.slice none 0 0)) = wq at hX HZ HBe ⊢
            have hbq := ((Below.refl wq.heap.size wq).alloc (Nat.le_refl _) (Obj.cells #[Value.int IntKind.i64 0, Value.int IntKind.i64 0, Value.int IntKind.i64 0, Value.int IntKind.i64 0, Value.int IntKind.i64 0, Value.slice none 0 0] 30)).alloc (by simp) (Obj.cells #[] 57)
            have hX2 := hX.on hbq hX.lt
            have HB6 := HBe.out.trans (hbq.mono (by rw [HZ.out]; exact HLW.out))
            have hm := World.ownsRow_made (w := wq.alloc (Obj.cells #[Value.int IntKind.i64 0, Value.int IntKind.i64 0, Value.int IntKind.i64 0, Value.int IntKind.i64 0, Value.int IntKind.i64 0, Value.slice none 0 0] 30)) (e := 57) (base := w.heap.size) (size := 4) #[] 0 (by simp; rw [HZ.out]; omega) (by decide) rfl
            rw [World.size_alloc, HZ.out] at hm
            replace hm : ((wq.alloc (Obj.cells #[Value.int IntKind.i64 0, Value.int IntKind.i64 0, Value.int IntKind.i64 0, Value.int IntKind.i64 0, Value.int IntKind.i64 0, Value.slice none 0 0] 30)).alloc (Obj.cells #[] 57)).ownsRow w.heap.size 57 4 (.slice (some ⟨w9.heap.size + 1, 0, none⟩) 0 0) 0 [] := hm
            generalize (wq.alloc (Obj.cells #[Value.int IntKind.i64 0, Value.int IntKind.i64 0, Value.int IntKind.i64 0, Value.int IntKind.i64 0, Value.int IntKind.i64 0, Value.slice none 0 0] 30)).alloc (Obj.cells #[] 57) = wf at hX2 HB6 hm ⊢
            clear r0 r1 r2 r3 r4 r5 f0 f1 f2 f3 f4 f5 hbq
            have r0 := hX2.jv.c0
            have r1 := hX2.jv.c1
            have r2 := hX2.jv.c2
            have r3 := hX2.jv.c3
            have r4 := hX2.jv.c4
            have r5 := hX2.jv.c5
            refine bodyPost_ret (v := .tuple #[jval 0 0 0 0 0 (.slice none 0 0), .slice (some ⟨w9.heap.size + 1, 0, none⟩) 0 0, .bool false]) (by simp [results, Tryz.results5, go_sem, r0, r1, r2, r3, r4, r5]) rfl ?_
            exact OjPost.mk' HR.out rfl (World.ownsRow_nil _ _ _ _) hm HB6
  · rw [hn1] at HL3
    have HX := hide (show [dropA nmNew] ++ others b fs = drops b fs by rw [drops_is hasc, hn2])
    clear hn1 hn2 hasc
    obtain ⟨X0, hX0⟩ : ∃ X0 : List ActV, [dropA nmNew] = X0 := ⟨_, rfl⟩
    have hxl : X0.length ≤ 1 := by rw [← hX0]; decide
    rw [hX0] at HX
    go_enter Tryz.func5, Tryz.ntmps5
    go_wp2_with fail
    generalize ((w.alloc (Obj.cells #[Value.slice oa n cap] 36)).alloc (Obj.cells #[Value.int IntKind.i64 0, Value.int IntKind.i64 0, Value.int IntKind.i64 0, Value.int IntKind.i64 0, Value.int IntKind.i64 0, Value.slice none 0 0] 30)).alloc (Obj.cells #[] 57) = w1 at HB1 HD1 HR1 HA1 ⊢
    generalize w.heap.size + 1 + 1 = g1 at HA1 ⊢
    go_loopw [6, 7] (fun m i wr => ∃ (k : Nat), i = .int .i64 (k : Int) ∧ m = .int .i64 (lastOf (-1) (fs.take k)) ∧ k ≤ n ∧ Below w1.heap.size w1 wr) (fun _ i _ => n - (intOf i).toNat)
    case atStart => exact ⟨0, rfl, rfl, Nat.zero_le _, Below.refl _ _⟩
    case round =>
      obtain ⟨k, rfl, rfl, hk, hbel⟩ := hrel
      by_cases hlt : k < n
      · have k0 : (k : Int) < (n : Int) := by omega
        have dv := (HD1.out.on hbel HD1.out.lt).cell
        have HBL := hide hbel
        clear g0
        go_wp2_with fail
        refine (HDO.out _ (HAT.out.below (HB1.out.trans (HBL.out.mono HB1.out.size)))).mono ?_
        rintro e w2 ⟨rfl, hb2⟩
        have hb3 := HBL.out.trans (hb2.mono HBL.out.size)
        clear dv
        have dv2 := (HD1.out.on hb3 HD1.out.lt).cell
        obtain ⟨f, bk, q, hf, hidx, hbk, c0, c1, c2⟩ := (HAT.out.below (HB1.out.trans (hb3.mono HB1.out.size))).get Tryz.underlying34 infoIF7 k hlt
        have HNX := hide (lastOf_next (-1) hf)
        have hr := lastOf_range (-1) (fs.take k) (by omega)
        have hr2 := jnNumber_range f.name
        have hnl := HNM.out f (List.mem_of_getElem? hf)
        have HBL2 := hide hb3
        clear hf hb2 hb3 hbel HBL
        generalize lastOf (-1) (fs.take k) = m at HNX hr ⊢
        go_wp2_with fail
        refine (l07Number_any f.name hnl _).mono ?_
        rintro e w3 ⟨rfl, hb3⟩
        have HB3 := hide (HBL2.out.trans (hb3.mono HBL2.out.size))
        clear hb3 HBL2 hidx hbk c0 c1 c2 dv2
        generalize jnNumber f.name = y at HNX hr2 ⊢
        by_cases hmy : m < y
        · have g5 : decide (m < y) = true := by simpa using hmy
          go_wp2_with fail
          go_roundw
          case rel => exact ⟨k + 1, by go_num, by rw [HNX.out, show max m y = y by omega], by omega, HB3.out⟩
          case measure => simp [intOf]; omega
        · have g5 : decide (m < y) = false := by simpa using hmy
          go_wp2_with fail
          go_roundw
          case rel => exact ⟨k + 1, by go_num, by rw [HNX.out, show max m y = m by omega], by omega, HB3.out⟩
          case measure => simp [intOf]; omega
      · obtain rfl : n = k := by omega
        have dv := (HD1.out.on hbel HD1.out.lt).cell
        have k1 : ¬ (n : Int) < (n : Int) := by omega
        rw [show lastOf (-1) (fs.take n) = b by rw [List.take_of_length_le (by rw [HN.out]; exact Nat.le_refl _)]; exact HBE.out]
        have HB2 := hide (HB1.out.trans (hbel.mono HB1.out.size))
        have HD2 := hide (HD1.out.on hbel HD1.out.lt)
        have HR2 := hide (HR1.out.on hbel HR1.out.lt)
        have HA2 := hide (own_below HA1.out hbel)
        clear HB1 HD1 HR1 HA1
        go_wp2_with fail
        refine wp_region_in (F := (fun w' => Below wr.heap.size wr w')) (by kernel_rfl) (by kernel_rfl) (Below.refl _ _).drew ?_
        have hne : Nonempty (InW (fun w' => Below wr.heap.size wr w')) := ⟨⟨_, Below.refl _ _⟩⟩
        have k0 : ∀ m : InW (fun w' => Below wr.heap.size wr w'), m.w.cell? ⟨w.heap.size, 0, none⟩ = some (.slice oa n cap) := fun m => (HD2.out.on m.h HD2.out.lt).cell
        have HATW := hide (show ∀ m : InW (fun w' => Below wr.heap.size wr w'), FilesAt m.w oa n cap fs from fun m => HAT.out.below (HB2.out.trans (m.h.mono HB2.out.size)))
        repeat (go_big_quiet_step (first | (go_at_call 20; refine (HJN.out _).mono ?_; rintro r w9 ⟨rfl, hb9⟩; exact ⟨rfl, ⟨w9, Below.trans (InW.h _) (hb9.mono (Below.size (InW.h (F := (fun w' => Below wr.heap.size wr w')) ‹_›)))⟩, rfl⟩) | (go_at_call 19; refine (HFA.out _ (HATW.out _)).mono ?_; rintro r w9 ⟨rfl, hb9⟩; exact ⟨rfl, ⟨w9, Below.trans (InW.h _) (hb9.mono (Below.size (InW.h (F := (fun w' => Below wr.heap.size wr w')) ‹_›)))⟩, rfl⟩)))
        refine wpQuiet_nil ?_
        intro _ hw'
        obtain ⟨nq, hw''⟩ := hw'
        subst hw''
        have hb3 := nq.h
        generalize nq.w = w3 at hb3 ⊢
        have HD3 := hide (HD2.out.on hb3 HD2.out.lt)
        have HR3 := hide (HR2.out.on hb3 HR2.out.lt)
        have HA3 := hide (own_below HA2.out hb3)
        have B3 := hide (HB2.out.trans (hb3.mono HB2.out.size))
        clear hne k0 HATW hb3 hbel dv HD2 HR2 HA2 HB2
        go_wp2_with fail
        refine (HRD.out _).mono ?_
        rintro e w4 ⟨v4, rfl, ho4, hb4⟩
        obtain ⟨oa4, cap4, hv4⟩ := own_form3 ho4
        subst hv4
        have hb5 := (Below.refl w4.heap.size w4).alloc (Nat.le_refl _) (.cells (jcells j.number j.term j.vote j.s j.u (.slice oa4 j.es.length cap4)) 30)
        have hx5 := JB.new w4 j.number j.term j.vote j.s j.u (.slice oa4 j.es.length cap4)
        have hbb := hb4.trans (hb5.mono hb4.size)
        have HL5 := hide (L2.mk (X := []) (own_below HA3.out hbb) (own_base (own_below ho4 hb5) B3.out.size) (HD3.out.on hbb HD3.out.lt) (HR3.out.on hbb HR3.out.lt) hx5 (B3.out.trans (hbb.mono B3.out.size)))
        have hl9 : w.heap.size + 1 < w4.heap.size := Nat.lt_of_lt_of_le HR3.out.lt hb4.size
        clear ho4 hb4 hb5 hx5 hbb HD3 HR3 HA3 B3
        have dv5 := HL5.out.dk.cell
        go_wp2_with fail
        generalize w4.alloc (Obj.cells #[Value.int IntKind.i64 j.number, Value.int IntKind.i64 j.term, Value.int IntKind.i64 j.vote, Value.int IntKind.i64 j.s, Value.int IntKind.i64 j.u, Value.slice oa4 j.es.length cap4] 30) = w5 at HL5 dv5 ⊢
        generalize w4.heap.size = b8 at HL5 hl9 ⊢
        refine (HL3.out _ (HAT.out.below HL5.out.be)).mono ?_
        rintro e w6 ⟨rfl, hb6⟩
        have HL6 := hide (HL5.out.on hb6)
        clear hb6 HL5 dv5
        have gi : decide (0 ≤ (i9 : Int)) = true := by simp
        generalize Value.slice (some ⟨g1, 0, none⟩) 0 0 = vv at HL6 ⊢
        have HAC := hide (show w6.ownsRow w.heap.size 57 4 vv 0 [] from HL6.out.ac)
        go_wp2_with (at_builtin; refine wpList_pushM (m := 1) (cs := #[.int .i64 4, .string ⟨#[106, 43]⟩, .string ⟨#[]⟩, .string ⟨#[]⟩]) rfl _ _ 31 rfl (by decide) Tryz.underlying31 infoKAz rfl rfl HAC.out rfl rfl (akc_one (dropA nmNew)) HL6.out.be.size (by decide) (by decide) ?_)
        intro v' w7 ha7 hg7
        have HL7 := hide (HL6.out.push (Y := X0) (by rw [← hX0]; exact ha7) hg7)
        clear ha7 hg7 HL6 hX0 gi
        go_wp2_with fail
        go_loopw [5, 14] (fun v i wr => ∃ (k : Nat), i = .int .i64 (k : Int) ∧ k ≤ n ∧ L2 w b8 (.slice oa n cap) j (.slice oa4 j.es.length cap4) v (X0 ++ others b (fs.take k)) wr) (fun _ i _ => n - (intOf i).toNat)
        case atStart => exact ⟨0, rfl, Nat.zero_le _, by rw [List.take_zero, show others b [] = [] from rfl, List.append_nil]; exact HL7.out⟩
        case round =>
          obtain ⟨k, rfl, hk, hl2⟩ := hrel
          by_cases hlt : k < n
          · have k0 : (k : Int) < (n : Int) := by omega
            have HL := hide hl2
            have dv := hl2.dk.cell
            obtain ⟨f, bk, q, hf, hidx, hbk, c0, c1, c2⟩ := (HAT.out.below hl2.be).get Tryz.underlying34 infoIF7 k hlt
            have HNX := hide (show X0 ++ others b (fs.take (k + 1)) = (X0 ++ others b (fs.take k)) ++ (if isOther b f = true then [dropA f.name] else []) by rw [others_next b hf, List.append_assoc])
            have hr2 := jnNumber_range f.name
            have hnl := HNM.out f (List.mem_of_getElem? hf)
            have hdl : (X0 ++ others b (fs.take k)).length ≤ 1000 := by have := others_room b (fs.take k); rw [List.length_take] at this; rw [List.length_append]; omega
            clear hf hl2 HL7
            generalize X0 ++ others b (fs.take k) = X at HNX HL hdl ⊢
            go_wp2_with fail
            refine (l07Number_any f.name hnl _).mono ?_
            rintro e w3 ⟨rfl, hb3⟩
            have HL3a := hide (HL.out.on hb3)
            have d0 := (hb3.cell (cell_lt c0)).trans c0
            have dv3 := HL3a.out.dk.cell
            clear hb3 HL dv c0 c1 c2
            obtain ⟨ov, cv, hv⟩ := own_form3 HL3a.out.ac
            subst hv
            have hid : isOther b f = (decide (0 ≤ jnNumber f.name) && decide (jnNumber f.name ≠ b)) := rfl
            rw [hid] at HNX
            clear hid
            generalize jnNumber f.name = y at HNX hr2 ⊢
            by_cases hy : 0 ≤ y ∧ y ≠ b
            · rw [decide_eq_true hy.1, decide_eq_true hy.2, Bool.true_and, if_pos rfl] at HNX
              have y1 : decide (0 ≤ y) = true := by simpa using hy.1
              have y2 : (y == b) = false := by simpa using hy.2
              clear hy
              go_wp2_with (at_builtin; refine wpList_pushM (m := 1) (cs := #[.int .i64 4, .string ⟨f.name.toArray⟩, .string ⟨#[]⟩, .string ⟨#[]⟩]) rfl _ _ 31 rfl (by decide) Tryz.underlying31 infoKAz rfl rfl HL3a.out.ac rfl rfl (akc_one (dropA f.name)) HL3a.out.be.size (by unfold maxLen; omega) (by omega) ?_)
              intro v' w7 ha7 hg7
              have HL8 := hide (HL3a.out.push (dr_own HNX.out ha7) hg7)
              clear ha7 hg7 HL3a dv3 d0
              go_wp2_with fail
              go_roundw
              case rel => exact ⟨k + 1, by go_num, by omega, HL8.out⟩
              case measure => simp [intOf]; omega
            · have HNY := hide (show X0 ++ others b (fs.take (k + 1)) = X by rw [HNX.out, if_neg (by simpa using hy), List.append_nil])
              by_cases hy0 : 0 ≤ y
              · have hyb : y = b := Classical.byContradiction fun e => hy ⟨hy0, e⟩
                have y1 : decide (0 ≤ y) = true := by simpa using hy0
                have y2 : (y == b) = true := by simpa using hyb
                clear hy hy0 hyb
                go_wp2_with fail
                go_roundw
                case rel => exact ⟨k + 1, by go_num, by omega, by rw [HNY.out]; exact HL3a.out⟩
                case measure => simp [intOf]; omega
              · have y1 : decide (0 ≤ y) = false := by simpa using hy0
                clear hy hy0
                go_wp2_with fail
                go_roundw
                case rel => exact ⟨k + 1, by go_num, by omega, by rw [HNY.out]; exact HL3a.out⟩
                case measure => simp [intOf]; omega
          · obtain rfl : n = k := by omega
            have dv := hl2.dk.cell
            have k1 : ¬ (n : Int) < (n : Int) := by omega
            rw [List.take_of_length_le (show fs.length ≤ n by rw [HN.out]; exact Nat.le_refl _), HX.out] at hl2
            have HL := hide hl2
            obtain ⟨oaA, capA, hvA⟩ := own_form3 hl2.ac
            subst hvA
            clear hl2 HL7
            have ge : ¬ (E : Int) = (TB.size : Int) := by rw [hTS]; omega
            have x9 := HL.out.jb
            have x0 := x9.jv.c0
            have x1 := x9.jv.c1
            have x2 := x9.jv.c2
            have x3 := x9.jv.c3
            have x4 := x9.jv.c4
            have x5 := x9.jv.c5
            clear x9
            go_wp2_with fail
            refine (HAW.out _ _ _ (by obtain ⟨_, _, he, h⟩ := entsAt_own HL.out.en; cases he; exact h)).mono ?_
            rintro e w9 ⟨va9, rfl, ha9, hb9⟩
            obtain ⟨oaB, capB, hvB⟩ := own_form3 ha9
            subst hvB
            have HL9 := hide (HL.out.on hb9)
            clear ha9 hb9 HL x0 x1 x2 x3 x4 x5
            have hr9 := HL9.out.rz
            have r0 := hr9.jv.c0
            have r1 := hr9.jv.c1
            have r2 := hr9.jv.c2
            have r3 := hr9.jv.c3
            have r4 := hr9.jv.c4
            have r5 := hr9.jv.c5
            have f0 := hr9.free 0
            have f1 := hr9.free 1
            have f2 := hr9.free 2
            have f3 := hr9.free 3
            have f4 := hr9.free 4
            have f5 := hr9.free 5
            have HE := hide (hr9.all 0 0 0 0 0 (.slice none 0 0))
            have HBe := hide (HL9.out.be.grown HE.out.2 HL9.out.be.size (fun k e => by cases e; omega))
            have HZ := hide (show ((((((w9.setCell ⟨w.heap.size + 1, 0, none⟩ (Value.int IntKind.i64 0)).setCell ⟨w.heap.size + 1, 1, none⟩ (Value.int IntKind.i64 0)).setCell ⟨w.heap.size + 1, 2, none⟩ (Value.int IntKind.i64 0)).setCell ⟨w.heap.size + 1, 3, none⟩ (Value.int IntKind.i64 0)).setCell ⟨w.heap.size + 1, 4, none⟩ (Value.int IntKind.i64 0)).setCell ⟨w.heap.size + 1, 5, none⟩ (Value.slice none 0 0)).heap.size = w9.heap.size by simp [World.setCell])
            have hl17 : w.heap.size + 1 < w9.heap.size := hr9.lt
            have hl18 : w.heap.size < w9.heap.size := by omega
            have hl19 : w.heap.size + 1 < w9.heap.size + 1 := by omega
            have hl20 : ¬ w.heap.size = w9.heap.size := by omega
            have hl21 : ¬ w.heap.size + 1 = w9.heap.size := by omega
            have HLW := hide HL9.out.be.size
            clear hr9 HL9
            go_wp2_with fail
            have hX := HE.out.1
            generalize ((((((w9.setCell ⟨w.heap.size + 1, 0, none⟩ (Value.int IntKind.i64 0)).setCell ⟨w.heap.size + 1, 1, none⟩ (Value.int IntKind.i64 0)).setCell ⟨w.heap.size + 1, 2, none⟩ (Value.int IntKind.i64 0)).setCell ⟨w.heap.size + 1, 3, none⟩ (Value.int IntKind.i64 0)).setCell ⟨w.heap.size + 1, 4, none⟩ (Value.int IntKind.i64 0)).setCell ⟨w.heap.size + 1, 5, none⟩ (Value.slice none 0 0)) = wq at hX HZ HBe ⊢
            have hbq := ((Below.refl wq.heap.size wq).alloc (Nat.le_refl _) (Obj.cells #[Value.int IntKind.i64 0, Value.int IntKind.i64 0, Value.int IntKind.i64 0, Value.int IntKind.i64 0, Value.int IntKind.i64 0, Value.slice none 0 0] 30)).alloc (by simp) (Obj.cells #[] 57)
            have hX2 := hX.on hbq hX.lt
            have HB6 := HBe.out.trans (hbq.mono (by rw [HZ.out]; exact HLW.out))
            have hm := World.ownsRow_made (w := wq.alloc (Obj.cells #[Value.int IntKind.i64 0, Value.int IntKind.i64 0, Value.int IntKind.i64 0, Value.int IntKind.i64 0, Value.int IntKind.i64 0, Value.slice none 0 0] 30)) (e := 57) (base := w.heap.size) (size := 4) #[] 0 (by simp; rw [HZ.out]; omega) (by decide) rfl
            rw [World.size_alloc, HZ.out] at hm
            replace hm : ((wq.alloc (Obj.cells #[Value.int IntKind.i64 0, Value.int IntKind.i64 0, Value.int IntKind.i64 0, Value.int IntKind.i64 0, Value.int IntKind.i64 0, Value.slice none 0 0] 30)).alloc (Obj.cells #[] 57)).ownsRow w.heap.size 57 4 (.slice (some ⟨w9.heap.size + 1, 0, none⟩) 0 0) 0 [] := hm
            generalize (wq.alloc (Obj.cells #[Value.int IntKind.i64 0, Value.int IntKind.i64 0, Value.int IntKind.i64 0, Value.int IntKind.i64 0, Value.int IntKind.i64 0, Value.slice none 0 0] 30)).alloc (Obj.cells #[] 57) = wf at hX2 HB6 hm ⊢
            clear r0 r1 r2 r3 r4 r5 f0 f1 f2 f3 f4 f5 hbq
            have r0 := hX2.jv.c0
            have r1 := hX2.jv.c1
            have r2 := hX2.jv.c2
            have r3 := hX2.jv.c3
            have r4 := hX2.jv.c4
            have r5 := hX2.jv.c5
            refine bodyPost_ret (v := .tuple #[jval 0 0 0 0 0 (.slice none 0 0), .slice (some ⟨w9.heap.size + 1, 0, none⟩) 0 0, .bool false]) (by simp [results, Tryz.results5, go_sem, r0, r1, r2, r3, r4, r5]) rfl ?_
            exact OjPost.mk' HR.out rfl (World.ownsRow_nil _ _ _ _) hm HB6

theorem rf_len {n : Int} {l : List UInt8} {j : JnV} {e : Nat} {c : Int} (hc : c = 0 ∨ c = 3) (h : rfR n l = (j, e, c)) : c = 0 ↔ e = l.length := by
  unfold rfR at h
  split at h
  · split at h
    · injection h with h1 h2; injection h2 with h2 h3; rcases hc with rfl | rfl <;> cases h3
    · injection h with h1 h2
      injection h2 with h2 h3
      subst h2
      rw [← h3]
      split
      · rename_i he; simp [he]
      · rename_i he; simp [he]
  · injection h with h1 h2; injection h2 with h2 h3; rcases hc with rfl | rfl <;> cases h3

theorem specOpenJournal_any (oa : Option Addr) (n cap : Nat) (fs : List FileV) (w : World) (hat : FilesAt w oa n cap fs) (hw : ∀ f ∈ fs, Fine f) :
    Calls Tryz.prog 5 #[.agg #[.slice oa n cap]] w fun e w' => OjPost fs w e w' := by
  cases hd : diskOk fs with
  | false => exact specOpen_not oa n cap fs w hat hw hd
  | true =>
    by_cases hneg : lastOf (-1) fs < 0
    · exact specOpen_none oa n cap fs w hat hw hd hneg
    · have hr := lastOf_range (-1) fs (by omega)
      rcases rf_cases (lastOf (-1) fs) (textAt fs (jnName (lastOf (-1) fs))) with ⟨j, e, hf, hj⟩ | ⟨j, e, hf, hj⟩ | ⟨hf, hj⟩ | ⟨hf, hj⟩
      · exact specOpen_whole oa n cap fs w hat hw hd hneg j e ((rf_len (Or.inl rfl) hf).1 rfl) hf hj
      · have he : ¬ e = (textAt fs (jnName (lastOf (-1) fs))).length := fun h => by have := (rf_len (Or.inr rfl) hf).2 h; cases this
        by_cases hc : j.number < 999
        · exact specOpen_next oa n cap fs w hat hw hd hneg j e he hf hj hc
        · exact specOpen_full oa n cap fs w hat hw hd hneg j e he hf hj hc
      · exfalso
        unfold rfR at hf
        rw [if_pos (jnIn_iff.2 ⟨by omega, hr.2⟩)] at hf
        split at hf
        · cases hf
        · injection hf with h1 h2
          injection h2 with h2 h3
          split at h3 <;> cases h3
      · exact specOpen_bad oa n cap fs w hat hw hd hneg hf hj

end Go.Proofs.YthbgklmnmoclhaaGreatDoor
