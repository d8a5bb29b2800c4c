/-
  The law FnExactOpenJournal: its walk (made by wip/tools/gen7w.py).
  A disk that came in as an argument: a slice of files somewhere in memory.
-/
import Derived.Test.YthbgklmnmoclhaaGreatDoorWalk7v
import Derived.Test.YthbgklmnmoclhaaGreatDoorPack42
import Derived.Test.YthbgklmnmoclhaaGreatDoorPack5
import Derived.WideShapes
namespace Go.Proofs.YthbgklmnmoclhaaGreatDoor
open Go.RowKit P1 P3 P5 P9 K
set_option linter.unusedVariables false
set_option linter.unusedSimpArgs false

/-- What OpenJournal answered, in a variable and a row of acts. -/
structure AJ (w : World) (b base top : Nat) (n t v0 s u : Int) (v : Value) (m : Nat) (es : List EntV) (va : Value) (ma : Nat) (aa : List ActV) : Prop where
  kj : KJ w b base top n t v0 s u v m es
  ac : w.ownsRow base 57 4 va ma (aa.flatMap akc)
  up : ∀ g, va.ownBlock = some g → base ≤ g ∧ g < top
section
variable {w w' : World} {b base top : Nat} {n t v0 s u : Int} {v : Value} {m : Nat} {es : List EntV} {va : Value} {ma : Nat} {aa : List ActV}
theorem AJ.new (ho : w.ownsRow base 111 3 v m (es.flatMap ecells)) (ha : w.ownsRow base 57 4 va ma (aa.flatMap akc)) : AJ (w.alloc (.cells (jcells n t v0 s u v) 30)) w.heap.size base w.heap.size n t v0 s u v m es va ma aa :=
  ⟨KJ.new ho, ha.alloc _, ha.lt⟩
theorem AJ.on (h : AJ w b base top n t v0 s u v m es va ma aa) (hb : Below w.heap.size w w') : AJ w' b base top n t v0 s u v m es va ma aa := ⟨h.kj.on hb, own_below h.ac hb, h.up⟩
/-- A row of files, or another one, written leaves it. -/
theorem AJ.row {base2 : Nat} {e2 : TypeId} {k2 : Nat} {v2 : Value} {n2 : Nat} {xs2 : List Value} (h : AJ w b base top n t v0 s u v m es va ma aa) (ho : w.ownsRow base2 e2 k2 v2 n2 xs2) (hg : w.grownBy w' v2.ownBlock) (h1 : e2 ≠ 30) (h2 : ∀ g, v.ownBlock = some g → v2.ownBlock ≠ some g) (h3 : ∀ g, va.ownBlock = some g → v2.ownBlock ≠ some g) : AJ w' b base top n t v0 s u v m es va ma aa := by
  refine ⟨⟨h.kj.blk.kept hg (jb_rowA h.kj.blk ho h1), h.kj.own.kept hg ?_, h.kj.ahead⟩, h.ac.kept hg ?_, h.up⟩
  · cases hv : v.ownBlock with
    | none => exact Or.inl rfl
    | some g => exact Or.inr (fun e => h2 g hv e.symm)
  · cases hv : va.ownBlock with
    | none => exact Or.inl rfl
    | some g => exact Or.inr (fun e => h3 g hv e.symm)
theorem AJ.file {base2 : Nat} {v2 : Value} {n2 : Nat} {xs2 : List Value} (h : AJ w b base top n t v0 s u v m es va ma aa) (ho : w.ownsRow base2 49 3 v2 n2 xs2) (hg : w.grownBy w' v2.ownBlock) : AJ w' b base top n t v0 s u v m es va ma aa :=
  h.row ho hg (by decide) (own_apart h.kj.own ho (by decide)) (own_apart h.ac ho (by decide))
/-- Its own entries written. -/
theorem AJ.ents (h : AJ w b base top n t v0 s u v m es va ma aa) {ms : List EntV} (ho : w'.ownsRow base 111 3 v m (ms.flatMap ecells)) (hg : w.grownBy w' v.ownBlock) : AJ w' b base top n t v0 s u v m ms va ma aa :=
  ⟨h.kj.marked ho hg, own_stays h.ac h.kj.own (by decide) hg, h.up⟩
/-- Its own acts written. -/
theorem AJ.acts (h : AJ w b base top n t v0 s u v m es va ma aa) {bs : List ActV} (ho : w'.ownsRow base 57 4 va ma (bs.flatMap akc)) (hg : w.grownBy w' va.ownBlock) : AJ w' b base top n t v0 s u v m es va ma bs :=
  ⟨⟨h.kj.blk.kept hg (jb_rowA h.kj.blk h.ac (by decide)), own_stays h.kj.own h.ac (by decide) hg, h.kj.ahead⟩, ho, h.up⟩
theorem AJ.other_ents {b2 base2 top2 : Nat} {n2 t2 v2 s2 u2 : Int} {x2 : Value} {m2 : Nat} {es2 : List EntV} {va2 : Value} {ma2 : Nat} {aa2 : List ActV} (h : AJ w b base top n t v0 s u v m es va ma aa) (h2 : AJ w b2 base2 top2 n2 t2 v2 s2 u2 x2 m2 es2 va2 ma2 aa2) (hle : top ≤ base2) (hg : w.grownBy w' x2.ownBlock) : AJ w' b base top n t v0 s u v m es va ma aa :=
  h.row h2.kj.own hg (by decide) (rows_part h.kj h2.kj hle) (own_apart h.ac h2.kj.own (by decide))
theorem AJ.other_acts {b2 base2 top2 : Nat} {n2 t2 v2 s2 u2 : Int} {x2 : Value} {m2 : Nat} {es2 : List EntV} {va2 : Value} {ma2 : Nat} {aa2 : List ActV} (h : AJ w b base top n t v0 s u v m es va ma aa) (h2 : AJ w b2 base2 top2 n2 t2 v2 s2 u2 x2 m2 es2 va2 ma2 aa2) (hle : top ≤ base2) (hg : w.grownBy w' va2.ownBlock) : AJ w' b base top n t v0 s u v m es va ma aa :=
  h.row h2.ac hg (by decide) (own_apart h.kj.own h2.ac (by decide)) (fun g h8 h9 => by have k1 := h.up g h8; have k2 := h2.up g h9; omega)
end

theorem oj_small (fs : List FileV) : (ojR fs).1.es.length ≤ 60 ∧ (ojR fs).2.1.length ≤ 40 := by
  unfold ojR
  cases hd : diskOk fs with
  | false =>
    have h : opR fs = ([], zeroJ, 1) := by unfold opR; rw [if_neg (by rw [hd]; decide)]
    rw [h]
    exact ⟨Nat.zero_le _, Nat.zero_le _⟩
  | true =>
    have hl := (disk_names hd).1
    have hdr := drops_room (lastOf (-1) fs) fs
    rcases rf_cases (lastOf (-1) fs) (textAt fs (jnName (lastOf (-1) fs))) with ⟨j, e, hf, -⟩ | ⟨j, e, hf, -⟩ | ⟨hf, -⟩ | ⟨hf, -⟩
    · have h : opR fs = (drops (lastOf (-1) fs) fs, j, 0) := by unfold opR; rw [if_pos hd, hf]; rfl
      have h6 := (lgOk_rm (JnV.parts (rf_rest0 (Or.inl rfl) hf).1).2.2).2.2.2.2.1
      rw [h]
      exact ⟨h6, by show (drops (lastOf (-1) fs) fs).length ≤ 40; omega⟩
    · by_cases hc : j.number < 999
      · have h : opR fs = (drops (lastOf (-1) fs) fs ++ anewA j, { j with number := j.number + 1 }, 0) := by unfold opR; rw [if_pos hd, hf]; simp [hc]
        have h6 := (lgOk_rm (JnV.parts (rf_rest0 (Or.inr rfl) hf).1).2.2).2.2.2.2.1
        rw [h]
        refine ⟨h6, ?_⟩
        show (drops (lastOf (-1) fs) fs ++ anewA j).length ≤ 40
        rw [List.length_append, show (anewA j).length = 4 from rfl]
        omega
      · have h : opR fs = ([], zeroJ, 6) := by unfold opR; rw [if_pos hd, hf]; simp [hc]
        rw [h]
        exact ⟨Nat.zero_le _, Nat.zero_le _⟩
    · have h : opR fs = (drops (lastOf (-1) fs) fs, zeroJ, 1) := by unfold opR; rw [if_pos hd, hf]; rfl
      rw [h]
      exact ⟨Nat.zero_le _, Nat.zero_le _⟩
    · have h : opR fs = (drops (lastOf (-1) fs) fs, zeroJ, 2) := by unfold opR; rw [if_pos hd, hf]; rfl
      rw [h]
      exact ⟨Nat.zero_le _, Nat.zero_le _⟩

/-- A disk that came in, in its variable. -/
def LD (w : World) (b : Nat) (x : Value) : Prop := w.heap[b]? = some (.cells #[x] 24 (0, 0))
theorem LD.lt {w : World} {b : Nat} {x : Value} (h : LD w b x) : b < w.heap.size := blk_lt h
theorem LD.on {w w' : World} {b : Nat} {x : Value} (h : LD w b x) (hb : Below w.heap.size w w') : LD w' b x := (hb.block b h.lt).trans h
theorem LD.cell {w : World} {b : Nat} {x : Value} (h : LD w b x) : w.cell? ⟨b, 0, none⟩ = some x := blk_cell h 0 rfl
theorem LD.row {w w' : World} {b : Nat} {x : Value} {base2 : Nat} {e2 : TypeId} {k2 : Nat} {v2 : Value} {n2 : Nat} {xs2 : List Value} (h : LD w b x) (ho : w.ownsRow base2 e2 k2 v2 n2 xs2) (hne : e2 ≠ 24) (hg : w.grownBy w' v2.ownBlock) : LD w' b x := by
  refine (hg.block b h.lt (fun e1 => ?_)).trans h
  rcases ho.2 with ⟨rfl, -⟩ | ⟨g, cap, cur, rfl, -, hgb, -⟩
  · cases e1
  · cases e1
    unfold LD at h
    rw [hgb] at h
    cases h
    exact hne rfl
theorem DV.on' {w w' : World} {b : Nat} {x : Value} (h : DV w b x) (hb : Below w.heap.size w w') : DV w' b x := h.on hb h.lt
theorem pow_of_laidO {w : World} (h : laidMetH Tryz.prog Rows.fnExactOpenJournalRow.laid w) : Lib.TabIs Tryz.prog w "internal/strconv.uint64pow10" .u64 Lib.pow10Tab := by
  have h1 := laidMetH.filter (fun x => x.1 == "internal/strconv.uint64pow10") h
  have e : Rows.fnExactOpenJournalRow.laid.filter (fun x => x.1 == "internal/strconv.uint64pow10") = [("internal/strconv.uint64pow10", Lib.tabData .u64 Lib.pow10Tab)] := by kernel_rfl
  rw [e, MakeChecks.laidMetH_plain _ _ _ (by kernel_rfl)] at h1
  exact Lib.tabIs_of_head (rest := []) (g := 1) (by kernel_rfl) (t := 205) (by kernel_rfl) Tryz.underlying205 Tryz.underlying197 (by kernel_rfl) (by kernel_rfl) h1

set_option maxHeartbeats 8000000 in
theorem FnExactOpenJournal_walk (oa : Option Addr) (n cap : Nat) (fs : List FileV) (w : World) (hat : FilesAt w oa n cap fs) (hw : ∀ f ∈ fs, Wide f) (hL : laidMetH Tryz.prog Rows.fnExactOpenJournalRow.laid w) :
    Calls Tryz.prog 3 #[.agg #[.slice oa n cap]] w fun e w' => e = .returned (.bool true) ∧ Below w.heap.size w w' := by
  have HT := hide (sums_of_laid (by kernel_rfl) hL)
  have HER := hide (err_of_laid (by kernel_rfl) hL)
  have HP := hide (pow_of_laidO hL)
  have hb0 := (Below.refl w.heap.size w).alloc (Nat.le_refl _) (.cells #[.slice oa n cap] 24)
  have HL0 := hide (show LD (w.alloc (.cells #[.slice oa n cap] 24)) w.heap.size (.slice oa n cap) from heap_alloc_new _ _)
  have HB0 := hide hb0
  have HAT := hide hat
  have HSZ := hide (fun w hat => szDisk_any oa n cap fs 1048576 (by omega) (by omega) w hat hw)
  clear hL hb0 hat
  by_cases c : szFs fs 1048576 < 0
  · have g : decide (szFs fs 1048576 < 0) = true := by simpa using c
    go_enter Tryz.func3, Tryz.ntmps3
    go_wp2_with fail
    refine (HSZ.out _ (HAT.out.below HB0.out)).mono ?_
    rintro e w1 ⟨rfl, hb1⟩
    go_wp2_with fail
    go_ret
    exact ⟨rfl, HB0.out.trans (hb1.mono (by simp))⟩
  · have g : decide (szFs fs 1048576 < 0) = false := by simpa using c
    obtain ⟨hlen, hfine⟩ := fine_of_sz (Int.le_refl _) (by omega) hw
    have hn20 : n ≤ 1048576 := by have := HAT.out.len; omega
    have HSP := hide (fun oa cap w hat => specOpenJournal_any oa n cap fs w hat hfine)
    have HIM := hide (fun oa cap w hat a b c => implOpenJournal_any oa n cap fs w hat hfine a b c)
    have hsm := oj_small fs
    unfold OjPost at HSP HIM
    obtain ⟨j, A, ok, hoj⟩ : ∃ j A ok, ojR fs = (j, A, ok) := ⟨_, _, _, rfl⟩
    rw [hoj] at hsm HSP HIM
    simp only at hsm HSP HIM
    clear hfine c hlen hoj hw
    obtain ⟨hN60, hM40⟩ := hsm
    obtain ⟨N, hN⟩ : ∃ N, j.es.length = N := ⟨_, rfl⟩
    obtain ⟨M, hM⟩ : ∃ M, A.length = M := ⟨_, rfl⟩
    rw [hN] at hN60 HSP HIM
    rw [hM] at hM40 HSP HIM
    clear hN hM
    generalize j.number = jn at HSP HIM
    generalize j.term = jt at HSP HIM
    generalize j.vote = jv at HSP HIM
    generalize j.s = js at HSP HIM
    generalize j.u = ju at HSP HIM
    generalize j.es = es at HSP HIM
    go_enter Tryz.func3, Tryz.ntmps3
    go_wp2_with fail
    refine (HSZ.out _ (HAT.out.below HB0.out)).mono ?_
    rintro e w1 ⟨rfl, hb1⟩
    have LD1 := hide (HL0.out.on hb1)
    have BB1 := hide (HB0.out.trans (hb1.mono (by simp)))
    clear hb1 HL0 HB0
    have dl := LD1.out.cell
    go_wp2_with fail
    clear dl
    refine (toDisk_any oa n cap fs hn20 _ (HAT.out.below BB1.out)).mono ?_
    rintro e w2 ⟨g2, rfl, ho2, hb2⟩
    obtain ⟨oa2, cap2, he2, hat2⟩ := filesAt_of_own ho2
    cases he2
    have LD11 := hide (LD1.out.on hb2)
    have BB12 := hide (BB1.out.trans (hb2.mono BB1.out.size))
    clear hb2 LD1 BB1
    go_wp2_with fail
    refine (HSP.out _ _ _ hat2).mono ?_
    rintro e w3 ⟨v0, va0, rfl, ho3, ha3, hb3⟩
    clear ho2 hat2
    obtain ⟨oa3, cap3, hv3⟩ := own_form3 ho3
    subst hv3
    obtain ⟨ob3, cbp3, hv3⟩ := own_form3 ha3
    subst hv3
    have hk3 := hide (AJ.new (n := jn) (t := jt) (v0 := jv) (s := js) (u := ju) ho3 ha3)
    have hb34 := hb3.trans (((Below.refl w3.heap.size w3).alloc (Nat.le_refl _) (.cells (jcells jn jt jv js ju (.slice oa3 N cap3)) 30)).mono hb3.size)
    clear ho3 ha3 hb3
    have LD13 := hide (LD11.out.on hb34)
    have BB14 := hide (BB12.out.trans (hb34.mono BB12.out.size))
    clear hb34 LD11 BB12
    have dl := LD13.out.cell
    go_wp2_with fail
    clear dl
    generalize w3.alloc (Obj.cells #[Value.int IntKind.i64 jn, Value.int IntKind.i64 jt, Value.int IntKind.i64 jv, Value.int IntKind.i64 js, Value.int IntKind.i64 ju, Value.slice oa3 N cap3] 30) = w4 at LD13 BB14 hk3 ⊢
    have hz4 := BB14.out.size
    refine (toDisk_any oa n cap fs hn20 _ (HAT.out.below BB14.out)).mono ?_
    rintro e w5 ⟨g5, rfl, ho5, hb5⟩
    have hd5 := hide (DV.new w5 (.slice (some ⟨g5, 0, none⟩) n n))
    have hx5 := hide (ho5.alloc (.cells #[.slice (some ⟨g5, 0, none⟩) n n] 36))
    have hb56 := hb5.trans (((Below.refl w5.heap.size w5).alloc (Nat.le_refl _) (.cells #[.slice (some ⟨g5, 0, none⟩) n n] 36)).mono hb5.size)
    have hz5 := hb5.size
    clear ho5 hb5
    have LD15 := hide (LD13.out.on hb56)
    have BB16 := hide (BB14.out.trans (hb56.mono BB14.out.size))
    have K017 := hide (hk3.out.on hb56)
    clear hb56 LD13 BB14 hk3
    go_wp2_with fail
    generalize w5.alloc (Obj.cells #[Value.slice (some ⟨g5, 0, none⟩) n n] 36) = w6 at LD15 BB16 K017 hd5 hx5 ⊢
    have hz6 := BB16.out.size
    have hle6 := K017.out.kj.lt
    obtain ⟨oa6, cap6, he6, hat6⟩ := filesAt_of_own hx5.out
    cases he6
    refine (HIM.out _ _ _ hat6 (tab_below HT.out BB16.out) (tab_below HP.out BB16.out) (HER.out.on BB16.out)).mono ?_
    rintro e w7 ⟨v1, va1, rfl, ho7, ha7, hb7⟩
    clear hat6
    obtain ⟨oa7, cap7, hv7⟩ := own_form3 ho7
    subst hv7
    obtain ⟨ob7, cbp7, hv7⟩ := own_form3 ha7
    subst hv7
    have hk7 := hide (AJ.new (n := jn) (t := jt) (v0 := jv) (s := js) (u := ju) ho7 ha7)
    have hb78 := hb7.trans (((Below.refl w7.heap.size w7).alloc (Nat.le_refl _) (.cells (jcells jn jt jv js ju (.slice oa7 N cap7)) 30)).mono hb7.size)
    have hz7 := hb7.size
    clear ho7 ha7 hb7
    have LD18 := hide (LD15.out.on hb78)
    have BB19 := hide (BB16.out.trans (hb78.mono BB16.out.size))
    have K020 := hide (K017.out.on hb78)
    have DV21 := hide (hd5.out.on' hb78)
    have XR22 := hide (own_below hx5.out hb78)
    clear hb78 LD15 BB16 K017 hd5 hx5
    have x0 := hk7.out.kj.blk.jv.c0
    have x1 := hk7.out.kj.blk.jv.c1
    have x2 := hk7.out.kj.blk.jv.c2
    have x3 := hk7.out.kj.blk.jv.c3
    have x4 := hk7.out.kj.blk.jv.c4
    have x5 := hk7.out.kj.blk.jv.c5
    have y0 := K020.out.kj.blk.jv.c0
    have y1 := K020.out.kj.blk.jv.c1
    have y2 := K020.out.kj.blk.jv.c2
    have y3 := K020.out.kj.blk.jv.c3
    have y4 := K020.out.kj.blk.jv.c4
    have y5 := K020.out.kj.blk.jv.c5
    go_wp2_with fail
    generalize w7.alloc (Obj.cells #[Value.int IntKind.i64 jn, Value.int IntKind.i64 jt, Value.int IntKind.i64 jv, Value.int IntKind.i64 js, Value.int IntKind.i64 ju, Value.slice oa7 N cap7] 30) = w8 at LD18 BB19 K020 DV21 XR22 hk7 x0 x1 x2 x3 x4 x5 y0 y1 y2 y3 y4 y5 ⊢
    clear x0 x1 x2 x3 x4 x5 y0 y1 y2 y3 y4 y5
    obtain ⟨_, _, heA, hatA⟩ := entsAt_own hk7.out.kj.own
    cases heA
    obtain ⟨_, _, heB, hatB⟩ := entsAt_own K020.out.kj.own
    cases heB
    refine (eqJournal_same jn jt jv js ju _ N _ _ _ es (by omega) _ hatA hatB).mono ?_
    rintro e w9 ⟨rfl, hbq⟩
    clear hatA hatB
    have LD23 := hide (LD18.out.on hbq)
    have BB24 := hide (BB19.out.trans (hbq.mono BB19.out.size))
    have K025 := hide (K020.out.on hbq)
    have DV26 := hide (DV21.out.on' hbq)
    have XR27 := hide (own_below XR22.out hbq)
    have K128 := hide (hk7.out.on hbq)
    clear hbq LD18 BB19 K020 DV21 XR22 hk7
    go_wp2_with fail
    obtain ⟨_, _, heA, hatA⟩ := aksAt_own K128.out.ac
    cases heA
    obtain ⟨_, _, heB, hatB⟩ := aksAt_own K025.out.ac
    cases heB
    refine (eqActK_S _ M _ _ _ A (by omega) _ hatA hatB).mono ?_
    rintro e w10 ⟨rfl, hbq⟩
    clear hatA hatB
    have LD29 := hide (LD23.out.on hbq)
    have BB30 := hide (BB24.out.trans (hbq.mono BB24.out.size))
    have K031 := hide (K025.out.on hbq)
    have DV32 := hide (DV26.out.on' hbq)
    have XR33 := hide (own_below XR27.out hbq)
    have K134 := hide (K128.out.on hbq)
    clear hbq LD23 BB24 K025 DV26 XR27 K128
    go_wp2_with fail
    have c6 := LD29.out.cell
    have d6 := DV32.out.cell
    have hlt6 := LD29.out.lt
    have s6 := DV32.out.lt
    obtain ⟨oa6, cap6, he6, hat6⟩ := filesAt_of_own XR33.out
    cases he6
    have HAT4 := hide hat6
    clear hat6
    go_region_held3 (fun w' => w'.cell? ⟨w.heap.size, 0, none⟩ = some (.slice oa n cap) ∧ w'.cell? ⟨w5.heap.size, 0, none⟩ = some (.slice (some ⟨g5, 0, none⟩) n n)) (first | go_keep | exact ⟨(hb71.cell (by simpa using hlt6)).trans c6, (hb71.cell (by simpa using s6)).trans d6⟩ | exact ⟨(hb72.cell (Nat.lt_of_lt_of_le hlt6 hb71.size)).trans ((hb71.cell (by simpa using hlt6)).trans c6), (hb72.cell (Nat.lt_of_lt_of_le s6 hb71.size)).trans ((hb71.cell (by simpa using s6)).trans d6)⟩)
      (first
        | (go_at_call 6; refine (toDisk_any oa n cap fs hn20 _ (HAT.out.below BB30.out.drew)).mono ?_; rintro e w71 ⟨g71, rfl, hown71, hb71⟩; obtain ⟨oa71, cap71, he71, hat71⟩ := filesAt_of_own hown71; cases he71; have HAT7 := hide hat71; clear hown71 hat71)
        | (go_at_call 10; refine (eqDisk_any _ n _ fs _ n _ fs hn20 _ ((HAT4.out.below (Below.refl _ _).drew).below hb71) HAT7.out).mono ?_; rw [decide_eq_true (rfl : fs = fs)]; rintro e w72 ⟨rfl, hb72⟩))
    have hb73 : Below w10.heap.size w10 w72 := ((Below.refl w10.heap.size w10).drew.trans hb71).trans (hb72.mono hb71.size)
    clear hb71 hb72 HAT4 HAT7 c6 d6 hlt6 s6
    have LD35 := hide (LD29.out.on hb73)
    have BB36 := hide (BB30.out.trans (hb73.mono BB30.out.size))
    have K037 := hide (K031.out.on hb73)
    have DV38 := hide (DV32.out.on' hb73)
    have XR39 := hide (own_below XR33.out hb73)
    have K140 := hide (K134.out.on hb73)
    clear hb73 LD29 BB30 K031 DV32 XR33 K134
    have dv := DV38.out.cell
    go_wp2_with fail
    clear dv
    refine (markDisk_any _ n _ 1 hn20 (by omega) _ _ XR39.out).mono ?_
    rintro e w11 ⟨rfl, ho11, hg11⟩
    have LD41 := hide (LD35.out.row XR39.out (by decide) hg11)
    have BB42 := hide (BB36.out.grown hg11 BB36.out.size (fun q hq => Nat.le_trans hz4 (XR39.out.lt q hq).1))
    have K043 := hide (K037.out.file XR39.out hg11)
    have DV44 := hide (DV38.out.kept hg11 (dv_row DV38.out XR39.out (by decide)))
    have XR45 := hide (ho11)
    have K146 := hide (K140.out.file XR39.out hg11)
    clear ho11 hg11 LD35 BB36 K037 DV38 XR39 K140
    have x0 := K146.out.kj.blk.jv.c0
    have x1 := K146.out.kj.blk.jv.c1
    have x2 := K146.out.kj.blk.jv.c2
    have x3 := K146.out.kj.blk.jv.c3
    have x4 := K146.out.kj.blk.jv.c4
    have x5 := K146.out.kj.blk.jv.c5
    have y0 := K043.out.kj.blk.jv.c0
    have y1 := K043.out.kj.blk.jv.c1
    have y2 := K043.out.kj.blk.jv.c2
    have y3 := K043.out.kj.blk.jv.c3
    have y4 := K043.out.kj.blk.jv.c4
    have y5 := K043.out.kj.blk.jv.c5
    go_wp2_with fail
    clear x0 x1 x2 x3 x4 x5 y0 y1 y2 y3 y4 y5
    obtain ⟨_, _, heA, hatA⟩ := entsAt_own K146.out.kj.own
    cases heA
    obtain ⟨_, _, heB, hatB⟩ := entsAt_own K043.out.kj.own
    cases heB
    refine (eqJournal_same jn jt jv js ju _ N _ _ _ es (by omega) _ hatA hatB).mono ?_
    rintro e w12 ⟨rfl, hbq⟩
    clear hatA hatB
    have LD47 := hide (LD41.out.on hbq)
    have BB48 := hide (BB42.out.trans (hbq.mono BB42.out.size))
    have K049 := hide (K043.out.on hbq)
    have DV50 := hide (DV44.out.on' hbq)
    have XR51 := hide (own_below XR45.out hbq)
    have K152 := hide (K146.out.on hbq)
    clear hbq LD41 BB42 K043 DV44 XR45 K146
    go_wp2_with fail
    obtain ⟨_, _, heA, hatA⟩ := aksAt_own K152.out.ac
    cases heA
    obtain ⟨_, _, heB, hatB⟩ := aksAt_own K049.out.ac
    cases heB
    refine (eqActK_S _ M _ _ _ A (by omega) _ hatA hatB).mono ?_
    rintro e w13 ⟨rfl, hbq⟩
    clear hatA hatB
    have LD53 := hide (LD47.out.on hbq)
    have BB54 := hide (BB48.out.trans (hbq.mono BB48.out.size))
    have K055 := hide (K049.out.on hbq)
    have DV56 := hide (DV50.out.on' hbq)
    have XR57 := hide (own_below XR51.out hbq)
    have K158 := hide (K152.out.on hbq)
    clear hbq LD47 BB48 K049 DV50 XR51 K152
    have x0 := K158.out.kj.blk.jv.c0
    have x1 := K158.out.kj.blk.jv.c1
    have x2 := K158.out.kj.blk.jv.c2
    have x3 := K158.out.kj.blk.jv.c3
    have x4 := K158.out.kj.blk.jv.c4
    have x5 := K158.out.kj.blk.jv.c5
    go_wp2_with fail
    clear x0 x1 x2 x3 x4 x5
    refine (markJournal_any jn jt jv js ju _ N _ 1 (by omega) (by omega) w13 es K158.out.kj.own).mono ?_
    rintro e w14 ⟨rfl, ho14, hg14⟩
    have LD59 := hide (LD53.out.row K158.out.kj.own (by decide) hg14)
    have BB60 := hide (BB54.out.grown hg14 BB54.out.size (fun q hq => Nat.le_trans hz6 (K158.out.kj.own.lt q hq).1))
    have K061 := hide (K055.out.other_ents K158.out (Nat.le_of_lt hle6) hg14)
    have DV62 := hide (DV56.out.kept hg14 (dv_row DV56.out K158.out.kj.own (by decide)))
    have XR63 := hide (own_stays XR57.out K158.out.kj.own (by decide) hg14)
    have K164 := hide (K158.out.ents ho14 hg14)
    clear ho14 hg14 LD53 BB54 K055 DV56 XR57 K158
    go_wp2_with fail
    refine (markActK_any _ M _ (1 + 3 * N) (by omega) (by omega) w14 A K164.out.ac).mono ?_
    rintro e w15 ⟨rfl, ho15, hg15⟩
    have LD65 := hide (LD59.out.row K164.out.ac (by decide) hg15)
    have BB66 := hide (BB60.out.grown hg15 BB60.out.size (fun q hq => Nat.le_trans hz6 (K164.out.ac.lt q hq).1))
    have K067 := hide (K061.out.other_acts K164.out (Nat.le_of_lt hle6) hg15)
    have DV68 := hide (DV62.out.kept hg15 (dv_row DV62.out K164.out.ac (by decide)))
    have XR69 := hide (own_stays XR63.out K164.out.ac (by decide) hg15)
    have K170 := hide (K164.out.acts ho15 hg15)
    clear ho15 hg15 LD59 BB60 K061 DV62 XR63 K164
    have x0 := K170.out.kj.blk.jv.c0
    have x1 := K170.out.kj.blk.jv.c1
    have x2 := K170.out.kj.blk.jv.c2
    have x3 := K170.out.kj.blk.jv.c3
    have x4 := K170.out.kj.blk.jv.c4
    have x5 := K170.out.kj.blk.jv.c5
    go_wp2_with fail
    clear x0 x1 x2 x3 x4 x5
    obtain ⟨_, _, heA, hatA⟩ := entsAt_own K170.out.kj.own
    cases heA
    refine (heldJournal_any jn jt jv js ju _ N _ 1 (by omega) (by omega) _ hatA).mono ?_
    rintro e w16 ⟨rfl, hbq⟩
    clear hatA
    have LD71 := hide (LD65.out.on hbq)
    have BB72 := hide (BB66.out.trans (hbq.mono BB66.out.size))
    have K073 := hide (K067.out.on hbq)
    have DV74 := hide (DV68.out.on' hbq)
    have XR75 := hide (own_below XR69.out hbq)
    have K176 := hide (K170.out.on hbq)
    clear hbq LD65 BB66 K067 DV68 XR69 K170
    go_wp2_with fail
    obtain ⟨_, _, heA, hatA⟩ := aksAt_own K176.out.ac
    cases heA
    refine (heldActK_any _ M _ (1 + 3 * N) (by omega) (by omega) _ hatA).mono ?_
    rintro e w17 ⟨rfl, hbq⟩
    clear hatA
    have LD77 := hide (LD71.out.on hbq)
    have BB78 := hide (BB72.out.trans (hbq.mono BB72.out.size))
    have K079 := hide (K073.out.on hbq)
    have DV80 := hide (DV74.out.on' hbq)
    have XR81 := hide (own_below XR75.out hbq)
    have K182 := hide (K176.out.on hbq)
    clear hbq LD71 BB72 K073 DV74 XR75 K176
    have dl := LD77.out.cell
    go_wp2_with fail
    clear dl
    refine (toDisk_any oa n cap fs hn20 _ (HAT.out.below BB78.out)).mono ?_
    rintro e w18 ⟨g18, rfl, ho18, hb18⟩
    obtain ⟨oa18, cap18, he18, hat18⟩ := filesAt_of_own ho18
    cases he18
    have LD83 := hide (LD77.out.on hb18)
    have BB84 := hide (BB78.out.trans (hb18.mono BB78.out.size))
    have K085 := hide (K079.out.on hb18)
    have DV86 := hide (DV80.out.on' hb18)
    have XR87 := hide (own_below XR81.out hb18)
    have K188 := hide (K182.out.on hb18)
    clear hb18 LD77 BB78 K079 DV80 XR81 K182
    go_wp2_with fail
    refine (HIM.out _ _ _ hat18 (tab_below HT.out BB84.out) (tab_below HP.out BB84.out) (HER.out.on BB84.out)).mono ?_
    rintro e w19 ⟨v9, va9, rfl, ho19, ha19, hb19⟩
    clear hat18 ho18
    obtain ⟨oa19, cap19, hv19⟩ := own_form3 ho19
    subst hv19
    obtain ⟨ob19, cbp19, hv19⟩ := own_form3 ha19
    subst hv19
    have hk19 := hide (AJ.new (n := jn) (t := jt) (v0 := jv) (s := js) (u := ju) ho19 ha19)
    have hb20 := hb19.trans (((Below.refl w19.heap.size w19).alloc (Nat.le_refl _) (.cells (jcells jn jt jv js ju (.slice oa19 N cap19)) 30)).mono hb19.size)
    clear ho19 ha19 hb19
    have LD89 := hide (LD83.out.on hb20)
    have BB90 := hide (BB84.out.trans (hb20.mono BB84.out.size))
    have K091 := hide (K085.out.on hb20)
    have DV92 := hide (DV86.out.on' hb20)
    have XR93 := hide (own_below XR87.out hb20)
    have K194 := hide (K188.out.on hb20)
    clear hb20 LD83 BB84 K085 DV86 XR87 K188
    have x0 := hk19.out.kj.blk.jv.c0
    have x1 := hk19.out.kj.blk.jv.c1
    have x2 := hk19.out.kj.blk.jv.c2
    have x3 := hk19.out.kj.blk.jv.c3
    have x4 := hk19.out.kj.blk.jv.c4
    have x5 := hk19.out.kj.blk.jv.c5
    have y0 := K091.out.kj.blk.jv.c0
    have y1 := K091.out.kj.blk.jv.c1
    have y2 := K091.out.kj.blk.jv.c2
    have y3 := K091.out.kj.blk.jv.c3
    have y4 := K091.out.kj.blk.jv.c4
    have y5 := K091.out.kj.blk.jv.c5
    go_wp2_with fail
    generalize w19.alloc (Obj.cells #[Value.int IntKind.i64 jn, Value.int IntKind.i64 jt, Value.int IntKind.i64 jv, Value.int IntKind.i64 js, Value.int IntKind.i64 ju, Value.slice oa19 N cap19] 30) = w20 at LD89 BB90 K091 DV92 XR93 K194 hk19 x0 x1 x2 x3 x4 x5 y0 y1 y2 y3 y4 y5 ⊢
    clear x0 x1 x2 x3 x4 x5 y0 y1 y2 y3 y4 y5
    obtain ⟨_, _, heA, hatA⟩ := entsAt_own hk19.out.kj.own
    cases heA
    obtain ⟨_, _, heB, hatB⟩ := entsAt_own K091.out.kj.own
    cases heB
    refine (eqJournal_same jn jt jv js ju _ N _ _ _ es (by omega) _ hatA hatB).mono ?_
    rintro e w21 ⟨rfl, hbq⟩
    clear hatA hatB
    have K295 := hide (hk19.out.on hbq)
    clear hk19
    have LD96 := hide (LD89.out.on hbq)
    have BB97 := hide (BB90.out.trans (hbq.mono BB90.out.size))
    have K098 := hide (K091.out.on hbq)
    have DV99 := hide (DV92.out.on' hbq)
    have XR100 := hide (own_below XR93.out hbq)
    have K1101 := hide (K194.out.on hbq)
    clear hbq LD89 BB90 K091 DV92 XR93 K194
    go_wp2_with fail
    obtain ⟨_, _, heA, hatA⟩ := aksAt_own K295.out.ac
    cases heA
    obtain ⟨_, _, heB, hatB⟩ := aksAt_own K098.out.ac
    cases heB
    refine (eqActK_S _ M _ _ _ A (by omega) _ hatA hatB).mono ?_
    rintro e w22 ⟨rfl, hbq⟩
    clear hatA hatB
    have K2102 := hide (K295.out.on hbq)
    clear K295
    have LD103 := hide (LD96.out.on hbq)
    have BB104 := hide (BB97.out.trans (hbq.mono BB97.out.size))
    have K0105 := hide (K098.out.on hbq)
    have DV106 := hide (DV99.out.on' hbq)
    have XR107 := hide (own_below XR100.out hbq)
    have K1108 := hide (K1101.out.on hbq)
    clear hbq LD96 BB97 K098 DV99 XR100 K1101
    have x0 := K1108.out.kj.blk.jv.c0
    have x1 := K1108.out.kj.blk.jv.c1
    have x2 := K1108.out.kj.blk.jv.c2
    have x3 := K1108.out.kj.blk.jv.c3
    have x4 := K1108.out.kj.blk.jv.c4
    have x5 := K1108.out.kj.blk.jv.c5
    go_wp2_with fail
    clear x0 x1 x2 x3 x4 x5
    obtain ⟨_, _, heA, hatA⟩ := entsAt_own K1108.out.kj.own
    cases heA
    refine (heldJournal_any jn jt jv js ju _ N _ 1 (by omega) (by omega) _ hatA).mono ?_
    rintro e w23 ⟨rfl, hbq⟩
    clear hatA
    have K2109 := hide (K2102.out.on hbq)
    clear K2102
    have LD110 := hide (LD103.out.on hbq)
    have BB111 := hide (BB104.out.trans (hbq.mono BB104.out.size))
    have K0112 := hide (K0105.out.on hbq)
    have DV113 := hide (DV106.out.on' hbq)
    have XR114 := hide (own_below XR107.out hbq)
    have K1115 := hide (K1108.out.on hbq)
    clear hbq LD103 BB104 K0105 DV106 XR107 K1108
    go_wp2_with fail
    obtain ⟨_, _, heA, hatA⟩ := aksAt_own K1115.out.ac
    cases heA
    refine (heldActK_any _ M _ (1 + 3 * N) (by omega) (by omega) _ hatA).mono ?_
    rintro e w24 ⟨rfl, hbq⟩
    clear hatA
    have K2116 := hide (K2109.out.on hbq)
    clear K2109
    have LD117 := hide (LD110.out.on hbq)
    have BB118 := hide (BB111.out.trans (hbq.mono BB111.out.size))
    have K0119 := hide (K0112.out.on hbq)
    have DV120 := hide (DV113.out.on' hbq)
    have XR121 := hide (own_below XR114.out hbq)
    have K1122 := hide (K1115.out.on hbq)
    clear hbq LD110 BB111 K0112 DV113 XR114 K1115
    go_wp2_with fail
    go_ret
    exact ⟨rfl, BB118.out⟩

end Go.Proofs.YthbgklmnmoclhaaGreatDoor

namespace Go.Proofs.YthbgklmnmoclhaaGreatDoor
open Go.RowKit Go.Deep Go.ChangeShapes Go.WideShapes P5 K
set_option linter.unusedVariables false

section
variable {H : Type} {enc : TypeId × Value → H} {P : Program} {w : World} {base : Nat} {spare : Nat → Bool} {held : Bool}

theorem open_agg1 {r : Reach} {b0 : Nat} {t : TypeId} {f0 : Field} {v : Value} {d : DataW H} {p : List MemPlace} (hs : P.underlying t = some (.struct #[f0])) (o0 : f0.offset = 0) (k0 : P.cellsOf f0.type = 1) (hC : P.cellsOf t = 1)
    (hv : Value.okWide P w r b0 t v) (h : DataW.Trod enc P w base spare held t v d p) :
    ∃ (v0 : Value) (y0 : DataW H × List MemPlace) (n : Nat), v = .agg #[v0] ∧ DataW.trod enc P w base spare held n f0.type [v0] = some y0 := by
  obtain ⟨cs, rfl, hsz⟩ := okWide_struct hs hv
  rw [hC] at hsz
  obtain ⟨c0, rfl⟩ : ∃ c, cs = #[c] := by
    obtain ⟨l⟩ := cs
    match l, hsz with
    | [c], _ => exact ⟨c, rfl⟩
  obtain ⟨fuel, hf⟩ := h
  obtain ⟨xs, n, _, _, _, hxl, hff⟩ := DataW.trod_struct hs hf
  have h0 := hff 0 f0 rfl
  match xs, hxl with
  | [y], _ =>
    simp [o0, k0, Value.cells] at h0
    exact ⟨c0, y, n, rfl, h0⟩

/-- Files that came in, at every index, as a list. -/
theorem filesAt_of_fn {a : Addr} {len cap : Nat} {F : Nat → FileV} (hl : len ≤ cap) (hm : cap ≤ maxLen)
    (h : ∀ i, i < len → (∀ j, j < 3 → w.cell? (a.add (i * 3 + j)) = (fcells (F i))[j]?) ∧ (F i).name.length ≤ maxLen ∧ (F i).text.length ≤ maxLen ∧ (Lit.int .i64 (F i).kept).wf = true) :
    FilesAt w (some a) len cap ((List.range len).map F) ∧ ∀ f ∈ (List.range len).map F, Wide f := by
  refine ⟨⟨by simp, hl, hm, fun i f hf => ?_⟩, fun f hf => ?_⟩
  · have hi : i < len := by simpa using (List.getElem?_eq_some_iff.1 hf).1
    have hfe : F i = f := by simpa [hi] using hf
    subst hfe
    have hsp : a.spot = none := by
      have h1 := (h 0 (by omega)).1 0 (by omega)
      have h2 : w.cell? a = some (.string ⟨(F 0).name.toArray⟩) := by simpa [Addr.add, fcells] using h1
      exact cell_spot h2
    obtain ⟨b, o, s⟩ := a
    simp only at hsp
    subst hsp
    refine ⟨b, o, rfl, fun j u hu => ?_⟩
    have hj : j < 3 := by simpa [fcells] using (List.getElem?_eq_some_iff.1 hu).1
    have h1 := (h i hi).1 j hj
    rw [Addr.add_mid, hu] at h1
    rw [Nat.add_assoc]
    exact h1
  · obtain ⟨i, hi, rfl⟩ := List.mem_map.1 hf
    exact (h i (by simpa using hi)).2

theorem open_disk {r : Reach} {b0 : Nat} {tD t e tS tI : TypeId} {fD f0 f1 f2 : Field} {v : Value} {d : DataW H} {p : List MemPlace} (hD : P.underlying tD = some (.struct #[fD])) (oD : fD.offset = 0) (yD : fD.type = t) (kD : P.cellsOf t = 1) (cD : P.cellsOf tD = 1)
    (ht : P.underlying t = some (.slice e)) (he : P.underlying e = some (.struct #[f0, f1, f2])) (hS : P.underlying tS = some .string) (hI : P.underlying tI = some (.int .i64)) (t0 : f0.type = tS) (t1 : f1.type = tS) (t2 : f2.type = tI) (o0 : f0.offset = 0) (o1 : f1.offset = 1) (o2 : f2.offset = 2)
    (ce : P.cellsOf e = 3) (cS : P.cellsOf tS = 1) (cI : P.cellsOf tI = 1) (hv : Value.okWide P w r b0 tD v) (h : DataW.Trod enc P w base (fun _ => true) held tD v d p) :
    ∃ (oa : Option Addr) (n cap : Nat) (fs : List FileV), v = .agg #[.slice oa n cap] ∧ FilesAt w oa n cap fs ∧ ∀ f ∈ fs, Wide f := by
  obtain ⟨v0, y0, n, rfl, h0⟩ := open_agg1 hD oD (yD ▸ kD) cD hv h
  rw [yD] at h0
  rcases open_files ht he hS hI t0 t1 t2 o0 o1 o2 ce cS cI h0 with h1 | ⟨a, len, cap, F, h1, hl, hm, hF⟩
  · cases h1
    exact ⟨none, 0, 0, [], rfl, ⟨rfl, Nat.le_refl _, by unfold maxLen; omega, fun i f hf => by simp at hf⟩, fun f hf => by simp at hf⟩
  · cases h1
    obtain ⟨h2, h3⟩ := filesAt_of_fn hl hm hF
    exact ⟨some a, len, cap, _, rfl, h2, h3⟩
end

set_option maxRecDepth 100000 in
/-- At this translation. -/
theorem disk_in {H : Type} {enc : TypeId × Value → H} {W : World} {r : Reach} {b0 : Nat} {v : Value} {d : DataW H} {p : List MemPlace} (hv : Value.okWide Tryz.prog W r b0 24 v) (h : DataW.Trod enc Tryz.prog W 0 (fun _ => true) true 24 v d p) :
    ∃ (oa : Option Addr) (n cap : Nat) (fs : List FileV), v = .agg #[.slice oa n cap] ∧ FilesAt W oa n cap fs ∧ ∀ f ∈ fs, Wide f :=
  open_disk (tD := 24) (t := 22) (e := 73) (tS := 9) (tI := 3) Tryz.underlying24 rfl rfl (by kernel_rfl) (by kernel_rfl) Tryz.underlying22 Tryz.underlying73 Tryz.underlying9 Tryz.underlying3 rfl rfl rfl rfl rfl rfl (by kernel_rfl) (by kernel_rfl) (by kernel_rfl) hv h

end Go.Proofs.YthbgklmnmoclhaaGreatDoor
