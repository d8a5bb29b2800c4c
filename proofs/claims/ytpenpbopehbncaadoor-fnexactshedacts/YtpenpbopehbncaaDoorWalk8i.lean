/-
  Walks of chapter 8: NewestSnap of the program (made by wip/tools/gen8i.py).
-/
import Derived.Test.YtpenpbopehbncaaDoorWalk8h
namespace Go.Proofs.YtpenpbopehbncaaDoor
open Go.RowKit P1 P3 P5 P9 P11 K
attribute [local go_sem ↓] Go.wp_at_zero Go.wp_at_succ
set_option linter.unusedVariables false
set_option linter.unusedSimpArgs false

/-- A disk in a variable. -/
def DV8 (w : World) (b : Nat) (x : Value) : Prop := w.heap[b]? = some (.cells #[x] 47 (0, 0))
theorem DV8.lt {w : World} {b : Nat} {x : Value} (h : DV8 w b x) : b < w.heap.size := blk_lt h
theorem DV8.on {w w' : World} {b B : Nat} {x : Value} (h : DV8 w b x) (hb : Below B w w') (hlt : b < B) : DV8 w' b x := (hb.block b hlt).trans h
theorem DV8.cell {w : World} {b : Nat} {x : Value} (h : DV8 w b x) : w.cell? ⟨b, 0, none⟩ = some x := blk_cell h 0 rfl
theorem DV8.kept {w w' : World} {b : Nat} {row : Option Nat} {x : Value} (h : DV8 w b x) (hg : w.grownBy w' row) (hne : row ≠ some b) : DV8 w' b x := (hg.block b h.lt (fun e => hne e.symm)).trans h

/-- On the way: the disk, the result's variable, the newest one so far. -/
structure NwS (w W : World) (bb : Nat) (dx : Value) (m : SnV) (v : Value) : Prop where
  d : DV8 W w.heap.size dx
  r : SB W (w.heap.size + 1) 0 0 (.slice none 0 0) []
  e : SB W bb m.index m.term v m.body
  own : W.ownsRow w.heap.size 3 1 v m.conf.length (m.conf.map icell)
  below : Below w.heap.size w W
  hbb : w.heap.size + 1 < bb

section
variable {w W W' : World} {bb : Nat} {dx : Value} {m : SnV} {v : Value}
theorem NwS.sz (h : NwS w W bb dx m v) : w.heap.size + 1 < W.heap.size := Nat.lt_trans h.hbb h.e.lt
theorem NwS.on (h : NwS w W bb dx m v) (hb : Below W.heap.size W W') : NwS w W' bb dx m v :=
  ⟨h.d.on hb h.d.lt, h.r.on hb h.r.lt, h.e.on hb h.e.lt, own_below h.own hb, h.below.trans (hb.mono (by have := h.sz; omega)), h.hbb⟩
/-- A newer one takes its place. -/
theorem NwS.take (h : NwS w W bb dx m v) (m' : SnV) (v' : Value) (ho : W.ownsRow w.heap.size 3 1 v' m'.conf.length (m'.conf.map icell)) :
    ∃ W', (((W.setCell ⟨bb, 0, none⟩ (.int .i64 m'.index)).setCell ⟨bb, 1, none⟩ (.int .i64 m'.term)).setCell ⟨bb, 2, none⟩ v').setCell ⟨bb, 3, none⟩ (.string ⟨m'.body.toArray⟩) = W' ∧ NwS w W' bb dx m' v' := by
  obtain ⟨h1, h2⟩ := h.e.all m'.index m'.term v' m'.body
  have hb := h.hbb
  refine ⟨_, rfl, ⟨h.d.kept h2 (fun q => by have := Option.some.inj q; omega), h.r.kept h2 (fun q => by have := Option.some.inj q; omega), h1, ho.kept h2 ?_, h.below.grown h2 (by have := h.sz; omega) (fun k hk => by cases hk; omega), h.hbb⟩⟩
  exact Or.inr (fun q => (sb_row h.e ho (by decide)) q)
/-- It is handed back. -/
theorem NwS.give (h : NwS w W bb dx m v) (i t : Int) (x : Value) (b : List UInt8) :
    ∃ W', (((W.setCell ⟨w.heap.size + 1, 0, none⟩ (.int .i64 i)).setCell ⟨w.heap.size + 1, 1, none⟩ (.int .i64 t)).setCell ⟨w.heap.size + 1, 2, none⟩ x).setCell ⟨w.heap.size + 1, 3, none⟩ (.string ⟨b.toArray⟩) = W' ∧ SV W' (w.heap.size + 1) i t x b ∧ Below w.heap.size w W' ∧ W'.ownsRow w.heap.size 3 1 v m.conf.length (m.conf.map icell) := by
  obtain ⟨h1, h2⟩ := h.r.all i t x b
  refine ⟨_, rfl, h1.sv, h.below.grown h2 (by have := h.sz; omega) (fun k hk => by cases hk; omega), h.own.kept h2 ?_⟩
  exact Or.inr (fun q => (sb_row h.r h.own (by decide)) q)
end

def nwV (i0 : Int) (m : Option SnV) : SnV := m.getD ⟨i0, 0, [], []⟩

theorem RsPost.nw0 {r : Int × Int × List Int × List UInt8 × Bool} {w w' : World} (h : r = (0, 0, [], [], false)) (hb : Below w.heap.size w w') : RsPost r w (.returned (.tuple #[snval 0 0 (.slice none 0 0) [], .bool false])) w' := by
  rw [h]
  exact ⟨_, rfl, World.ownsRow_nil _ _ _ _, hb⟩
theorem RsPost.nw {r : Int × Int × List Int × List UInt8 × Bool} {m : SnV} {ok : Bool} {v : Value} {w w' : World} (h : r = (m.index, m.term, m.conf, m.body, ok)) (ho : w'.ownsRow w.heap.size 3 1 v m.conf.length (m.conf.map icell)) (hb : Below w.heap.size w w') : RsPost r w (.returned (.tuple #[snval m.index m.term v m.body, .bool ok])) w' := by
  rw [h]
  exact ⟨_, rfl, ho, hb⟩

theorem rs_no {l : List UInt8} (h : rdSnap l = none) : rsR l = (0, 0, [], [], false) := by unfold rsR; rw [h]
theorem rs_yes {l b : List UInt8} {i t : Nat} {z : List Int} (h : rdSnap l = some (i, t, z, b)) : rsR l = (↑i, ↑t, z, b, true) := by unfold rsR; rw [h]

set_option maxHeartbeats 8000000 in
theorem implNewestSnap_any (oa : Option Addr) (n cap : Nat) (fs : List FileV) (w : World) (hat : FilesAt w oa n cap fs) (hw : ∀ f ∈ fs, Fine f) (htb : SumTabIs w) (hpw : Pow8 w) :
    Calls Tryd.prog 30 #[.agg #[.slice oa n cap]] w fun e w' => RsPost (nwR fs) w e w' := by
  have hlen := hat.len
  have hb1 := (Below.refl w.heap.size w).alloc (Nat.le_refl _) (.cells #[.slice oa n cap] 47)
  have hb2 := hb1.alloc (by simp) (.cells (sncells 0 0 (.slice none 0 0) []) 30)
  have HDO := hide (implDiskOk_any oa n cap fs _ (hat.below hb2) hw)
  have HD2 := hide (show DV8 ((w.alloc (.cells #[.slice oa n cap] 47)).alloc (.cells (sncells 0 0 (.slice none 0 0) []) 30)) w.heap.size (.slice oa n cap) from DV8.on (show DV8 (w.alloc (.cells #[.slice oa n cap] 47)) w.heap.size (.slice oa n cap) from heap_alloc_new _ _) ((Below.refl _ _).alloc (Nat.le_refl _) _) (by simp))
  have HR2 := hide (show SB ((w.alloc (.cells #[.slice oa n cap] 47)).alloc (.cells (sncells 0 0 (.slice none 0 0) []) 30)) (w.heap.size + 1) 0 0 (.slice none 0 0) [] by
    have := SB.new (w.alloc (.cells #[.slice oa n cap] 47)) 0 0 (.slice none 0 0) []
    simpa using this)
  have HZ2 := hide (show ((w.alloc (.cells #[.slice oa n cap] 47)).alloc (.cells (sncells 0 0 (.slice none 0 0) []) 30)).heap.size = w.heap.size + 1 + 1 by simp)
  have HB2 := hide hb2
  have HAT := hide hat
  have HTB := hide htb
  have HPW := hide hpw
  clear hat hb1 hb2 htb hpw hw
  cases hd : diskOk fs with
  | false =>
    have HNR := hide (show nwR fs = (0, 0, [], [], false) by unfold nwR; rw [hd]; rfl)
    rw [hd] at HDO
    clear hd
    go_enter Tryd.func30, Tryd.ntmps30
    go_wp2_with fail
    refine HDO.out.mono ?_
    generalize (w.alloc (.cells #[.slice oa n cap] 47)).alloc (.cells (sncells 0 0 (.slice none 0 0) []) 30) = w2 at HD2 HR2 HZ2 HB2
    rintro e w3 ⟨rfl, hb3⟩
    have hz2 := HZ2.out
    have HR3 := hide (HR2.out.on hb3 HR2.out.lt)
    have HB3 := hide (HB2.out.trans (hb3.mono (by omega)))
    have hs3 := hb3.size
    clear hb3
    obtain ⟨s0, s1, s2, s3⟩ := HR3.out.sv
    have y0 := HR3.out.free 0
    have y1 := HR3.out.free 1
    have y2 := HR3.out.free 2
    have y3 := HR3.out.free 3
    go_wp2_with fail
    obtain ⟨h1, h2⟩ := HR3.out.all 0 0 (.slice none 0 0) []
    have hb4 := HB3.out.grown h2 (by omega) (fun k hk => by cases hk; omega)
    generalize (((w3.setCell ⟨w.heap.size + 1, 0, none⟩ (.int .i64 0)).setCell ⟨w.heap.size + 1, 1, none⟩ (.int .i64 0)).setCell ⟨w.heap.size + 1, 2, none⟩ (.slice none 0 0)).setCell ⟨w.heap.size + 1, 3, none⟩ (.string ⟨List.toArray []⟩) = w4 at h1 hb4 ⊢
    obtain ⟨c0, c1, c2, c3⟩ := h1.sv
    refine bodyPost_ret (v := .tuple #[snval 0 0 (.slice none 0 0) [], .bool false]) (by simp [results, Tryd.results30, go_sem, c0, c1, c2, c3]) rfl ?_
    exact RsPost.nw0 HNR.out hb4
  | true =>
    obtain ⟨hn30, hnm, htx, hasc⟩ := disk_names8 hd
    have HNM := hide hnm
    have HTX := hide htx
    have HSM := hide (best_same hasc)
    have HNR := hide (show nwR fs = match snNewest fs with | none => (0, 0, [], [], false) | some s => (s.index, s.term, s.conf, s.body, true) by unfold nwR; rw [if_pos hd]; cases snNewest fs <;> rfl)
    rw [hd] at HDO
    clear hd hnm htx hasc
    go_enter Tryd.func30, Tryd.ntmps30
    go_wp2_with fail
    refine HDO.out.mono ?_
    generalize (w.alloc (.cells #[.slice oa n cap] 47)).alloc (.cells (sncells 0 0 (.slice none 0 0) []) 30) = w2 at HD2 HR2 HZ2 HB2
    rintro e w3 ⟨rfl, hb3⟩
    have hz2 := HZ2.out
    have hs3 := hb3.size
    have hb4 := (Below.refl w3.heap.size w3).alloc (Nat.le_refl _) (.cells (sncells 0 0 (.slice none 0 0) []) 30)
    have hst : NwS w (w3.alloc (.cells (sncells 0 0 (.slice none 0 0) []) 30)) w3.heap.size (.slice oa n cap) (nwV 0 none) (.slice none 0 0) :=
      ⟨(HD2.out.on hb3 HD2.out.lt).on hb4 (by omega), (HR2.out.on hb3 HR2.out.lt).on hb4 (by omega), SB.new _ _ _ _ _, World.ownsRow_nil _ _ _ _, (HB2.out.trans (hb3.mono (by omega))).alloc (by omega) _, by omega⟩
    have HST := hide hst
    have d0 := hst.d.cell
    clear hb3 hst hb4 HD2 HR2 HB2 HZ2
    go_wp2_with fail
    clear d0
    generalize hbb : w3.heap.size = bb at HST ⊢
    have HBB := hide hbb
    clear hbb
    go_loopw [5, 20] (fun fd i wr => ∃ (k : Nat) (v : Value), i = .int .i64 (k : Int) ∧ fd = .bool ((fs.take k).foldl snBestI none).isSome ∧ k ≤ n ∧ NwS w wr bb (.slice oa n cap) (nwV 0 ((fs.take k).foldl snBestI none)) v) (fun _ i _ => n - (intOf i).toNat)
    case atStart => exact ⟨0, _, rfl, rfl, Nat.zero_le _, HST.out⟩
    case round =>
      obtain ⟨k, v, rfl, rfl, hk, hst⟩ := hrel
      have HS := hide hst
      have HBW := hide hst.below
      by_cases hlt : k < n
      · have k0 : (k : Int) < (n : Int) := by omega
        obtain ⟨f, b, q, hf, hidx, hbk, c0, c1, c2⟩ := (HAT.out.below hst.below).get Tryd.underlying45 infoIF8 k hlt
        have HNX := hide (foldl_next snBestI none hf)
        have hmf := List.mem_of_getElem? hf
        have hnl := HNM.out f hmf
        have htl := HTX.out f hmf
        clear hf hst hmf
        have hcf := (show ∀ y, (fs.take k).foldl snBestI none = some y → y.index ≤ 1000000 ∧ 0 ≤ y.index from fun y hy => by
          rw [HSM.out k] at hy
          obtain ⟨j, g, -, -, hs⟩ := best_from k hy
          exact (snOf_conf hs).2)
        generalize (fs.take k).foldl snBestI none = M at HNX HS hcf ⊢
        have hbf := (Below.refl wr.heap.size wr).alloc (Nat.le_refl _) (.cells #[.string ⟨f.name.toArray⟩, .string ⟨f.text.toArray⟩, .int .i64 f.kept] 89)
        have HS1 := hide (HS.out.on hbf)
        have HF1 := hide (heap_alloc_new wr (.cells #[.string ⟨f.name.toArray⟩, .string ⟨f.text.toArray⟩, .int .i64 f.kept] 89))
        have HIX := hide (fun w ht => indexOf_any f.name (by omega) w ht)
        clear hbf HS HBW
        go_wp2_with fail
        generalize wr.alloc (.cells #[.string ⟨f.name.toArray⟩, .string ⟨f.text.toArray⟩, .int .i64 f.kept] 89) = wf at HS1 HF1 ⊢
        refine (HIX.out _ (tab_below HPW.out HS1.out.below)).mono ?_
        rintro e w5 ⟨x, hx, rfl, hxe, hb5⟩
        have HS5 := hide (HS1.out.on hb5)
        have hf5 := (hb5.block _ (blk_lt HF1.out)).trans HF1.out
        have g0 := blk_cell hf5 0 rfl
        have g1 := blk_cell hf5 1 rfl
        simp only [List.getElem_toArray, List.getElem_cons_zero, List.getElem_cons_succ] at g0 g1
        have HF5 := hide hf5
        clear hb5 hf5 HF1 HS1 hidx hbk c0 c1 c2 HIX
        by_cases hnum : 0 ≤ snNumber f.name
        · have hxn := hxe hnum
          rw [decide_eq_true hnum]
          have HX := hide hxn
          clear hxe hxn
          cases M with
          | none =>
            obtain ⟨e0, e1, e2, e3⟩ := HS5.out.e.sv
            go_wp2_with fail
            have HRS := hide (fun w ht => implReadSnap_any ⟨f.text.toArray⟩ (by rw [size_mk8]; omega) w ht)
            rw [bl_mk8] at HRS
            refine (HRS.out _ (tab_below HTB.out HS5.out.below)).mono ?_
            cases hrd : rdSnap f.text with
            | none =>
              have HSAME := hide (HNX.out.trans (snBestI_none (snOf_none hrd)))
              rw [rs_no hrd]
              clear hrd
              rintro e w6 ⟨v6, rfl, ho6, hb6⟩
              obtain ⟨ov, cv, rfl⟩ := own_slice ho6
              have HS6 := hide ((HS5.out.on hb6).on ((Below.refl w6.heap.size w6).alloc (Nat.le_refl _) (.cells (sncells 0 0 (.slice ov 0 cv) []) 30)))
              clear ho6 hb6
              go_wp2_with fail
              go_roundw
              case rel => exact ⟨k + 1, v, by go_num, by rw [HSAME.out]; rfl, by omega, by rw [HSAME.out]; exact HS6.out⟩
              case measure => simp [intOf]; omega
            | some p =>
              obtain ⟨i, t, z, bd⟩ := p
              rw [rs_yes hrd]
              have hof := snOf_some hrd
              have hib := (rdSnap_bounds hrd).1
              clear hrd
              rintro e w6 ⟨v6, rfl, ho6, hb6⟩
              simp only at ho6
              obtain ⟨ov, cv, rfl⟩ := own_slice ho6
              have hsz6 := hb6.size
              have hz5 := HS5.out.sz
              have hb67 := (Below.refl w6.heap.size w6).alloc (Nat.le_refl _) (.cells (sncells (i : Int) (t : Int) (.slice ov z.length cv) bd) 30)
              have HS6 := hide (HS5.out.on hb6)
              have HS7 := hide ((HS5.out.on hb6).on hb67)
              have HO6 := hide (own_base ho6 (show w.heap.size ≤ w5.heap.size by omega))
              clear ho6 hb6 hb67 HS5 HF5 e0 e1 e2 e3
              obtain ⟨e0, e1, e2, e3⟩ := HS6.out.e.sv
              have f0 := HS6.out.e.free 0
              have f1 := HS6.out.e.free 1
              have f2 := HS6.out.e.free 2
              have f3 := HS6.out.e.free 3
              have hbl := HS6.out.e.lt
              obtain ⟨NZ, hNZ⟩ : ∃ NZ, z.length = NZ := ⟨_, rfl⟩
              rw [hNZ] at HS7 HO6
              rw [hNZ]
              have HNZ := hide hNZ
              clear hNZ
              by_cases hix : i = x
              · subst hix
                have hof2 : snOf f = some ⟨i, t, z, bd⟩ := by rw [hof, if_pos HX.out.symm]
                have HNEW := hide (show (fs.take (k + 1)).foldl snBestI none = some ⟨i, t, z, bd⟩ by rw [HNX.out]; exact snBestI_first hof2)
                clear hof hof2
                go_wp2_with fail
                obtain ⟨w8, hw8, hS8⟩ := HS6.out.take ⟨i, t, z, bd⟩ (.slice ov NZ cv) (by simp only; rw [HNZ.out]; exact HO6.out)
                simp only at hw8
                rw [hw8]
                go_roundw
                case rel => exact ⟨k + 1, _, by go_num, by rw [HNEW.out]; rfl, by omega, by rw [HNEW.out]; exact hS8.on ((Below.refl _ _).alloc (Nat.le_refl _) _)⟩
                case measure => simp [intOf]; omega
              · have q1 : decide ((i : Int) = (x : Int)) = false := by simp; omega
                have q2 : ((i : Int) == (x : Int)) = false := by simp; omega
                have HSAME := hide (HNX.out.trans (snBestI_none (by rw [hof, if_neg (fun h => hix (by have := HX.out; omega))])))
                clear hof
                go_wp2_with fail
                go_roundw
                case rel => exact ⟨k + 1, v, by go_num, by rw [HSAME.out]; rfl, by omega, by rw [HSAME.out]; exact HS7.out⟩
                case measure => simp [intOf]; omega
          | some y =>
            obtain ⟨hy1, hy0⟩ := hcf y rfl
            obtain ⟨e0, e1, e2, e3⟩ := HS5.out.e.sv
            have e0' : w5.cell? ⟨bb, 0, none⟩ = some (.int .i64 y.index) := e0
            clear e0
            by_cases hlt2 : (x : Int) < y.index
            · have hsame : snBestI (some y) f = some y := by
                cases hs : snOf f with
                | none => exact snBestI_none hs
                | some s => rw [snBestI_some hs, if_pos (by have := (snOf_index hs).1; have := HX.out; omega)]
              have HSAME := hide (HNX.out.trans hsame)
              clear hsame
              go_wp2_with fail
              go_roundw
              case rel => exact ⟨k + 1, v, by go_num, by rw [HSAME.out]; rfl, by omega, by rw [HSAME.out]; exact HS5.out⟩
              case measure => simp [intOf]; omega
            · go_wp2_with fail
              have HRS := hide (fun w ht => implReadSnap_any ⟨f.text.toArray⟩ (by rw [size_mk8]; omega) w ht)
              rw [bl_mk8] at HRS
              refine (HRS.out _ (tab_below HTB.out HS5.out.below)).mono ?_
              cases hrd : rdSnap f.text with
              | none =>
                have HSAME := hide (HNX.out.trans (snBestI_none (snOf_none hrd)))
                rw [rs_no hrd]
                clear hrd
                rintro e w6 ⟨v6, rfl, ho6, hb6⟩
                obtain ⟨ov, cv, rfl⟩ := own_slice ho6
                have HS6 := hide ((HS5.out.on hb6).on ((Below.refl w6.heap.size w6).alloc (Nat.le_refl _) (.cells (sncells 0 0 (.slice ov 0 cv) []) 30)))
                clear ho6 hb6
                go_wp2_with fail
                go_roundw
                case rel => exact ⟨k + 1, v, by go_num, by rw [HSAME.out]; rfl, by omega, by rw [HSAME.out]; exact HS6.out⟩
                case measure => simp [intOf]; omega
              | some p =>
                obtain ⟨i, t, z, bd⟩ := p
                rw [rs_yes hrd]
                have hof := snOf_some hrd
                have hib := (rdSnap_bounds hrd).1
                clear hrd
                rintro e w6 ⟨v6, rfl, ho6, hb6⟩
                simp only at ho6
                obtain ⟨ov, cv, rfl⟩ := own_slice ho6
                have hsz6 := hb6.size
                have hz5 := HS5.out.sz
                have hb67 := (Below.refl w6.heap.size w6).alloc (Nat.le_refl _) (.cells (sncells (i : Int) (t : Int) (.slice ov z.length cv) bd) 30)
                have HS6 := hide (HS5.out.on hb6)
                have HS7 := hide ((HS5.out.on hb6).on hb67)
                have HO6 := hide (own_base ho6 (show w.heap.size ≤ w5.heap.size by omega))
                clear ho6 hb6 hb67 HS5 HF5 e0' e1 e2 e3
                obtain ⟨e0, e1, e2, e3⟩ := HS6.out.e.sv
                have f0 := HS6.out.e.free 0
                have f1 := HS6.out.e.free 1
                have f2 := HS6.out.e.free 2
                have f3 := HS6.out.e.free 3
                have hbl := HS6.out.e.lt
                obtain ⟨NZ, hNZ⟩ : ∃ NZ, z.length = NZ := ⟨_, rfl⟩
                rw [hNZ] at HS7 HO6
                rw [hNZ]
                have HNZ := hide hNZ
                clear hNZ
                by_cases hix : i = x
                · subst hix
                  have hof2 : snOf f = some ⟨i, t, z, bd⟩ := by rw [hof, if_pos HX.out.symm]
                  have HNEW := hide (show (fs.take (k + 1)).foldl snBestI none = some ⟨i, t, z, bd⟩ by rw [HNX.out]; rw [snBestI_some hof2, if_neg (by simp only; omega)])
                  clear hof hof2
                  go_wp2_with fail
                  obtain ⟨w8, hw8, hS8⟩ := HS6.out.take ⟨i, t, z, bd⟩ (.slice ov NZ cv) (by simp only; rw [HNZ.out]; exact HO6.out)
                  simp only at hw8
                  rw [hw8]
                  go_roundw
                  case rel => exact ⟨k + 1, _, by go_num, by rw [HNEW.out]; rfl, by omega, by rw [HNEW.out]; exact hS8.on ((Below.refl _ _).alloc (Nat.le_refl _) _)⟩
                  case measure => simp [intOf]; omega
                · have q1 : decide ((i : Int) = (x : Int)) = false := by simp; omega
                  have q2 : ((i : Int) == (x : Int)) = false := by simp; omega
                  have HSAME := hide (HNX.out.trans (snBestI_none (by rw [hof, if_neg (fun h => hix (by have := HX.out; omega))])))
                  clear hof
                  go_wp2_with fail
                  go_roundw
                  case rel => exact ⟨k + 1, v, by go_num, by rw [HSAME.out]; rfl, by omega, by rw [HSAME.out]; exact HS7.out⟩
                  case measure => simp [intOf]; omega
        · have hno := snOf_neg (f := f) (by omega)
          have HSAME := hide (HNX.out.trans (snBestI_none hno))
          rw [decide_eq_false hnum]
          clear hno
          go_wp2_with fail
          go_roundw
          case rel => exact ⟨k + 1, v, by go_num, by rw [HSAME.out], by omega, by rw [HSAME.out]; exact HS5.out⟩
          case measure => simp [intOf]; omega
      · obtain rfl : k = n := by omega
        have k1 : decide ((k : Int) < (k : Int)) = false := by simp
        have RD := hide (show snNewest fs = (fs.take k).foldl snBestI none by rw [HSM.out k, List.take_of_length_le (by omega)]; rfl)
        generalize (fs.take k).foldl snBestI none = M at RD HS
        have HNR2 := hide (show nwR fs = ((nwV 0 M).index, (nwV 0 M).term, (nwV 0 M).conf, (nwV 0 M).body, M.isSome) by rw [HNR.out, RD.out]; cases M <;> rfl)
        clear hst
        generalize nwV 0 M = m at HS HNR2
        generalize M.isSome = ok at HNR2
        obtain ⟨ov, cv, rfl⟩ := own_slice HS.out.own
        obtain ⟨N, hN⟩ : ∃ N, m.conf.length = N := ⟨_, rfl⟩
        rw [hN] at HS
        have HN := hide hN
        clear hN
        obtain ⟨e0, e1, e2, e3⟩ := HS.out.e.sv
        obtain ⟨s0, s1, s2, s3⟩ := HS.out.r.sv
        have y0 := HS.out.r.free 0
        have y1 := HS.out.r.free 1
        have y2 := HS.out.r.free 2
        have y3 := HS.out.r.free 3
        go_wp2_with fail
        obtain ⟨w9, hw9, hS9, hb9, ho9⟩ := HS.out.give m.index m.term (.slice ov N cv) m.body
        rw [hw9]
        obtain ⟨c0, c1, c2, c3⟩ := hS9
        refine bodyPost_ret (v := .tuple #[snval m.index m.term (.slice ov N cv) m.body, .bool ok]) (by simp [results, Tryd.results30, go_sem, c0, c1, c2, c3]) rfl ?_
        exact RsPost.nw HNR2.out ho9 hb9

end Go.Proofs.YtpenpbopehbncaaDoor
