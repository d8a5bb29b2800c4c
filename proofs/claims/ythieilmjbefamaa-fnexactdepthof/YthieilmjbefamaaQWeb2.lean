/-
  Walks and mathematics of Web2.
-/
import Derived.Test.YthieilmjbefamaaQWeb1
import Derived.Test.YthieilmjbefamaaQApart2
import Derived.Laws.Small
namespace Go.Proofs.Ythieilmjbefamaa.P11
end Go.Proofs.Ythieilmjbefamaa.P11
namespace Go.Proofs.Ythieilmjbefamaa.P3
end Go.Proofs.Ythieilmjbefamaa.P3
namespace Go.Proofs.Ythieilmjbefamaa.P9
end Go.Proofs.Ythieilmjbefamaa.P9
namespace Go.Proofs.Ythieilmjbefamaa
open Go.RowKit P1 P3 P5 P9 P11 P12 P14 P15 K
set_option linter.unusedVariables false
set_option linter.unusedSimpArgs false

theorem infoKz : (Try.prog.info? 53).map (fun i => (i.zero, i.size, i.bytes)) = some (some (.pointer none), 1, 8) := by kernel_rfl
theorem infoK1 : (Try.prog.info? 53).map (·.size) = some 1 := by kernel_rfl

theorem WebOk.ptr {w0 wr : World} {B bm m sn : Nat} {T : Int → Option Value} {D : DataW Value} {es : List EvV} {ss : List (List (Int × Int))} (h : WebOk w0 wr B bm T m D es sn ss) {k : Int} {v : Value} (hv : T k = some v) : ∃ e, evFind es k = some e := by
  cases hf : evFind es k with
  | some e => exact ⟨e, rfl⟩
  | none => rw [h.no k hf] at hv; cases hv

abbrev bareCs (vp : Value) : Array Value := knotCs noEv (.slice none 0 0) (.slice none 0 0) vp (.slice none 0 0) false false

theorem own_typedW {w : World} {B : Nat} {e : TypeId} {k : Nat} {v : Value} {n : Nat} {xs : List Value} (h : w.ownsRow B e k v n xs) {g : Nat} (hg : v.ownBlock = some g) {cs : Array Value} {e' : TypeId} {fz : Nat × Nat} (hb : w.heap[g]? = some (.cells cs e' fz)) (hne : e' ≠ e) : False := by
  rcases h.2 with ⟨rfl, -⟩ | ⟨q, cap, cur, rfl, -, hq, -⟩
  · cases hg
  · cases hg
    rw [hq] at hb
    cases hb
    exact hne rfl

theorem own_drewN {w : World} {B : Nat} {e : TypeId} {k : Nat} {v : Value} {n : Nat} {xs : List Value} {q : Nat} (h : w.ownsRow B e k v n xs) : (w.drewN q).ownsRow B e k v n xs := h

def BehPost (T : Int → Option Value) (prev : List Int) (w : World) (r : Ending) (w' : World) : Prop := ∃ kb vp, r = .returned (.tuple #[.pointer (some ⟨kb, 0, none⟩), .bool (decide ((prev.filterMap T).length = prev.length))]) ∧ w.heap.size ≤ kb ∧ w'.heap[kb]? = some (.cells (bareCs vp) 77 (0, 0)) ∧ w'.ownsRow w.heap.size 53 1 vp (prev.filterMap T).length (prev.filterMap T) ∧ Below w.heap.size w w'

set_option maxRecDepth 100000 in
set_option maxHeartbeats 4000000 in
theorem behind_any (w0 : World) (B bm : Nat) (T : Int → Option Value) (m : Nat) (D : DataW Value) (es : List EvV) (sn : Nat) (ss : List (List (Int × Int))) (oa : Option Addr) (n cap : Nat) (oc : Option Addr) (p cc : Nat) (prev : List Int) (hp20 : p ≤ 1048576) (w : World) (hW : WebOk w0 w B bm T m D es sn ss) (hpt : IntsAt w oc p cc prev) :
    Calls Try.prog 26 #[.agg #[.slice oa n cap, .map (some bm)], .slice oc p cc] w (BehPost T prev w) := by
  obtain ⟨W0, hW0⟩ : ∃ W0, (w.alloc (.cells #[.slice oa n cap, .map (some bm)] 57)).alloc (.cells (bareCs (.slice none 0 0)) 77) = W0 := ⟨_, rfl⟩
  have hb0 : Below w.heap.size w W0 := by rw [← hW0]; exact ((Below.refl _ _).alloc (Nat.le_refl _) _).alloc (by simp) _
  have hA0 : W0.heap[w.heap.size]? = some (.cells #[.slice oa n cap, .map (some bm)] 57 (0, 0)) := by
    rw [← hW0]
    exact (((Below.refl _ _).alloc (Nat.le_refl _) _ : Below (w.alloc (.cells #[.slice oa n cap, .map (some bm)] 57)).heap.size _ _).block w.heap.size (by simp)).trans (heap_alloc_new w _)
  have hK0 : W0.heap[w.heap.size + 1]? = some (.cells (bareCs (.slice none 0 0)) 77 (0, 0)) := by
    rw [← hW0]
    have := heap_alloc_new (w.alloc (.cells #[.slice oa n cap, .map (some bm)] 57)) (.cells (bareCs (.slice none 0 0)) 77)
    rw [World.size_alloc] at this
    exact this
  have HW := hide hW
  have HPT := hide hpt
  have HPN := hide hpt.len
  have HB0 := hide hb0
  have HA0 := hide hA0
  have HK0 := hide hK0
  have HW0 := hide hW0
  clear hW hpt hb0 hA0 hK0 hW0
  go_enter Try.func26, Try.ntmps26
  go_upto_region 2 with fail
  try rw [show (w.alloc (.cells #[.slice oa n cap, .map (some bm)] 57)).alloc (.cells #[.int .i64 0, .int .i64 0, .int .i64 0, .int .i64 0, .int .i64 0, .slice none 0 0, .string ⟨#[]⟩, .slice none 0 0, .int .i64 0, .slice none 0 0, .slice none 0 0, .bool false, .bool false] 77) = W0 from HW0.out]
  clear HW0
  obtain ⟨b, hbd⟩ : ∃ b, w.heap.size = b := ⟨_, rfl⟩
  rw [hbd] at HA0 HK0
  simp only [hbd]
  have HBD := hide hbd
  clear hbd
  go_wp2_with fail
  go_loopw [15] (fun x wr => ∃ (j : Nat) (vp : Value), x = .int .i64 (j : Int) ∧ j ≤ p ∧ wr.heap[b]? = some (.cells #[.slice oa n cap, .map (some bm)] 57 (0, 0)) ∧ wr.heap[b + 1]? = some (.cells (bareCs vp) 77 (0, 0)) ∧ wr.ownsRow b 53 1 vp ((prev.take j).filterMap T).length ((prev.take j).filterMap T) ∧ Below b w wr) (fun x _ => p - (intOf x).toNat)
  case atStart => exact ⟨0, _, rfl, Nat.zero_le _, HA0.out, HK0.out, World.ownsRow_nil _ _ _ _, by have := HB0.out; rw [HBD.out] at this; exact this⟩
  case round =>
    obtain ⟨j, vp, rfl, hj, hA, hK, hR, hbel⟩ := hrel
    have HA := hide hA
    have HK := hide hK
    have HR := hide hR
    have HBEL := hide (show Below w.heap.size w wr from by rw [HBD.out]; exact hbel)
    obtain ⟨ov, cv, hvp⟩ := row_form hR
    have hbl : b < wr.heap.size := blk_lt hA
    have hkl : b + 1 < wr.heap.size := blk_lt hK
    have k1 := blk_cell hA 1 rfl
    have k9 : wr.cell? ⟨b + 1, 9, none⟩ = some vp := blk_cell hK 9 rfl
    have f9 := blk_free hK 9
    clear hA hK hR hbel
    by_cases hlt : j < p
    · have j0 : (j : Int) < (p : Int) := by omega
      obtain ⟨z, bz, qz, hz, hidx, hbz, e0, hwz⟩ := (HPT.out.below HBEL.out).get Try.underlying27 infoI j hlt
      have hlk := (HW.out.tab.below HBEL.out).look Try.underlying55 (Try.zeroValue53 _) hwz
      have HTK := hide (show prev.take (j + 1) = prev.take j ++ [z] from by rw [List.take_add_one, hz]; rfl)
      have hll : ((prev.take j).filterMap T).length ≤ 1048576 := by
        have h1 := List.length_filterMap_le T (prev.take j)
        rw [List.length_take] at h1
        omega
      clear hz
      cases hT : T z with
      | none =>
        rw [hT] at hlk
        simp only [Option.getD_none, Option.isSome_none] at hlk
        have HF := hide (show (prev.take (j + 1)).filterMap T = (prev.take j).filterMap T from by rw [HTK.out, List.filterMap_append]; simp [hT])
        clear hT
        go_wp2_with fail
        go_roundw
        case rel => exact ⟨j + 1, vp, by go_num, by omega, HA.out, HK.out, by rw [HF.out]; exact HR.out, by have := HBEL.out; rw [HBD.out] at this; exact this⟩
        case measure => simp [intOf]; omega
      | some v =>
        obtain ⟨e, he⟩ := HW.out.ptr hT
        obtain ⟨q, i, xa, xc, ya, yc, vs, t, h1, _⟩ := HW.out.yes z e he
        rw [hT] at h1
        cases h1
        rw [hT] at hlk
        simp only [Option.getD_some, Option.isSome_some] at hlk
        have HF := hide (show (prev.take (j + 1)).filterMap T = (prev.take j).filterMap T ++ [.pointer (some ⟨q, 0, none⟩)] from by rw [HTK.out, List.filterMap_append]; simp [hT])
        have hown := HR.out
        subst hvp
        clear hT he
        go_wp2_with (at_builtin; refine wpList_pushL (cs := #[.pointer (some ⟨q, 0, none⟩)]) rfl _ _ 75 rfl (by decide) Try.underlying75 infoKz rfl rfl hown rfl rfl (by simp [Value.oneCell']) (by omega) (by unfold maxLen; omega) (by omega) ?_; intro v5 w5 ho5 hg5 hl5; obtain ⟨o5, c5, rfl⟩ := row_form ho5; have hba := (Below.refl wr.heap.size wr).alloc (Nat.le_refl _) (.cells #[.pointer (some ⟨q, 0, none⟩)] 53); have hK5 := (hg5.block (b + 1) (Nat.lt_of_lt_of_le hkl hba.size) (fun e => own_typedW hown e.symm HK.out (by decide))).trans ((hba.block _ hkl).trans HK.out); have k59 := blk_cell hK5 9 rfl; have f59 := blk_free hK5 9; have HK5 := hide hK5; clear hK5)
        obtain ⟨W6, hW6⟩ : ∃ W6, w5.setCell ⟨b + 1, 9, none⟩ (.slice o5 (((prev.take j).filterMap T).length + 1) c5) = W6 := ⟨_, rfl⟩
        obtain ⟨hK6, hg6⟩ := blk_setAll [.slice o5 (((prev.take j).filterMap T).length + 1) c5] w5 _ 9 HK5.out
        rw [show w5.setCells (b + 1) 9 [.slice o5 (((prev.take j).filterMap T).length + 1) c5] = W6 from hW6] at hK6 hg6
        try rw [hW6]
        have hA6 : W6.heap[b]? = some (.cells #[.slice oa n cap, .map (some bm)] 57 (0, 0)) := (hg6.block b (by have := hg5.size; have := hba.size; omega) (fun e => by have := Option.some.inj e; omega)).trans ((hg5.block b (Nat.lt_of_lt_of_le hbl hba.size) (fun e => own_typedW hown e.symm HA.out (by decide))).trans ((hba.block _ hbl).trans HA.out))
        have hR6 : W6.ownsRow b 53 1 (.slice o5 (((prev.take j).filterMap T).length + 1) c5) ((prev.take (j + 1)).filterMap T).length ((prev.take (j + 1)).filterMap T) := by
          rw [HF.out, List.length_append]
          refine ho5.kept hg6 (.inr (fun e => own_typedW ho5 e HK5.out (by decide)))
        have hB6 : Below b w W6 := by
          have h1 := HBEL.out
          rw [HBD.out] at h1
          have h2 := (h1.alloc (by omega) (.cells #[.pointer (some ⟨q, 0, none⟩)] 53)).grown hg5 (by simp; omega) (fun k hk => (hown.lt k hk).1)
          exact h2.grown hg6 (by have := hg5.size; have := hba.size; omega) (fun k hk => by cases hk; omega)
        have HA6 := hide hA6
        have HK6 := hide hK6
        have HR6 := hide hR6
        have HB6 := hide hB6
        clear hA6 hK6 hR6 hB6 hg6 hW6 ho5 hg5 hl5 hown
        go_roundw
        case rel => exact ⟨j + 1, _, by go_num, by omega, HA6.out, HK6.out, HR6.out, HB6.out⟩
        case measure => simp [intOf]; omega
    · have htk : prev.take j = prev := List.take_of_length_le (by rw [HPN.out]; omega)
      rw [htk] at HR hvp
      subst hvp
      have hle := List.length_filterMap_le T prev
      rw [HPN.out] at hle
      have HDE := hide (show decide ((prev.filterMap T).length = prev.length) = (((prev.filterMap T).length : Int) == (p : Int)) from by
        rw [HPN.out, Bool.eq_iff_iff]
        simp
        try omega)
      have k19 : wr.cell? ⟨b + 1, 9, none⟩ = some (.slice ov (prev.filterMap T).length cv) := blk_cell HK.out 9 rfl
      clear htk k9
      go_wp2_with fail
      go_quiet (fail)
      go_wp2_with fail
      refine bodyPost_ret (v := .tuple #[.pointer (some ⟨b + 1, 0, none⟩), .bool (((prev.filterMap T).length : Int) == (p : Int))]) (by simp [results, Try.results26, go_sem]) rfl ?_
      have hbe := HBD.out
      refine ⟨b + 1, .slice ov (prev.filterMap T).length cv, by rw [HDE.out], by omega, ?_, ?_, ?_⟩
      · exact HK.out
      · rw [hbe]; exact own_drewN HR.out
      · exact below_drewN HBEL.out _

def maxR (ds : List Int) : Int := ds.foldl (fun m d => if m < d then d else m) (-1)

theorem maxR_ge : ∀ (ds : List Int) (m : Int), m ≤ ds.foldl (fun m d => if m < d then d else m) m
  | [], m => Int.le_refl _
  | d :: r, m => by
    rw [List.foldl_cons]
    refine Int.le_trans ?_ (maxR_ge r _)
    split <;> omega

theorem maxR_snoc (ds : List Int) (d : Int) : maxR (ds ++ [d]) = if maxR ds < d then d else maxR ds := by
  unfold maxR
  rw [List.foldl_append]
  rfl

def depR (ds : List Int) : Int := if 1000000 < maxR ds then 1000001 else maxR ds + 1

structure Deep (w : World) (ps : List Value) (ds : List Int) : Prop where
  len : ps.length = ds.length
  at_ : ∀ (i : Nat) (d : Int), ds[i]? = some d → ∃ q, ps[i]? = some (.pointer (some ⟨q, 0, none⟩)) ∧ w.cell? ⟨q, 8, none⟩ = some (.int .i64 d)

set_option maxHeartbeats 4000000 in
theorem depth_any (kb B : Nat) (vp : Value) (ps : List Value) (ds : List Int) (hl20 : ds.length ≤ 1048576) (w : World) (hK : w.heap[kb]? = some (.cells (bareCs vp) 77 (0, 0))) (hR : w.ownsRow B 53 1 vp ps.length ps) (hD : Deep w ps ds) :
    Calls Try.prog 27 #[.pointer (some ⟨kb, 0, none⟩)] w fun r w' => r = .returned (.int .i64 (depR ds)) ∧ w' = w := by
  have hl := hD.len
  obtain ⟨ov, cv, rfl⟩ := row_form hR
  have k9 : w.cell? ⟨kb, 9, none⟩ = some (.slice ov ds.length cv) := by rw [← hl]; exact blk_cell hK 9 rfl
  have HR := hide (show w.ownsRow B 53 1 (.slice ov ds.length cv) ds.length ps from by rw [← hl]; exact hR)
  have HD := hide hD
  clear hK hR hD hl
  go_enter Try.func27, Try.ntmps27
  go_wp2_with fail
  go_loop [3, 11] (fun g x => ∃ (j : Nat), x = .int .i64 (j : Int) ∧ j ≤ ds.length ∧ g = .int .i64 (maxR (ds.take j))) (fun _ x => ds.length - (intOf x).toNat)
  case atStart => exact ⟨0, rfl, Nat.zero_le _, rfl⟩
  case round =>
    obtain ⟨j, rfl, hj, rfl⟩ := hrel
    by_cases hlt : j < ds.length
    · have j0 : (j : Int) < (ds.length : Int) := by omega
      obtain ⟨d, hd⟩ : ∃ d, ds[j]? = some d := ⟨_, List.getElem?_eq_getElem hlt⟩
      obtain ⟨q, hp, c8⟩ := HD.out.at_ j d hd
      obtain ⟨g, hg⟩ : ∃ g, ov = some ⟨g, 0, none⟩ := by
        rcases HR.out.2 with ⟨_, hn⟩ | ⟨g, cap, cur, hv, _⟩
        · omega
        · cases hv; exact ⟨_, rfl⟩
      subst hg
      have hidx : ∀ wx, (Instr.indexAt 75 (.slice (some ⟨g, 0, none⟩) ds.length cv) (.int .i64 (j : Int))).run Try.prog wx = .ok (.pointer (some ⟨g, j, none⟩)) wx := fun wx => by
        have := run_indexAt_slice wx 75 53 1 Try.underlying75 infoK1 g 0 ds.length cv j hlt
        rwa [Nat.zero_add, Nat.mul_one] at this
      have cj : w.cell? ⟨g, j, none⟩ = some (.pointer (some ⟨q, 0, none⟩)) := by rw [HR.out.cellAt j (by have := HR.out.1; omega)]; exact hp
      have HM := hide (show maxR (ds.take (j + 1)) = if maxR (ds.take j) < d then d else maxR (ds.take j) from by rw [List.take_add_one, hd]; exact maxR_snoc _ _)
      generalize maxR (ds.take j) = M at HM ⊢
      clear hd hp
      rcases (show M < d ∨ M = d ∨ d < M by omega) with c | c | c
      · have c2 : ¬ d < M := by omega
        rw [if_pos c] at HM
        go_wp2_with fail
        go_round
        case rel => exact ⟨j + 1, by go_num, by omega, by (rw [HM.out]; first | done | (congr 1; omega))⟩
        case measure => simp [intOf]; omega
      · subst c
        rw [if_neg (by omega)] at HM
        go_wp2_with fail
        go_round
        case rel => exact ⟨j + 1, by go_num, by omega, by (rw [HM.out]; first | done | (congr 1; omega))⟩
        case measure => simp [intOf]; omega
      · have c2 : ¬ M < d := by omega
        rw [if_neg c2] at HM
        go_wp2_with fail
        go_round
        case rel => exact ⟨j + 1, by go_num, by omega, by (rw [HM.out]; first | done | (congr 1; omega))⟩
        case measure => simp [intOf]; omega
    · have htk : ds.take j = ds := List.take_of_length_le (by omega)
      rw [htk]
      have HM := hide (show depR ds = if 1000000 < maxR ds then 1000001 else maxR ds + 1 from rfl)
      have hge : -1 ≤ maxR ds := maxR_ge ds (-1)
      clear htk
      generalize maxR ds = M at HM hge ⊢
      rcases (show M < 1000000 ∨ M = 1000000 ∨ 1000000 < M by omega) with c | c | c
      · have c2 : ¬ 1000000 < M := by omega
        rw [if_neg c2] at HM
        go_wp2_with fail
        go_ret
        exact ⟨by (rw [HM.out]; first | done | rfl | (congr 2; omega) | (congr 1; omega) | (simp; omega)), rfl⟩
      · subst c
        rw [if_neg (by omega)] at HM
        go_wp2_with fail
        go_ret
        exact ⟨by (rw [HM.out]; first | done | rfl | (congr 2; omega) | (congr 1; omega) | (simp; omega)), rfl⟩
      · have c2 : ¬ M < 1000000 := by omega
        rw [if_pos c] at HM
        go_wp2_with fail
        go_ret
        exact ⟨by (rw [HM.out]; first | done | rfl | (congr 2; omega) | (congr 1; omega) | (simp; omega)), rfl⟩

end Go.Proofs.Ythieilmjbefamaa
