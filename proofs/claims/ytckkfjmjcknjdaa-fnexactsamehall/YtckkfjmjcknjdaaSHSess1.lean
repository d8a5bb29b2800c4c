/-
  Walks and mathematics of Sess1.
-/
import Derived.Test.YtckkfjmjcknjdaaSHPlain9
import Derived.Test.YtckkfjmjcknjdaaSHRowK
import Derived.Test.YtckkfjmjcknjdaaRows
import Derived.Test.YtckkfjmjcknjdaaSHKit
import Derived.Lib.ItoaNum
import Derived.Lib.ItoaMem
import Derived.Lib.ItoaLen
import Derived.WalkSmall
import Derived.Deep.RegionHeld3
import Derived.Deep.QuietTactic
import Derived.BigQuiet
import Derived.Test.YtckkfjmjcknjdaaSHQuietIn
import Derived.Test.YtckkfjmjcknjdaaSHFlat
import Derived.Deep.Slices
import Derived.ChangeSame
import Derived.WideShapes
namespace Go.Proofs.Ytckkfjmjcknjdaa.P1
end Go.Proofs.Ytckkfjmjcknjdaa.P1
namespace Go.Proofs.Ytckkfjmjcknjdaa
open Go.RowKit Go.Deep Go.ChangeShapes Go.WideShapes P1 P9 K
set_option linter.unusedVariables false
set_option linter.unusedSimpArgs false

structure SesV where
  term : Int
  kind : Int
  data : ByteArray

def sesv (e : SesV) : Value := .agg #[.int .i64 e.term, .int .i64 e.kind, .string e.data]

def scells (e : SesV) : List Value := [.int .i64 e.term, .int .i64 e.kind, .string e.data]

def SesWide (e : SesV) : Prop := e.data.size ≤ maxLen ∧ (Lit.int .i64 e.term).wf = true ∧ (Lit.int .i64 e.kind).wf = true

section
variable {H : Type} {enc : TypeId × Value → H} {P : Program} {w : World} {base : Nat} {spare : Nat → Bool} {held : Bool}

theorem sess_of_trod {e tS tI : TypeId} {f0 f1 f2 : Field} {fuel : Nat} {cs : List Value} {x : DataW H × List MemPlace} (he : P.underlying e = some (.struct #[f0, f1, f2]))
    (hS : P.underlying tS = some .string) (hI : P.underlying tI = some (.int .i64)) (t0 : f0.type = tI) (t1 : f1.type = tI) (t2 : f2.type = tS) (o0 : f0.offset = 0) (o1 : f1.offset = 1) (o2 : f2.offset = 2)
    (ce : P.cellsOf e = 3) (cS : P.cellsOf tS = 1) (cI : P.cellsOf tI = 1) (h : DataW.trod enc P w base spare held fuel e cs = some x) :
    ∃ f : SesV, cs = scells f ∧ SesWide f := by
  obtain ⟨xs, n, _, _, hlen, hxl, hf⟩ := DataW.trod_struct he h
  rw [ce] at hlen
  match xs, hxl, cs, hlen with
  | [y0, y1, y2], _, [v0, v1, v2], _ =>
    have g0 := hf 0 f0 rfl
    have g1 := hf 1 f1 rfl
    have g2 := hf 2 f2 rfl
    simp [o0, o1, o2, t0, t1, t2, cS, cI] at g0 g1 g2
    obtain ⟨k0, e0, _, m0⟩ := DataW.trod_int hI g0
    obtain ⟨k1, e1, _, m1⟩ := DataW.trod_int hI g1
    obtain ⟨s2, e2, _, m2⟩ := DataW.trod_string hS g2
    cases e0; cases e1; cases e2
    exact ⟨⟨k0, k1, s2⟩, rfl, m2, m0, m1⟩
end

def szSs (e : SesV) (left : Int) : Int := if left - e.data.size < 0 then -1 else left - e.data.size

theorem szSession_any (e : SesV) (left : Int) (h0 : 0 ≤ left) (h1 : left ≤ 1048576) (hd : e.data.size ≤ maxLen) (w : World) :
    Calls Try.prog 49 #[sesv e, .int .i64 left] w fun r w' => r = .returned (.int .i64 (szSs e left)) ∧ Below w.heap.size w w' := by
  obtain ⟨t, k, s⟩ := e
  simp only [sesv, szSs] at *
  unfold maxLen at hd
  have HB0 := hide ((Below.refl w.heap.size w).alloc (Nat.le_refl _) (.cells #[.int .i64 t, .int .i64 k, .string s] 76))
  by_cases c : left - s.size < 0
  · rw [if_pos c]
    go_enter Try.func49, Try.ntmps49
    go_wp2_with fail
    go_ret
    exact ⟨rfl, HB0.out⟩
  · rw [if_neg c]
    go_enter Try.func49, Try.ntmps49
    go_wp2_with fail
    go_ret
    exact ⟨rfl, HB0.out⟩

set_option maxHeartbeats 1000000 in
theorem toSession_any (e : SesV) (w : World) :
    Calls Try.prog 56 #[sesv e] w fun r w' => r = .returned (sesv e) ∧ Below w.heap.size w w' := by
  obtain ⟨t, k, s⟩ := e
  simp only [sesv]
  have HB0 := hide ((Below.refl w.heap.size w).alloc (Nat.le_refl _) (.cells #[.int .i64 t, .int .i64 k, .string s] 76))
  go_enter Try.func56, Try.ntmps56
  go_wp2_with fail
  refine bodyPost_ret (v := .agg #[.int .i64 t, .int .i64 k, .string s]) (by simp [results, Try.results56, go_sem]) rfl ⟨rfl, ?_⟩
  exact ((HB0.out.alloc (by simp) _).alloc (by simp; omega) _)

set_option maxHeartbeats 1000000 in
theorem eqSession_any (e : SesV) (w : World) :
    Calls Try.prog 35 #[sesv e, sesv e] w fun r w' => r = .returned (.bool true) ∧ Below w.heap.size w w' := by
  obtain ⟨t, k, s⟩ := e
  simp only [sesv]
  go_enter Try.func35, Try.ntmps35
  go_wp2_with fail
  all_goals first | go_quiet (fail) | skip
  go_wp2_with fail
  go_ret
  exact ⟨rfl, ((Below.refl _ _).alloc (Nat.le_refl _) _).alloc (by simp) _⟩

theorem infoISe : (Try.prog.info? 59).map (·.size) = some 3 := by kernel_rfl

theorem infoISez : (Try.prog.info? 59).map (fun i => (i.zero, i.size, i.bytes)) = some (some (.agg #[.int .i64 0, .int .i64 0, .string ⟨#[]⟩]), 3, 32) := by kernel_rfl

theorem infoLSe : (Try.prog.info? 76).map (·.size) = some 3 := by kernel_rfl

theorem scells_length (e : SesV) : (scells e).length = 3 := rfl

abbrev SessAt (w : World) (oa : Option Addr) (n cap : Nat) (es : List SesV) : Prop := RowsAt 3 scells w oa n cap es

theorem RowsAt.getS3 {w : World} {oa : Option Addr} {n cap : Nat} {es : List SesV} (h : SessAt w oa n cap es) {P : Program} {t e : TypeId} (ht : P.underlying t = some (.slice e)) (hi : (P.info? e).map (·.size) = some 3) (i : Nat) (hin : i < n) :
    ∃ f b q, es[i]? = some f ∧ (∀ wx, (Instr.indexAt t (.slice oa n cap) (.int .i64 (i : Int))).run P wx = .ok (.pointer (some ⟨b, q, none⟩)) wx) ∧ b < w.heap.size ∧
      w.cell? ⟨b, q, none⟩ = some (.int .i64 f.term) ∧ w.cell? ⟨b, q + 1, none⟩ = some (.int .i64 f.kind) ∧ w.cell? ⟨b, q + 2, none⟩ = some (.string f.data) := by
  obtain ⟨f, b, q, hf, hx, hb, hc⟩ := h.get ht hi scells_length (by omega) i hin
  exact ⟨f, b, q, hf, hx, hb, hc 0 _ rfl, hc 1 _ rfl, hc 2 _ rfl⟩

def szSesGo : List SesV → Int → Int
  | [], left => left
  | f :: r, left => if szSs f left < 0 then -1 else szSesGo r (szSs f left)

def szSes (es : List SesV) (left : Int) : Int := if left - es.length < 0 then -1 else szSesGo es (left - es.length)

theorem szSesGo_cons (f : SesV) (r : List SesV) (left : Int) : szSesGo (f :: r) left = if szSs f left < 0 then -1 else szSesGo r (szSs f left) := rfl

theorem szSs_le (e : SesV) (left : Int) (h : 0 ≤ left) : szSs e left ≤ left := by
  unfold szSs
  split <;> omega

theorem szSs_fine {e : SesV} {left : Int} (h : 0 ≤ szSs e left) (hl : left ≤ 1048576) : e.data.size ≤ 1048576 := by
  unfold szSs at h
  split at h <;> omega

theorem szSesGo_fine : ∀ (es : List SesV) (left : Int), left ≤ 1048576 → 0 ≤ left → 0 ≤ szSesGo es left → szSesGo es left ≤ left ∧ ∀ f ∈ es, f.data.size ≤ 1048576
  | [], left, _, _, h => ⟨Int.le_refl _, fun f hf => by simp at hf⟩
  | a :: r, left, h1, h0, h => by
    rw [szSesGo_cons] at h ⊢
    by_cases c : szSs a left < 0
    · rw [if_pos c] at h; omega
    · rw [if_neg c] at h ⊢
      have hl := szSs_le a left h0
      have ih := szSesGo_fine r (szSs a left) (by omega) (by omega) h
      refine ⟨by omega, fun f hf => ?_⟩
      rcases List.mem_cons.1 hf with rfl | hf
      · exact szSs_fine (by omega) h1
      · exact ih.2 f hf

theorem szSes_fine {es : List SesV} {left : Int} (h1 : left ≤ 1048576) (h0 : 0 ≤ left) (h : 0 ≤ szSes es left) : szSes es left ≤ left ∧ es.length ≤ 1048576 ∧ ∀ f ∈ es, f.data.size ≤ 1048576 := by
  unfold szSes at h ⊢
  by_cases c : left - es.length < 0
  · rw [if_pos c] at h; omega
  · rw [if_neg c] at h ⊢
    have := szSesGo_fine es _ (by omega) (by omega) h
    exact ⟨by omega, by omega, this.2⟩

set_option maxHeartbeats 1000000 in
theorem szSessionS_any (oa : Option Addr) (n cap : Nat) (es : List SesV) (left : Int) (h0 : 0 ≤ left) (h1 : left ≤ 1048576) (w : World) (hat : SessAt w oa n cap es) (hw : ∀ f ∈ es, SesWide f) :
    Calls Try.prog 23 #[.slice oa n cap, .int .i64 left] w fun e w' => e = .returned (.int .i64 (szSes es left)) ∧ Below w.heap.size w w' := by
  have hn := hat.len
  have hc := hat.room
  have hm := hat.most
  unfold maxLen at hm
  unfold szSes
  rw [hn]
  by_cases c1 : left - n < 0
  · have g1 : decide (left - (n : Int) < 0) = true := by simpa using c1
    rw [if_pos c1]
    go_enter Try.func23, Try.ntmps23
    go_wp2_with fail
    go_ret
    exact ⟨rfl, Below.refl _ _⟩
  · have g1 : decide (left - (n : Int) < 0) = false := by simpa using c1
    rw [if_neg c1]
    have HN := hide hn
    have HAT := hide hat
    have HW := hide hw
    clear hn hat hw
    go_enter Try.func23, Try.ntmps23
    go_wp2_with fail
    go_loopw [5, 1] (fun i l wr => ∃ (j : Nat) (x : Int), i = .int .i64 (j : Int) ∧ l = .int .i64 x ∧ j ≤ n ∧ 0 ≤ x ∧ x ≤ 1048576 ∧ szSesGo (es.drop j) x = szSesGo es (left - n) ∧ Below w.heap.size w wr) (fun i _ _ => n - (intOf i).toNat)
    case atStart => exact ⟨0, left - n, rfl, rfl, Nat.zero_le _, by omega, by omega, by simp, Below.refl _ _⟩
    case round =>
      obtain ⟨j, x, rfl, rfl, hj, hx0, hx1, hrest, hbel⟩ := hrel
      by_cases hlt : j < n
      · have j0 : (j : Int) < (n : Int) := by omega
        obtain ⟨f, b, q, hf, hidx, hb, c0, c1', c2⟩ := (HAT.out.below hbel).getS3 Try.underlying35 infoLSe j hlt
        have hwf := HW.out f (List.mem_of_getElem? hf)
        have hSZ := hide (szSession_any f x hx0 hx1 hwf.1)
        unfold sesv at hSZ
        have hd : es.drop j = f :: es.drop (j + 1) := by
          rw [List.drop_eq_getElem_cons (by rw [HN.out]; exact hlt)]
          congr 1
          rw [List.getElem?_eq_getElem (by rw [HN.out]; exact hlt)] at hf
          exact Option.some.inj hf
        rw [hd, szSesGo_cons] at hrest
        have HR := hide hrest
        clear hrest hd
        by_cases c2 : szSs f x < 0
        · have g2 : decide (szSs f x < 0) = true := by simpa using c2
          have HR2 := HR.out
          rw [if_pos c2] at HR2
          have HR2 := hide HR2
          go_wp2_with (go_at_call 49; refine (hSZ.out _).mono ?_; rintro e w2 ⟨rfl, hb2⟩)
          go_ret
          exact ⟨by rw [← HR2.out]; rfl, hbel.trans (hb2.mono hbel.size)⟩
        · have g2 : decide (szSs f x < 0) = false := by simpa using c2
          have HR2 := HR.out
          rw [if_neg c2] at HR2
          have HR2 := hide HR2
          have hle := szSs_le f x hx0
          go_wp2_with (go_at_call 49; refine (hSZ.out _).mono ?_; rintro e w2 ⟨rfl, hb2⟩)
          go_roundw
          case rel => exact ⟨j + 1, szSs f x, by go_num, rfl, by omega, by omega, by omega, HR2.out, hbel.trans (hb2.mono hbel.size)⟩
          case measure => simp [intOf]; omega
      · have hjn : j = n := by omega
        have HR := hide hrest
        go_wp2_with fail
        go_ret
        refine ⟨?_, hbel⟩
        rw [← HR.out, hjn, ← HN.out, List.drop_length]
        rfl

theorem own_setSe {w : World} {base : Nat} {e : TypeId} {g n cap : Nat} {ys : List SesV} (h : w.ownsRow base e 3 (.slice (some ⟨g, 0, none⟩) n cap) n (ys.flatMap scells)) (j : Nat) (hj : j < ys.length) (f : SesV) :
    (((w.setCell ⟨g, j * 3, none⟩ (.int .i64 f.term)).setCell ⟨g, j * 3 + 1, none⟩ (.int .i64 f.kind)).setCell ⟨g, j * 3 + 2, none⟩ (.string f.data)).ownsRow base e 3 (.slice (some ⟨g, 0, none⟩) n cap) n ((ys.set j f).flatMap scells) ∧
      w.grownBy (((w.setCell ⟨g, j * 3, none⟩ (.int .i64 f.term)).setCell ⟨g, j * 3 + 1, none⟩ (.int .i64 f.kind)).setCell ⟨g, j * 3 + 2, none⟩ (.string f.data)) (some g) := by
  have h2 := own_setCells (scells f) w (j * 3) (ys.flatMap scells) h
  rw [setAll_flat scells_length ys j f hj] at h2
  exact h2

theorem own_lenSe {w : World} {base : Nat} {e : TypeId} {v : Value} {n : Nat} {ys : List SesV} (h : w.ownsRow base e 3 v n (ys.flatMap scells)) : ys.length = n := by
  have := h.1
  rw [flat_length scells 3 scells_length] at this
  omega

set_option maxHeartbeats 1000000 in
theorem toSessionS_any (oa : Option Addr) (n cap : Nat) (es : List SesV) (hn20 : n ≤ 1048576) (w : World) (hat : SessAt w oa n cap es) :
    Calls Try.prog 28 #[.slice oa n cap] w fun e w' => ∃ g, e = .returned (.slice (some ⟨g, 0, none⟩) n n) ∧ w'.ownsRow w.heap.size 59 3 (.slice (some ⟨g, 0, none⟩) n n) n (es.flatMap scells) ∧ Below w.heap.size w w' := by
  have hn := hat.len
  have hc := hat.room
  have hm := hat.most
  unfold maxLen at hm
  obtain ⟨i0, hi, hz0, hz1, hz2⟩ := info_parts infoISez
  obtain ⟨W0, hmk, hown0, hgr0⟩ := run_make_full (P := Try.prog) w w.heap.size 22 59 i0 _ 3 Try.underlying22 hi hz0 hz1 .i64 .i64 n (by rw [hz2]; omega) (by unfold maxLen; omega) (Nat.le_refl _)
  rw [made_flat (k := 3) (cf := scells) ⟨0, 0, ⟨#[]⟩⟩ _ (by rfl) n scells_length (by omega)] at hown0
  have HOWN := hide hown0
  have HGR := hide hgr0
  have HN := hide hn
  have HAT := hide hat
  clear hown0 hgr0 hn hat hi hz0 hz1 hz2
  go_enter Try.func28, Try.ntmps28
  go_wp2_with fail
  go_loopw [4] (fun i wr => ∃ (j : Nat) (ys : List SesV), i = .int .i64 (j : Int) ∧ j ≤ n ∧ (∀ k, k < j → ys[k]? = es[k]?) ∧ wr.ownsRow w.heap.size 59 3 (.slice (some ⟨w.heap.size, 0, none⟩) n n) n (ys.flatMap scells) ∧ Below w.heap.size w wr) (fun i _ => n - (intOf i).toNat)
  case atStart => exact ⟨0, _, rfl, Nat.zero_le _, fun k hk => absurd hk (Nat.not_lt_zero _), HOWN.out, (Below.refl _ _).grown HGR.out (Nat.le_refl _) (fun k hk => by cases hk)⟩
  case round =>
    obtain ⟨j, ys, rfl, hj, hfill, hown, hbel⟩ := hrel
    by_cases hlt : j < n
    · have j0 : (j : Int) < (n : Int) := by omega
      obtain ⟨f, b, q, hf, hidx, hb, c0, c1', c2⟩ := (HAT.out.below hbel).getS3 Try.underlying35 infoLSe j hlt
      have hidx2 : ∀ wx, (Instr.indexAt 22 (.slice (some ⟨w.heap.size, 0, none⟩) n n) (.int .i64 (j : Int))).run Try.prog wx = .ok (.pointer (some ⟨w.heap.size, j * 3, none⟩)) wx := fun wx => by
        have := run_indexAt_slice wx 22 59 3 Try.underlying22 infoISe w.heap.size 0 n n j hlt
        rwa [Nat.zero_add] at this
      have hTO := hide (toSession_any f)
      unfold sesv at hTO
      have HF := hide hf
      have HFI := hide hfill
      have HYL := hide (own_lenSe hown)
      have HO := hide hown
      have hsz := hbel.size
      clear hf hfill hown
      go_wp2_with (go_at_call 56; refine (hTO.out _).mono ?_; rintro e w2 ⟨rfl, hb2⟩; have ho2 := own_below HO.out hb2; obtain ⟨⟨y0, z0⟩, ⟨y1, z1⟩, ⟨y2, z2⟩⟩ := own_three ho2 j hlt; have f0 := ho2.frozenAt (j * 3); have f1 := ho2.frozenAt (j * 3 + 1); have f2 := ho2.frozenAt (j * 3 + 2); have HO2 := hide ho2; clear ho2)
      have hst := own_setSe HO2.out j (by rw [HYL.out]; exact hlt) f
      have hb3 := (hbel.trans (hb2.mono hsz)).grown hst.2 (Nat.le_trans hsz hb2.size) (fun k hk => by cases hk; exact Nat.le_refl _)
      go_roundw
      case rel =>
        refine ⟨j + 1, _, by go_num, by omega, ?_, hst.1, hb3⟩
        intro k hk
        by_cases e : k = j
        · subst e
          rw [List.getElem?_set_self (by rw [HYL.out]; exact hlt), HF.out]
        · rw [List.getElem?_set_ne (by omega)]
          exact HFI.out k (by omega)
      case measure => simp [intOf]; omega
    · have hjn : j = n := by omega
      subst hjn
      have HE := hide (show ys = es by
        apply List.ext_getElem?
        intro k
        by_cases hk : k < j
        · exact hfill k hk
        · rw [List.getElem?_eq_none (by rw [own_lenSe hown]; omega), List.getElem?_eq_none (by rw [HN.out]; omega)])
      have HO := hide hown
      clear hown hfill
      go_wp2_with fail
      go_ret
      refine ⟨w.heap.size, rfl, ?_, hbel⟩
      rw [← HE.out]
      exact HO.out

set_option maxHeartbeats 1000000 in
theorem eqSessionS_same (oa : Option Addr) (n cap : Nat) (ob : Option Addr) (cap' : Nat) (es : List SesV) (hn20 : n ≤ 1048576) (w : World) (hat : SessAt w oa n cap es) (hbt : SessAt w ob n cap' es) :
    Calls Try.prog 14 #[.slice oa n cap, .slice ob n cap'] w fun e w' => e = .returned (.bool true) ∧ Below w.heap.size w w' := by
  have HAT := hide hat
  have HBT := hide hbt
  clear hat hbt
  go_enter Try.func14, Try.ntmps14
  go_wp2_with fail
  go_loopw [5] (fun i wr => ∃ (j : Nat), i = .int .i64 (j : Int) ∧ j ≤ n ∧ Below w.heap.size w wr) (fun i _ => n - (intOf i).toNat)
  case atStart => exact ⟨0, rfl, Nat.zero_le _, Below.refl _ _⟩
  case round =>
    obtain ⟨j, rfl, hj, hbel⟩ := hrel
    by_cases hlt : j < n
    · have j0 : (j : Int) < (n : Int) := by omega
      obtain ⟨f, b, q, hf, hidx, hb, c0, c1, c2⟩ := (HAT.out.below hbel).getS3 Try.underlying22 infoISe j hlt
      obtain ⟨f', b', q', hf', hidx', hb', c0', c1', c2'⟩ := (HBT.out.below hbel).getS3 Try.underlying22 infoISe j hlt
      rw [hf] at hf'
      cases hf'
      have hEQ := hide (eqSession_any f)
      unfold sesv at hEQ
      have hsz := hbel.size
      clear hf
      go_wp2_with fail
      refine wp_region_in (F := fun w' => Below wr.heap.size wr w') (by kernel_rfl) (by kernel_rfl) (Below.refl _ _).drew ?_
      have hne : Nonempty (InW (fun w' => Below wr.heap.size wr w')) := ⟨⟨_, Below.refl _ _⟩⟩
      have k0 : ∀ m : InW (fun w' => Below wr.heap.size wr w'), m.w.cell? ⟨b, q, none⟩ = some (.int .i64 f.term) := fun m => (m.h.cell hb).trans c0
      have k1 : ∀ m : InW (fun w' => Below wr.heap.size wr w'), m.w.cell? ⟨b, q + 1, none⟩ = some (.int .i64 f.kind) := fun m => (m.h.cell hb).trans c1
      have k2 : ∀ m : InW (fun w' => Below wr.heap.size wr w'), m.w.cell? ⟨b, q + 2, none⟩ = some (.string f.data) := fun m => (m.h.cell hb).trans c2
      have k3 : ∀ m : InW (fun w' => Below wr.heap.size wr w'), m.w.cell? ⟨b', q', none⟩ = some (.int .i64 f.term) := fun m => (m.h.cell hb').trans c0'
      have k4 : ∀ m : InW (fun w' => Below wr.heap.size wr w'), m.w.cell? ⟨b', q' + 1, none⟩ = some (.int .i64 f.kind) := fun m => (m.h.cell hb').trans c1'
      have k5 : ∀ m : InW (fun w' => Below wr.heap.size wr w'), m.w.cell? ⟨b', q' + 2, none⟩ = some (.string f.data) := fun m => (m.h.cell hb').trans c2'
      repeat (go_big_quiet_step (first | (go_at_call 35; refine (hEQ.out _).mono ?_; rintro e w2 ⟨rfl, hb2⟩; exact ⟨rfl, ⟨w2, Below.trans (InW.h _) (hb2.mono (Below.size (InW.h (F := fun w' => Below wr.heap.size wr w') ‹_›)))⟩, rfl⟩)))
      refine wpQuiet_nil ?_
      intro _ hw'
      obtain ⟨nq, hw''⟩ := hw'
      subst hw''
      have hb3 := hbel.trans (nq.h.mono hsz)
      generalize nq.w = w2 at hb3 ⊢
      clear hne k0 k1 k2 k3 k4 k5
      go_wp2_with fail
      go_roundw
      case rel => exact ⟨j + 1, by go_num, by omega, hb3⟩
      case measure => simp [intOf]; omega
    · have hjn : j = n := by omega
      go_wp2_with fail
      go_ret
      exact ⟨rfl, hbel⟩

section
variable {H : Type} {enc : TypeId × Value → H} {P : Program} {w : World} {base : Nat} {spare : Nat → Bool} {held : Bool}

theorem open_sess {t e tS tI : TypeId} {f0 f1 f2 : Field} {fuel : Nat} {cs : List Value} {x : DataW H × List MemPlace} (ht : P.underlying t = some (.slice e)) (he : P.underlying e = some (.struct #[f0, f1, f2]))
    (hS : P.underlying tS = some .string) (hI : P.underlying tI = some (.int .i64)) (t0 : f0.type = tI) (t1 : f1.type = tI) (t2 : f2.type = tS) (o0 : f0.offset = 0) (o1 : f1.offset = 1) (o2 : f2.offset = 2)
    (ce : P.cellsOf e = 3) (cS : P.cellsOf tS = 1) (cI : P.cellsOf tI = 1) (h : DataW.trod enc P w base (fun _ => true) held fuel t cs = some x) :
    cs = [.slice none 0 0] ∨ ∃ (a : Addr) (len cap : Nat) (F : Nat → SesV), cs = [.slice (some a) len cap] ∧ len ≤ cap ∧ cap ≤ maxLen ∧
      ∀ i, i < len → (∀ j, j < 3 → w.cell? (a.add (i * 3 + j)) = (scells (F i))[j]?) ∧ SesWide (F i) := by
  rcases open_slice ht h with h0 | ⟨a, len, cap, m, n, D, Pl, rfl, hb, hl, hm, hmm, _, hx⟩
  · exact Or.inl h0.1
  · right
    have each : ∀ i, i < len → ∃ f : SesV, (∀ j, j < 3 → w.cell? (a.add (i * 3 + j)) = (scells f)[j]?) ∧ SesWide f := by
      intro i hi
      obtain ⟨cs', h1, h2⟩ := hx i (by rw [hmm]; simp; omega)
      rw [ce] at h1
      obtain ⟨_, _, hcell⟩ := World.cells?_some h1
      obtain ⟨f, rfl, b1⟩ := sess_of_trod he hS hI t0 t1 t2 o0 o1 o2 ce cS cI h2
      exact ⟨f, fun j hj => by rw [← add_add]; exact hcell j hj, b1⟩
    have : Inhabited SesV := ⟨⟨0, 0, ⟨#[]⟩⟩⟩
    obtain ⟨F, hF⟩ := choose_lt each
    exact ⟨a, len, cap, F, rfl, hl, hm, hF⟩

theorem sessAt_of_fn {a : Addr} {len cap : Nat} {F : Nat → SesV} (hl : len ≤ cap) (hm : cap ≤ maxLen)
    (h : ∀ i, i < len → (∀ j, j < 3 → w.cell? (a.add (i * 3 + j)) = (scells (F i))[j]?) ∧ SesWide (F i)) :
    SessAt w (some a) len cap ((List.range len).map F) ∧ ∀ f ∈ (List.range len).map F, SesWide f := by
  refine ⟨⟨by simp, hl, hm, fun i f hf => ?_⟩, fun f hf => ?_⟩
  · have hi : i < len := by simpa using (List.getElem?_eq_some_iff.1 hf).1
    have hfe : F i = f := by simpa [hi] using hf
    subst hfe
    have hsp : a.spot = none := by
      have h1 := (h 0 (by omega)).1 0 (by omega)
      have h2 : w.cell? a = some (.int .i64 (F 0).term) := by simpa [Addr.add, scells] using h1
      exact cell_spot h2
    obtain ⟨b, o, s⟩ := a
    simp only at hsp
    subst hsp
    refine ⟨b, o, rfl, fun j u hu => ?_⟩
    have hj : j < 3 := by simpa [scells] using (List.getElem?_eq_some_iff.1 hu).1
    have h1 := (h i hi).1 j hj
    rw [Addr.add_mid, hu] at h1
    rw [Nat.add_assoc]
    exact h1
  · obtain ⟨i, hi, rfl⟩ := List.mem_map.1 hf
    exact (h i (by simpa using hi)).2

end

end Go.Proofs.Ytckkfjmjcknjdaa
