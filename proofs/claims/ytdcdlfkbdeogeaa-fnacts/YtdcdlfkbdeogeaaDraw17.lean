/-
  Draws of chapter 3: a list of acts (made by wip/tools/gen17.py).
-/
import Derived.Test.YtdcdlfkbdeogeaaDraw16
import Derived.Test.YtdcdlfkbdeogeaaPushK
import Derived.Test.YtdcdlfkbdeogeaaDraw11
import Derived.Test.YtdcdlfkbdeogeaaWalk3y
import Derived.Test.YtdcdlfkbdeogeaaActs
import Derived.Test.YtdcdlfkbdeogeaaPack10
namespace Go.Proofs.Ytdcdlfkbdeogeaa
open Go.RowKit P1 P5 K
attribute [local go_sem ↓] Go.wp_at_zero Go.wp_at_succ
set_option linter.unusedVariables false
set_option linter.unusedSimpArgs false

theorem infoActz : (Try.prog.info? 37).map (fun i => (i.zero, i.size, i.bytes)) = some (some (.agg #[.int .i64 0, .string ⟨#[]⟩, .string ⟨#[]⟩, .string ⟨#[]⟩]), 4, 56) := by kernel_rfl

theorem actL_fine {fs : List FileV} (a : ActV) (h : ∀ f ∈ fs, Fine f) : ∀ f ∈ (actL fs a).getD [], Fine f := by
  cases hr : actL fs a with
  | none => intro f hf; simp at hf
  | some out =>
    intro f hf
    simp only [Option.getD_some] at hf
    have hd : doL fs a = some out := by
      unfold actL at hr
      split at hr
      · exact hr
      · cases hr
    have h2 := (fileOk_iff f).1 (diskOk_mem (doL_ok hd) f hf)
    have h3 := name_len h2.1
    exact fine_small (by omega) (by omega) (by omega) (by omega)

theorem actL_len {fs : List FileV} (a : ActV) : ((actL fs a).getD []).length ≤ 1000 := by
  cases hr : actL fs a with
  | none => simp
  | some out =>
    have hd : doL fs a = some out := by
      unfold actL at hr
      split at hr
      · exact hr
      · cases hr
    have h1 := doL_ok hd
    unfold diskOk at h1
    simp only [Bool.and_eq_true, decide_eq_true_eq] at h1
    simp only [Option.getD_some]
    omega

theorem row_ne_blk {w : World} {base size : Nat} {e t : TypeId} {v : Value} {n : Nat} {xs : List Value} {b : Nat} {cs : Array Value} (ho : w.ownsRow base e size v n xs) (hb : w.heap[b]? = some (.cells cs t (0, 0))) (hne : t ≠ e) : some b ≠ v.ownBlock := by
  intro e1
  rcases ho.2 with ⟨rfl, -⟩ | ⟨g, cap, cur, rfl, -, hgb, -⟩
  · cases e1
  · have e2 : b = g := Option.some.inj e1
    subst e2
    rw [hgb] at hb
    injection hb with hb
    injection hb with h1 h2
    exact hne h2.symm

theorem row_ne_row {w : World} {base size base2 size2 : Nat} {e e2 : TypeId} {v v2 : Value} {n n2 : Nat} {xs xs2 : List Value} (h1 : w.ownsRow base e size v n xs) (h2 : w.ownsRow base2 e2 size2 v2 n2 xs2) (hne : e ≠ e2) : v.ownBlock = none ∨ v.ownBlock ≠ v2.ownBlock := by
  rcases h1.2 with ⟨rfl, -⟩ | ⟨g, cap, cur, rfl, -, hgb, -⟩
  · exact Or.inl rfl
  · exact Or.inr (row_ne_blk h2 hgb hne)

theorem actDr_fine {k : Int} {nm tx t2 : List UInt8} (h : ActDr k nm tx t2) : ActFine ⟨k, nm, tx, t2⟩ := by
  obtain ⟨h1, h2, h3, h4, h5⟩ := h
  exact ⟨by show nm.length ≤ _; omega, by show tx.length ≤ _; omega, by show t2.length ≤ _; omega, by simp [Lit.wf, IntKind.min, IntKind.max, IntKind.signed, IntKind.bits]; omega⟩

/-- The cursor, the disk's variable and its row, the row of the acts. -/
structure AcD (B p : Nat) (a : Option Addr) (len cap : Nat) (w : World) (vd : Value) (fs : List FileV) (vo : Value) (acs : List ActV) (wr : World) : Prop where
  cur : CurAt B wr p a len cap
  gr : w.grownBy wr (some p)
  box : wr.heap[w.heap.size]? = some (.cells #[vd] 26 (0, 0))
  dk : wr.ownsRow (p + 1) 49 3 vd fs.length (fs.flatMap fcells)
  out : wr.ownsRow (w.heap.size + 1) 37 4 vo acs.length (acs.flatMap acells)
  hp : p < w.heap.size
  hB : B ≤ w.heap.size

section
variable {B p : Nat} {a : Option Addr} {len cap : Nat} {w : World} {vd vd' vo vo' : Value} {fs fs' : List FileV} {acs acs' : List ActV} {w1 w2 : World}

theorem AcD.size (h : AcD B p a len cap w vd fs vo acs w1) : w.heap.size < w1.heap.size := blk_lt h.box

theorem AcD.drawn (h : AcD B p a len cap w vd fs vo acs w1) (hc : CurAt B w2 p a len cap) (hg : w1.grownBy w2 (some p)) : AcD B p a len cap w vd fs vo acs w2 := by
  have hp := h.hp
  refine ⟨hc, grown_trans h.gr hg, (hg.block _ h.size (fun e => by have := Option.some.inj e; omega)).trans h.box, h.dk.kept hg ?_, h.out.kept hg ?_, hp, h.hB⟩
  · cases hv : vd.ownBlock with
    | none => exact Or.inl rfl
    | some g => exact Or.inr (fun e => by have := Option.some.inj e; have := (h.dk.lt g hv).1; omega)
  · cases hv : vo.ownBlock with
    | none => exact Or.inl rfl
    | some g => exact Or.inr (fun e => by have := Option.some.inj e; have := (h.out.lt g hv).1; omega)

theorem AcD.on (h : AcD B p a len cap w vd fs vo acs w1) (hb : Below w1.heap.size w1 w2) : AcD B p a len cap w vd fs vo acs w2 := by
  have hp := h.hp
  have hs := h.size
  have hB := h.hB
  exact ⟨h.cur.kept (hb.mono (by omega)) (hb.block p (by omega)), grown_trans h.gr (grown_below hb), (hb.block _ hs).trans h.box, own_below h.dk hb, own_below h.out hb, hp, hB⟩

theorem AcD.push (h : AcD B p a len cap w vd fs vo acs w1) (ho : w2.ownsRow (w.heap.size + 1) 37 4 vo' acs'.length (acs'.flatMap acells)) (hg : w1.grownBy w2 vo.ownBlock) : AcD B p a len cap w vd fs vo' acs' w2 := by
  have hp := h.hp
  have hs := h.size
  have hB := h.hB
  have hlo : ∀ g, vo.ownBlock = some g → w.heap.size + 1 ≤ g := fun g hq => (h.out.lt g hq).1
  have hno : ∀ i, i ≤ w.heap.size → some i ≠ vo.ownBlock := fun i hi e1 => by have := hlo i e1.symm; omega
  have hbel : Below B w1 w2 := (Below.refl B w1).grown hg (by omega) (fun k hk => by have := hlo k hk; omega)
  refine ⟨h.cur.kept hbel (hg.block p (by omega) (hno p (by omega))), ?_, (hg.block _ hs (hno _ (Nat.le_refl _))).trans h.box, h.dk.kept hg ?_, ho, hp, hB⟩
  · exact ⟨hg.os.trans h.gr.os, hg.tape.trans h.gr.tape, hg.output.trans h.gr.output, Nat.le_trans h.gr.size hg.size, fun i hi hne => (hg.block i (by omega) (hno i (by omega))).trans (h.gr.block i hi hne)⟩
  · rcases h.dk.2 with ⟨rfl, -⟩ | ⟨g, cp, cur, rfl, -, hgb, -⟩
    · exact Or.inl rfl
    · refine Or.inr (fun e1 => ?_)
      rcases h.out.2 with ⟨rfl, -⟩ | ⟨g2, cp2, cur2, rfl, -, hgb2, -⟩
      · cases e1
      · cases e1
        rw [hgb] at hgb2
        cases hgb2

theorem AcD.setD (h : AcD B p a len cap w vd fs vo acs w1) (hd : w1.ownsRow (w.heap.size + 1) 49 3 vd' fs'.length (fs'.flatMap fcells)) : AcD B p a len cap w vd' fs' vo acs (w1.setCell ⟨w.heap.size, 0, none⟩ vd') := by
  have hp := h.hp
  have hs := h.size
  have hB := h.hB
  have hg := set_grownD w1 w.heap.size 0 vd'
  have hbel : Below B w1 (w1.setCell ⟨w.heap.size, 0, none⟩ vd') := (Below.refl B w1).grown hg (by omega) (fun k hk => by cases hk; omega)
  refine ⟨h.cur.kept hbel (hg.block p (by omega) (fun e => by have := Option.some.inj e; omega)), ?_, ?_, own_base (own_setFar hd (fun g hq e1 => by have := (hd.lt g hq).1; omega)) (by omega), own_setFar h.out (fun g hq e1 => by have := (h.out.lt g hq).1; omega), hp, hB⟩
  · exact ⟨hg.os.trans h.gr.os, hg.tape.trans h.gr.tape, hg.output.trans h.gr.output, Nat.le_trans h.gr.size hg.size, fun i hi hne => (hg.block i (by have := h.gr.size; omega) (fun e => by have := Option.some.inj e; omega)).trans (h.gr.block i hi hne)⟩
  · have k := blk_set (k := 0) vd' h.box
    simpa using k
end

/-- Acts drawn: not many, none of them long; in new memory. -/
def AcPost (B p : Nat) (a : Option Addr) (len cap : Nat) (w : World) (e : Ending) (w' : World) : Prop :=
  ∃ (vo : Value) (acs : List ActV), acs.length ≤ 9 ∧ (∀ x ∈ acs, ActFine x) ∧ (∃ g c, vo = .slice (some ⟨g, 0, none⟩) acs.length c) ∧ e = .returned vo ∧ CurAt B w' p a len cap ∧ w.grownBy w' (some p) ∧ w'.ownsRow (w.heap.size + 1) 37 4 vo acs.length (acs.flatMap acells)

set_option maxRecDepth 100000 in
set_option maxHeartbeats 8000000 in
theorem l03Acts_any (B p : Nat) (a : Option Addr) (len cap : Nat) (vd0 : Value) (fs0 : List FileV) (w : World) (hB : B ≤ w.heap.size) (hc : CurAt B w p a len cap) (hd : w.ownsRow (p + 1) 49 3 vd0 fs0.length (fs0.flatMap fcells)) (hfs : ∀ f ∈ fs0, Fine f) (hfl : fs0.length ≤ 1000) :
    Calls Try.prog 15 #[.pointer (some ⟨p, 0, none⟩), .agg #[vd0]] w (AcPost B p a len cap w) := by
  obtain ⟨ov, cv, rfl⟩ := own_form hd
  have hp := hc.lt
  have hb0 := ((Below.refl w.heap.size w).alloc (Nat.le_refl _) (.cells #[.slice ov fs0.length cv] 26)).alloc (by simp) (.cells #[] 37)
  have z1 : (w.alloc (.cells #[.slice ov fs0.length cv] 26)).heap.size = w.heap.size + 1 := by simp
  have HA0 : Hid (AcD B p a len cap w (.slice ov fs0.length cv) fs0 (.slice (some ⟨w.heap.size + 1, 0, none⟩) ([] : List ActV).length 0) [] ((w.alloc (.cells #[.slice ov fs0.length cv] 26)).alloc (.cells #[] 37))) := hide (by
    refine ⟨hc.kept (hb0.mono hB) (hb0.block p hp), grown_below hb0, ?_, own_below hd hb0, ⟨rfl, Or.inr ⟨w.heap.size + 1, 0, #[], rfl, Nat.le_refl _, ?_, Nat.le_refl _, by unfold maxLen; omega, rfl, rfl⟩⟩, hp, hB⟩
    · exact (((Below.refl _ _).alloc (Nat.le_refl _) _).block _ (by simp)).trans (heap_alloc_new _ _)
    · have h := heap_alloc_new (w.alloc (.cells #[.slice ov fs0.length cv] 26)) (.cells #[] 37)
      rwa [z1] at h)
  have HFS0 := hide hfs
  clear hd hc hb0 hfs z1
  go_enter Try.func15, Try.ntmps15
  go_wp2_with fail
  generalize (w.alloc (Obj.cells #[Value.slice ov fs0.length cv] 26)).alloc (Obj.cells #[] 37) = W0 at HA0 ⊢
  go_loopw [6, 5] (fun i o wr => ∃ (j go co : Nat) (vd : Value) (fs : List FileV) (acs : List ActV), i = .int .i64 (j : Int) ∧ o = .slice (some ⟨go, 0, none⟩) acs.length co ∧ j ≤ 9 ∧ acs.length ≤ j ∧ (∀ x ∈ acs, ActFine x) ∧ (∀ f ∈ fs, Fine f) ∧ fs.length ≤ 1000 ∧ AcD B p a len cap w vd fs (.slice (some ⟨go, 0, none⟩) acs.length co) acs wr) (fun i _ _ => 9 - (intOf i).toNat)
  case atStart => exact ⟨0, _, _, _, fs0, [], rfl, rfl, by omega, Nat.le_refl _, (by simp), HFS0.out, hfl, HA0.out⟩
  case round =>
    clear HA0 HFS0 hfl
    obtain ⟨j, go, co, vd, fs, acs, rfl, rfl, hj, hal, haf, hff, hfl, hd⟩ := hrel
    have HD1 := hide hd
    have HAF := hide haf
    have HFF := hide hff
    clear hd haf hff
    go_wp2_with fail
    refine (l01Below_any B p a len cap 9 (by decide) (by decide) _ HD1.out.cur).mono ?_
    rintro r w2 ⟨x, hx, rfl, hc2, hg2⟩
    have HD2 := hide (HD1.out.drawn hc2 hg2)
    clear hc2 hg2 HD1
    by_cases hjx : j < x
    · have j0 : (j : Int) < (x : Int) := by omega
      go_wp2_with fail
      refine (l03Act_any B p a len cap _ (by have := HD2.out.size; have := HD2.out.hB; omega) HD2.out.cur).mono ?_
      rintro r w3 ⟨ak, nm, tx, t2, hdr, rfl, hc3, hg3⟩
      have HD3 := hide (HD2.out.drawn hc3 hg3)
      have HNF := hide (show ActFine ⟨ak, nm, tx, t2⟩ from actDr_fine hdr)
      obtain ⟨ovd, cvd, rfl⟩ := own_form HD3.out.dk
      clear hc3 hg3 HD2 hdr
      have l3 := HD3.out.size
      have hal3 := (Below.refl w3.heap.size w3).alloc (Nat.le_refl _) (.cells #[Value.int IntKind.i64 ak, Value.string ⟨nm.toArray⟩, Value.string ⟨tx.toArray⟩, Value.string ⟨t2.toArray⟩] 37)
      have HD4 := hide (HD3.out.on hal3)
      have HAB4 := hide (heap_alloc_new w3 (.cells #[Value.int IntKind.i64 ak, Value.string ⟨nm.toArray⟩, Value.string ⟨tx.toArray⟩, Value.string ⟨t2.toArray⟩] 37))
      have c0 := blk_cell HD3.out.box 0 rfl
      simp only [List.getElem_toArray, List.getElem_cons_zero] at c0
      obtain ⟨_, _, heq, hat4⟩ := filesAt_of_own HD4.out.dk
      cases heq
      have HSD := hide (specDoAct_any ovd fs.length cvd fs ⟨ak, nm, tx, t2⟩ _ hat4 HFF.out HNF.out)
      have HDF0 := hide (actL_fine (fs := fs) ⟨ak, nm, tx, t2⟩ HFF.out)
      have hDL := actL_len (fs := fs) ⟨ak, nm, tx, t2⟩
      unfold aval at HSD
      obtain ⟨D, hD⟩ : ∃ D, (actL fs ⟨ak, nm, tx, t2⟩).getD [] = D := ⟨_, rfl⟩
      obtain ⟨ok, hok⟩ : ∃ ok, (actL fs ⟨ak, nm, tx, t2⟩).isSome = ok := ⟨_, rfl⟩
      rw [hD, hok] at HSD
      rw [hD] at HDF0 hDL
      have HDF := HDF0
      clear hal3 HD3 hat4 hD hok HDF0
      go_wp2_with fail
      refine HSD.out.mono ?_
      rintro r w5 ⟨vn, rfl, hon, hb5⟩
      have HD5 := hide (HD4.out.on hb5)
      have HAB5 := hide ((hb5.block _ (by simp)).trans HAB4.out)
      have HNO5 := hide (own_base hon (base' := w.heap.size + 1) (by have := HD4.out.size; simp at this ⊢; omega))
      obtain ⟨ovn, cvn, rfl⟩ := own_form hon
      clear hb5 HD4 HAB4 HSD hon c0
      have hal6 := (Below.refl w5.heap.size w5).alloc (Nat.le_refl _) (.cells #[.slice ovn D.length cvn] 26)
      have HD6 := hide (HD5.out.on hal6)
      have HAB6 := hide ((hal6.block _ (blk_lt HAB5.out)).trans HAB5.out)
      have HNB6 := hide (heap_alloc_new w5 (.cells #[.slice ovn D.length cvn] 26))
      have HNO6 := hide (own_below HNO5.out hal6)
      clear hal6 HNO5
      have hal9 : acs.length ≤ 9 := by omega
      cases ok with
      | true =>
        have y0 := blk_cell HAB5.out 0 rfl
        have y1 := blk_cell HAB5.out 1 rfl
        have y2 := blk_cell HAB5.out 2 rfl
        have y3 := blk_cell HAB5.out 3 rfl
        have lab := blk_lt HAB5.out
        simp only [List.getElem_toArray, List.getElem_cons_zero, List.getElem_cons_succ] at y0 y1 y2 y3
        go_wp2_with (at_builtin; refine wpList_push_rawK (k := 4) (cs := #[Value.int IntKind.i64 ak, Value.string ⟨nm.toArray⟩, Value.string ⟨tx.toArray⟩, Value.string ⟨t2.toArray⟩]) rfl _ _ 27 rfl (by decide) Try.underlying27 infoActz rfl rfl HD6.out.out (by first | rfl | (simp; rfl)) rfl (by simp [Value.oneCell']) (by have := HD6.out.size; omega) (by unfold maxLen; omega) (by omega) ?_)
        intro v8 x8 ho8 hg8
        obtain ⟨ES, hES⟩ : ∃ ES, ES = acs ++ [(⟨ak, nm, tx, t2⟩ : ActV)] := ⟨_, rfl⟩
        have ho9 : x8.ownsRow (w.heap.size + 1) 37 4 v8 ES.length (ES.flatMap acells) := by
          rw [hES, List.length_append]
          have hflat : (acs ++ [(⟨ak, nm, tx, t2⟩ : ActV)]).flatMap acells = acs.flatMap acells ++ acells ⟨ak, nm, tx, t2⟩ := by simp
          rw [hflat]
          exact ho8
        have hg9 : (w5.alloc (Obj.cells #[Value.slice ovn D.length cvn] 26)).grownBy x8 (Value.slice (some ⟨go, 0, none⟩) acs.length co).ownBlock := hg8
        obtain ⟨g8, c8, rfl⟩ : ∃ g8 c8, v8 = .slice (some ⟨g8, 0, none⟩) ES.length c8 := by
          rcases ho9.2 with ⟨rfl, h0⟩ | ⟨g8, c8, cur, rfl, _⟩
          · rw [hES, List.length_append] at h0; simp at h0
          · exact ⟨_, _, rfl⟩
        have HE8 := hide (HD6.out.push ho9 hg9)
        have HN8 := hide (show x8.heap[w5.heap.size]? = some (.cells #[.slice ovn D.length cvn] 26 (0, 0)) from (hg9.block _ (blk_lt HNB6.out) (row_ne_blk HD6.out.out HNB6.out (by decide))).trans HNB6.out)
        have HR8 := hide (HNO6.out.kept hg9 (row_ne_row HNO6.out HD6.out.out (by decide)))
        have HFin := hide (show ∀ x ∈ ES, ActFine x by
          rw [hES]
          intro x hx
          rcases List.mem_append.1 hx with h | h
          · exact HAF.out x h
          · rw [List.mem_singleton.1 h]; exact HNF.out)
        have HLe := hide (show ES.length ≤ j + 1 by rw [hES, List.length_append]; simp; exact hal)
        clear ho8 ho9 hg8 hg9 hES y0 y1 y2 y3 lab
        have n0 := blk_cell HN8.out 0 rfl
        have b0 := blk_cell HE8.out.box 0 rfl
        have b1 := blk_free HE8.out.box 0
        simp only [List.getElem_toArray, List.getElem_cons_zero] at n0 b0
        have HX8 := hide (HE8.out.setD HR8.out)
        go_wp2_with fail
        go_roundw
        case rel => exact ⟨j + 1, g8, c8, _, _, ES, by go_num, rfl, by omega, HLe.out, HFin.out, HDF.out, hDL, HX8.out⟩
        case measure => simp [intOf]; omega
      | false =>
        go_wp2_with fail
        generalize w5.alloc (Obj.cells #[Value.slice ovn D.length cvn] 26) = w6 at HD6 HAB6 HNB6 HNO6 ⊢
        refine (l01Once_any B p a len cap 20 (by decide) (by decide) _ HD6.out.cur).mono ?_
        rintro r w7 ⟨q, rfl, hc7, hg7⟩
        have HD7 := hide (HD6.out.drawn hc7 hg7)
        have hpw := HD6.out.hp
        have HAB7 := hide ((hg7.block _ (blk_lt HAB6.out) (fun e => by have := Option.some.inj e; have := HD5.out.size; omega)).trans HAB6.out)
        have HNB7 := hide ((hg7.block _ (blk_lt HNB6.out) (fun e => by have := Option.some.inj e; have := HD5.out.size; omega)).trans HNB6.out)
        have HNO7 := hide (HNO6.out.kept hg7 (by
          cases hv : (Value.slice ovn D.length cvn).ownBlock with
          | none => exact Or.inl rfl
          | some g => exact Or.inr (fun e => by have := Option.some.inj e; have := (HNO6.out.lt g hv).1; omega)))
        clear hc7 hg7 HD6 HAB6 HNB6 HNO6
        cases q with
        | true =>
          have y0 := blk_cell HAB7.out 0 rfl
          have y1 := blk_cell HAB7.out 1 rfl
          have y2 := blk_cell HAB7.out 2 rfl
          have y3 := blk_cell HAB7.out 3 rfl
          have lab := blk_lt HAB7.out
          simp only [List.getElem_toArray, List.getElem_cons_zero, List.getElem_cons_succ] at y0 y1 y2 y3
          go_wp2_with (at_builtin; refine wpList_push_rawK (k := 4) (cs := #[Value.int IntKind.i64 ak, Value.string ⟨nm.toArray⟩, Value.string ⟨tx.toArray⟩, Value.string ⟨t2.toArray⟩]) rfl _ _ 27 rfl (by decide) Try.underlying27 infoActz rfl rfl HD7.out.out (by first | rfl | (simp; rfl)) rfl (by simp [Value.oneCell']) (by have := HD7.out.size; omega) (by unfold maxLen; omega) (by omega) ?_)
          intro v8 x8 ho8 hg8
          obtain ⟨ES, hES⟩ : ∃ ES, ES = acs ++ [(⟨ak, nm, tx, t2⟩ : ActV)] := ⟨_, rfl⟩
          have ho9 : x8.ownsRow (w.heap.size + 1) 37 4 v8 ES.length (ES.flatMap acells) := by
            rw [hES, List.length_append]
            have hflat : (acs ++ [(⟨ak, nm, tx, t2⟩ : ActV)]).flatMap acells = acs.flatMap acells ++ acells ⟨ak, nm, tx, t2⟩ := by simp
            rw [hflat]
            exact ho8
          have hg9 : w7.grownBy x8 (Value.slice (some ⟨go, 0, none⟩) acs.length co).ownBlock := hg8
          obtain ⟨g8, c8, rfl⟩ : ∃ g8 c8, v8 = .slice (some ⟨g8, 0, none⟩) ES.length c8 := by
            rcases ho9.2 with ⟨rfl, h0⟩ | ⟨g8, c8, cur, rfl, _⟩
            · rw [hES, List.length_append] at h0; simp at h0
            · exact ⟨_, _, rfl⟩
          have HE8 := hide (HD7.out.push ho9 hg9)
          have HN8 := hide (show x8.heap[w5.heap.size]? = some (.cells #[.slice ovn D.length cvn] 26 (0, 0)) from (hg9.block _ (blk_lt HNB7.out) (row_ne_blk HD7.out.out HNB7.out (by decide))).trans HNB7.out)
          have HR8 := hide (HNO7.out.kept hg9 (row_ne_row HNO7.out HD7.out.out (by decide)))
          have HFin := hide (show ∀ x ∈ ES, ActFine x by
            rw [hES]
            intro x hx
            rcases List.mem_append.1 hx with h | h
            · exact HAF.out x h
            · rw [List.mem_singleton.1 h]; exact HNF.out)
          have HLe := hide (show ES.length ≤ j + 1 by rw [hES, List.length_append]; simp; exact hal)
          clear ho8 ho9 hg8 hg9 hES y0 y1 y2 y3 lab
          have n0 := blk_cell HN8.out 0 rfl
          have b0 := blk_cell HE8.out.box 0 rfl
          have b1 := blk_free HE8.out.box 0
          simp only [List.getElem_toArray, List.getElem_cons_zero] at n0 b0
          have HX8 := hide (HE8.out.setD HR8.out)
          go_wp2_with fail
          go_roundw
          case rel => exact ⟨j + 1, g8, c8, _, _, ES, by go_num, rfl, by omega, HLe.out, HFin.out, HDF.out, hDL, HX8.out⟩
          case measure => simp [intOf]; omega
        | false =>
          go_wp2_with fail
          go_roundw
          case rel => exact ⟨j + 1, go, co, _, fs, acs, by go_num, rfl, by omega, by omega, HAF.out, HFF.out, hfl, HD7.out⟩
          case measure => simp [intOf]; omega
    · have j0 : ¬ (j : Int) < (x : Int) := by omega
      go_wp2_with fail
      go_ret
      exact ⟨_, acs, by omega, HAF.out, ⟨_, _, rfl⟩, rfl, HD2.out.cur, HD2.out.gr, HD2.out.out⟩

end Go.Proofs.Ytdcdlfkbdeogeaa
