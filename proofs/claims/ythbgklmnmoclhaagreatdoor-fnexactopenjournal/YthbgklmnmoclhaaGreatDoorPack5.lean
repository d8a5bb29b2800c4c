/-
  Walks of chapter 3: the laws' own small functions over files and disks (sizes).
  Rows of files that a call makes: filled one by one; read as a slice.
  Slices of numbers: read, copied, compared, marked.
-/
import Derived.Test.YthbgklmnmoclhaaGreatDoorPack4
import Derived.Test.YthbgklmnmoclhaaGreatDoorRows
import Derived.WalkSmall
import Derived.Deep.MidRow
import Derived.Laws.OwnMore
import Derived.Deep.RegionHeld3
import Derived.Deep.QuietTactic
import Derived.BigQuiet
namespace Go.Proofs.YthbgklmnmoclhaaGreatDoor
open Go.RowKit P5 K
set_option linter.unusedVariables false

/-- A file as a value. -/
def fval (f : FileV) : Value := .agg #[.string ⟨f.name.toArray⟩, .string ⟨f.text.toArray⟩, .int .i64 f.kept]

def szF (f : FileV) (left : Int) : Int := if left - f.name.length < 0 then -1 else if left - f.name.length - f.text.length < 0 then -1 else left - f.name.length - f.text.length

theorem szFile_any (f : FileV) (left : Int) (h0 : 0 ≤ left) (h1 : left ≤ 1048576) (hn : f.name.length ≤ maxLen) (ht : f.text.length ≤ maxLen) (w : World) :
    Calls Tryz.prog 35 #[fval f, .int .i64 left] w fun e w' => e = .returned (.int .i64 (szF f left)) ∧ Below w.heap.size w w' := by
  have hn' : f.name.length ≤ 9223372036854775807 := hn
  have ht' : f.text.length ≤ 9223372036854775807 := ht
  obtain ⟨nm, tx, kp⟩ := f
  simp only [fval, szF] at *
  have hb := (Below.refl w.heap.size w).alloc (Nat.le_refl _) (.cells #[.string ⟨nm.toArray⟩, .string ⟨tx.toArray⟩, .int .i64 kp] 73)
  by_cases c1 : left - nm.length < 0
  · have g1 : decide (left - (nm.length : Int) < 0) = true := by simpa using c1
    rw [if_pos c1]
    go_enter Tryz.func35, Tryz.ntmps35
    go_wp2_with fail
    go_ret
    exact ⟨rfl, hb⟩
  · have g1 : decide (left - (nm.length : Int) < 0) = false := by simpa using c1
    rw [if_neg c1]
    by_cases c2 : left - nm.length - tx.length < 0
    · have g2 : decide (left - (nm.length : Int) - (tx.length : Int) < 0) = true := by simpa using c2
      rw [if_pos c2]
      go_enter Tryz.func35, Tryz.ntmps35
      go_wp2_with fail
      go_ret
      exact ⟨rfl, hb⟩
    · have g2 : decide (left - (nm.length : Int) - (tx.length : Int) < 0) = false := by simpa using c2
      rw [if_neg c2]
      go_enter Tryz.func35, Tryz.ntmps35
      go_wp2_with fail
      go_ret
      exact ⟨rfl, hb⟩


/-! ### A slice of files, where it lies -/
theorem cell_lt {w : World} {p : Addr} {u : Value} (h : w.cell? p = some u) : p.block < w.heap.size := by
  rcases Nat.lt_or_ge p.block w.heap.size with h1 | h1
  · exact h1
  · simp [World.cell?, Array.getElem?_eq_none h1] at h

theorem cell_spot {w : World} {p : Addr} {u : Value} (h : w.cell? p = some u) : p.spot = none := by
  unfold World.cell? at h
  split at h
  · split at h
    · cases h
    · simp_all
  · cases h

/-- A slice of files that reads as fs. -/
structure FilesAt (w : World) (oa : Option Addr) (n cap : Nat) (fs : List FileV) : Prop where
  len : fs.length = n
  room : n ≤ cap
  most : cap ≤ maxLen
  at_ : ∀ (i : Nat) (f : FileV), fs[i]? = some f → ∃ b o, oa = some ⟨b, o, none⟩ ∧ ∀ (j : Nat) u, (fcells f)[j]? = some u → w.cell? ⟨b, o + i * 3 + j, none⟩ = some u

theorem FilesAt.below {w w' : World} {oa : Option Addr} {n cap : Nat} {fs : List FileV} (h : FilesAt w oa n cap fs) (hb : Below w.heap.size w w') : FilesAt w' oa n cap fs :=
  ⟨h.len, h.room, h.most, fun i f hf => by
    obtain ⟨b, o, ha, hc⟩ := h.at_ i f hf
    refine ⟨b, o, ha, fun j u hu => ?_⟩
    have h1 := hc j u hu
    rw [hb.cell (cell_lt h1)]
    exact h1⟩

/-- The address of an element of a slice. -/
theorem run_indexAt_slice {P : Program} (wx : World) (t e : TypeId) (k : Nat) (ht : P.underlying t = some (.slice e)) (hi : (P.info? e).map (·.size) = some k) (b o n cap i : Nat) (h : i < n) :
    (Instr.indexAt t (.slice (some ⟨b, o, none⟩) n cap) (.int .i64 (i : Int))).run P wx = .ok (.pointer (some ⟨b, o + i * k, none⟩)) wx := by
  cases hq : P.info? e with
  | none => simp [hq] at hi
  | some x =>
    have hs : x.size = k := by simpa [hq] using hi
    have h1 : (0 : Int) ≤ (i : Int) ∧ (i : Int) < (n : Int) := by omega
    simp [Instr.indexAt, asIntOf, Sem.run_bind, run_underlying ht wx, sizeOf, typeInfo, hq, hs, h1, h, Addr.add_mid]

/-- One of them: its place, its three cells. -/
theorem FilesAt.get {w : World} {oa : Option Addr} {n cap : Nat} {fs : List FileV} (h : FilesAt w oa n cap fs) {P : Program} {t e : TypeId} (ht : P.underlying t = some (.slice e)) (hi : (P.info? e).map (·.size) = some 3) (i : Nat) (hin : i < n) :
    ∃ f b q, fs[i]? = some f ∧ (∀ wx, (Instr.indexAt t (.slice oa n cap) (.int .i64 (i : Int))).run P wx = .ok (.pointer (some ⟨b, q, none⟩)) wx) ∧ b < w.heap.size ∧
      w.cell? ⟨b, q, none⟩ = some (.string ⟨f.name.toArray⟩) ∧ w.cell? ⟨b, q + 1, none⟩ = some (.string ⟨f.text.toArray⟩) ∧ w.cell? ⟨b, q + 2, none⟩ = some (.int .i64 f.kept) := by
  obtain ⟨f, hf⟩ : ∃ f, fs[i]? = some f := ⟨_, List.getElem?_eq_getElem (by rw [h.len]; exact hin)⟩
  obtain ⟨b, o, rfl, hc⟩ := h.at_ i f hf
  refine ⟨f, b, o + i * 3, hf, fun wx => run_indexAt_slice wx t e 3 ht hi b o n cap i hin, ?_, hc 0 _ rfl, hc 1 _ rfl, hc 2 _ rfl⟩
  exact cell_lt (hc 0 _ rfl)

def szFsGo : List FileV → Int → Int
  | [], left => left
  | f :: r, left => if szF f left < 0 then -1 else szFsGo r (szF f left)
def szFs (fs : List FileV) (left : Int) : Int := if left - fs.length < 0 then -1 else szFsGo fs (left - fs.length)

theorem szFsGo_cons (f : FileV) (r : List FileV) (left : Int) : szFsGo (f :: r) left = if szF f left < 0 then -1 else szFsGo r (szF f left) := rfl

theorem szFsGo_neg : ∀ (fs : List FileV) (left : Int), 0 ≤ left → szFsGo fs left < 0 → szFsGo fs left = -1
  | [], left, h, h1 => by unfold szFsGo at h1; omega
  | f :: r, left, h, h1 => by
    rw [szFsGo_cons] at h1 ⊢
    split
    · rfl
    · rename_i c
      rw [if_neg c] at h1
      exact szFsGo_neg r _ (by omega) h1
theorem szFs_neg (fs : List FileV) (left : Int) (h1 : szFs fs left < 0) : szFs fs left = -1 := by
  unfold szFs at h1 ⊢
  split
  · rfl
  · rename_i c
    rw [if_neg c] at h1
    exact szFsGo_neg fs _ (by omega) h1

/-- How many bytes a list of files has. -/
def bytesOf : List FileV → Nat
  | [] => 0
  | f :: r => f.name.length + f.text.length + bytesOf r

theorem szF_pos {f : FileV} {left : Int} (h : 0 ≤ szF f left) : szF f left = left - f.name.length - f.text.length := by
  unfold szF at h ⊢
  split at h
  · omega
  · split at h
    · omega
    · rename_i c1 c2
      rw [if_neg c1, if_neg c2]

theorem szFsGo_pos : ∀ (fs : List FileV) (left : Int), 0 ≤ szFsGo fs left → szFsGo fs left = left - bytesOf fs
  | [], left, h => by simp [szFsGo, bytesOf]
  | f :: r, left, h => by
    rw [szFsGo_cons] at h ⊢
    split
    · rename_i c; rw [if_pos c] at h; omega
    · rename_i c
      rw [if_neg c] at h
      have h1 := szFsGo_pos r _ h
      have h2 := szF_pos (f := f) (left := left) (by omega)
      rw [h1, h2, bytesOf]
      omega
theorem szFs_pos (fs : List FileV) (left : Int) (h : 0 ≤ szFs fs left) : szFs fs left = left - fs.length - bytesOf fs := by
  unfold szFs at h ⊢
  split at h
  · omega
  · rename_i c
    rw [if_neg c]
    exact szFsGo_pos fs _ h

theorem bytesOf_mem : ∀ {fs : List FileV} {f : FileV}, f ∈ fs → f.name.length + f.text.length ≤ bytesOf fs
  | g :: r, f, h => by
    rw [bytesOf]
    rcases List.mem_cons.1 h with rfl | h
    · omega
    · have := bytesOf_mem h; omega

def Fine (f : FileV) : Prop := f.name.length ≤ 4194304 ∧ f.text.length ≤ 4194304 ∧ (Lit.int .i64 f.kept).wf = true
def Wide (f : FileV) : Prop := f.name.length ≤ maxLen ∧ f.text.length ≤ maxLen ∧ (Lit.int .i64 f.kept).wf = true

theorem szF_le (f : FileV) (left : Int) (h : 0 ≤ left) : szF f left ≤ left := by
  unfold szF
  split
  · omega
  · split <;> omega

theorem fine_of_sz {fs : List FileV} {left : Int} (h1 : left ≤ 1048576) (h : 0 ≤ szFs fs left) (hw : ∀ f ∈ fs, Wide f) : fs.length ≤ 1048576 ∧ ∀ f ∈ fs, Fine f := by
  have e := szFs_pos fs left h
  refine ⟨by omega, fun f hf => ?_⟩
  have := bytesOf_mem hf
  exact ⟨by omega, by omega, (hw f hf).2.2⟩

theorem infoLF : (Tryz.prog.info? 73).map (·.size) = some 3 := by kernel_rfl

theorem infoIF : (Tryz.prog.info? 49).map (·.size) = some 3 := by kernel_rfl

theorem szFileS_any (oa : Option Addr) (n cap : Nat) (fs : List FileV) (left : Int) (h0 : 0 ≤ left) (h1 : left ≤ 1048576) (w : World) (hat : FilesAt w oa n cap fs) (hw : ∀ f ∈ fs, Wide f) :
    Calls Tryz.prog 16 #[.slice oa n cap, .int .i64 left] w fun e w' => e = .returned (.int .i64 (szFs fs left)) ∧ Below w.heap.size w w' := by
  have hn := hat.len
  have hc := hat.room
  have hm := hat.most
  unfold maxLen at hm
  unfold szFs
  rw [hn]
  by_cases c1 : left - n < 0
  · have g1 : decide (left - (n : Int) < 0) = true := by simpa using c1
    rw [if_pos c1]
    go_enter Tryz.func16, Tryz.ntmps16
    go_wp2_with fail
    go_ret
    exact ⟨rfl, Below.refl _ _⟩
  · have g1 : decide (left - (n : Int) < 0) = false := by simpa using c1
    rw [if_neg c1]
    have HN := hide hn
    have HAT := hide hat
    have HW := hide hw
    clear hn hat hw
    go_enter Tryz.func16, Tryz.ntmps16
    go_wp2_with fail
    go_loopw [5, 1] (fun i l wr => ∃ (j : Nat) (x : Int), i = .int .i64 (j : Int) ∧ l = .int .i64 x ∧ j ≤ n ∧ 0 ≤ x ∧ x ≤ 1048576 ∧ szFsGo (fs.drop j) x = szFsGo fs (left - n) ∧ Below w.heap.size w wr) (fun i _ _ => n - (intOf i).toNat)
    case atStart => exact ⟨0, left - n, rfl, rfl, Nat.zero_le _, by omega, by omega, by simp, Below.refl _ _⟩
    case round =>
      obtain ⟨j, x, rfl, rfl, hj, hx0, hx1, hrest, hbel⟩ := hrel
      by_cases hlt : j < n
      · have j0 : (j : Int) < (n : Int) := by omega
        obtain ⟨f, b, q, hf, hidx, hb, c0, c1', c2⟩ := (HAT.out.below hbel).get Tryz.underlying22 infoLF j hlt
        have hwf := HW.out f (List.mem_of_getElem? hf)
        have hd : fs.drop j = f :: fs.drop (j + 1) := by
          rw [List.drop_eq_getElem_cons (by rw [HN.out]; exact hlt)]
          congr 1
          rw [List.getElem?_eq_getElem (by rw [HN.out]; exact hlt)] at hf
          exact Option.some.inj hf
        rw [hd, szFsGo_cons] at hrest
        have HR := hide hrest
        clear hrest hd
        by_cases c2 : szF f x < 0
        · have g2 : decide (szF f x < 0) = true := by simpa using c2
          have HR2 := HR.out
          rw [if_pos c2] at HR2
          have HR2 := hide HR2
          go_wp2_with (go_at_call 35; refine (szFile_any f x hx0 hx1 hwf.1 hwf.2.1 _).mono ?_; rintro e w2 ⟨rfl, hb2⟩)
          go_ret
          exact ⟨by rw [← HR2.out]; rfl, hbel.trans (hb2.mono hbel.size)⟩
        · have g2 : decide (szF f x < 0) = false := by simpa using c2
          have HR2 := HR.out
          rw [if_neg c2] at HR2
          have HR2 := hide HR2
          have hle := szF_le f x hx0
          go_wp2_with (go_at_call 35; refine (szFile_any f x hx0 hx1 hwf.1 hwf.2.1 _).mono ?_; rintro e w2 ⟨rfl, hb2⟩)
          go_roundw
          case rel => exact ⟨j + 1, szF f x, by go_num, rfl, by omega, by omega, by omega, HR2.out, hbel.trans (hb2.mono hbel.size)⟩
          case measure => simp [intOf]; omega
      · have hjn : j = n := by omega
        have HR := hide hrest
        go_wp2_with fail
        go_ret
        refine ⟨?_, hbel⟩
        rw [← HR.out, hjn, ← HN.out, List.drop_length]
        rfl

theorem szDisk_any (oa : Option Addr) (n cap : Nat) (fs : List FileV) (left : Int) (h0 : 0 ≤ left) (h1 : left ≤ 1048576) (w : World) (hat : FilesAt w oa n cap fs) (hw : ∀ f ∈ fs, Wide f) :
    Calls Tryz.prog 4 #[.agg #[.slice oa n cap], .int .i64 left] w fun e w' => e = .returned (.int .i64 (szFs fs left)) ∧ Below w.heap.size w w' := by
  have hb0 := (Below.refl w.heap.size w).alloc (Nat.le_refl _) (.cells #[.slice oa n cap] 24)
  have HAT := hide hat
  have HW := hide hw
  clear hat hw
  by_cases c : szFs fs left < 0
  · have g : decide (szFs fs left < 0) = true := by simpa using c
    have e1 := szFs_neg fs left c
    have E1 := hide e1
    clear e1
    go_enter Tryz.func4, Tryz.ntmps4
    go_wp2_with (go_at_call 16; refine (szFileS_any oa n cap fs left h0 h1 _ (HAT.out.below hb0) HW.out).mono ?_; rintro e w2 ⟨rfl, hb2⟩)
    go_ret
    exact ⟨by rw [E1.out]; rfl, hb0.trans (hb2.mono hb0.size)⟩
  · have g : decide (szFs fs left < 0) = false := by simpa using c
    go_enter Tryz.func4, Tryz.ntmps4
    go_wp2_with (go_at_call 16; refine (szFileS_any oa n cap fs left h0 h1 _ (HAT.out.below hb0) HW.out).mono ?_; rintro e w2 ⟨rfl, hb2⟩)
    go_ret
    exact ⟨rfl, hb0.trans (hb2.mono hb0.size)⟩

end Go.Proofs.YthbgklmnmoclhaaGreatDoor

namespace Go.Proofs.YthbgklmnmoclhaaGreatDoor
open Go.RowKit P5 K
set_option linter.unusedVariables false

/-- The first j files lie in the row. -/
def Filled (fs : List FileV) (j : Nat) (xs : List Value) : Prop := ∀ (i : Nat) f, i < j → fs[i]? = some f → ∀ (c : Nat) u, (fcells f)[c]? = some u → xs[i * 3 + c]? = some u

theorem filled_zero (fs : List FileV) (xs : List Value) : Filled fs 0 xs := fun i f h => absurd h (Nat.not_lt_zero _)

def set3 (xs : List Value) (j : Nat) (f : FileV) : List Value := ((xs.set (j * 3) (.string ⟨f.name.toArray⟩)).set (j * 3 + 1) (.string ⟨f.text.toArray⟩)).set (j * 3 + 2) (.int .i64 f.kept)

theorem filled_step {fs : List FileV} {j : Nat} {xs : List Value} (h : Filled fs j xs) {f : FileV} (hf : fs[j]? = some f) (hl : j * 3 + 3 ≤ xs.length) : Filled fs (j + 1) (set3 xs j f) := by
  intro i g hi hg c u hu
  have hc : c < 3 := by
    have := (List.getElem?_eq_some_iff.1 hu).1
    simpa [fcells] using this
  by_cases e : i = j
  · subst e
    rw [hf] at hg
    cases hg
    unfold set3
    match c, hc with
    | 0, _ =>
      simp only [fcells, List.getElem?_cons_zero] at hu
      cases hu
      rw [List.getElem?_set_ne (by omega), List.getElem?_set_ne (by omega), Nat.add_zero, List.getElem?_set_self (by omega)]
    | 1, _ =>
      simp only [fcells, List.getElem?_cons_succ, List.getElem?_cons_zero] at hu
      cases hu
      rw [List.getElem?_set_ne (by omega), List.getElem?_set_self (by simp; omega)]
    | 2, _ =>
      simp only [fcells, List.getElem?_cons_succ, List.getElem?_cons_zero] at hu
      cases hu
      rw [List.getElem?_set_self (by simp; omega)]
  · unfold set3
    rw [List.getElem?_set_ne (by omega), List.getElem?_set_ne (by omega), List.getElem?_set_ne (by omega)]
    exact h i g (by omega) hg c u hu

theorem filled_end {fs : List FileV} {n : Nat} {xs : List Value} (h : Filled fs n xs) (hn : fs.length = n) (hl : xs.length = n * 3) : xs = fs.flatMap fcells := by
  apply List.ext_getElem?
  intro k
  by_cases hk : k < n * 3
  · have h1 : k / 3 < fs.length := by omega
    have e1 : k = k / 3 * 3 + k % 3 := by omega
    obtain ⟨f, hf⟩ : ∃ f, fs[k / 3]? = some f := ⟨_, List.getElem?_eq_getElem h1⟩
    have hfe : fs[k / 3] = f := (List.getElem?_eq_some_iff.1 hf).2
    obtain ⟨u, hu⟩ : ∃ u, (fcells f)[k % 3]? = some u := ⟨_, List.getElem?_eq_getElem (by rw [fcells_length]; omega)⟩
    have h2 := h (k / 3) f (by omega) hf (k % 3) u hu
    rw [← e1] at h2
    have h3 := flat_get fcells 3 fcells_length fs (k / 3) (k % 3) h1 (by omega)
    rw [← e1, hfe] at h3
    rw [h2, h3, hu]
  · rw [List.getElem?_eq_none (by omega), List.getElem?_eq_none (by rw [flat_length fcells 3 fcells_length]; omega)]

/-- A struct stored into a row that the call owns. -/
theorem run_store3 {P : Program} {w : World} {base : Nat} {e ty : TypeId} {g n cap : Nat} {xs : List Value} (h : w.ownsRow base e 3 (.slice (some ⟨g, 0, none⟩) n cap) n xs) (j : Nat) (hj : j < n) (hi : (P.info? ty).map (·.size) = some 3) (f : FileV) :
    ∃ w', (Instr.storeAt ty (.pointer (some ⟨g, j * 3, none⟩)) (fval f)).run P w = .ok () w' ∧ w'.ownsRow base e 3 (.slice (some ⟨g, 0, none⟩) n cap) n (set3 xs j f) ∧ w.grownBy w' (some g) := by
  have hth : w.there g (j * 3) 3 := fun c hc => by
    have h1 : j * 3 + c < n * 3 := by omega
    exact ⟨by rw [h.cellAt (j * 3 + c) h1, List.getElem?_eq_getElem (by rw [h.1]; exact h1)]; rfl, h.frozenAt _⟩
  refine ⟨_, run_storeAt_mid w g (j * 3) ty #[.string ⟨f.name.toArray⟩, .string ⟨f.text.toArray⟩, .int .i64 f.kept] hth hi (by simp [Value.oneCell']), ?_, ?_⟩
  · exact (((h.stored (j * 3) _).1.stored (j * 3 + 1) _).1.stored (j * 3 + 2) _).1
  · exact grown_trans (grown_trans (h.stored (j * 3) _).2 ((h.stored (j * 3) _).1.stored (j * 3 + 1) _).2) (((h.stored (j * 3) _).1.stored (j * 3 + 1) _).1.stored (j * 3 + 2) _).2

theorem own_three {w : World} {base : Nat} {e : TypeId} {g n cap : Nat} {xs : List Value} (h : w.ownsRow base e 3 (.slice (some ⟨g, 0, none⟩) n cap) n xs) (j : Nat) (hj : j < n) :
    (∃ u, w.cell? ⟨g, j * 3, none⟩ = some u) ∧ (∃ u, w.cell? ⟨g, j * 3 + 1, none⟩ = some u) ∧ (∃ u, w.cell? ⟨g, j * 3 + 2, none⟩ = some u) := by
  have hl := h.1
  exact ⟨⟨_, by rw [h.cellAt (j * 3) (by omega), List.getElem?_eq_getElem (by omega)]⟩, ⟨_, by rw [h.cellAt (j * 3 + 1) (by omega), List.getElem?_eq_getElem (by omega)]⟩, ⟨_, by rw [h.cellAt (j * 3 + 2) (by omega), List.getElem?_eq_getElem (by omega)]⟩⟩

theorem own_set3 {w : World} {base : Nat} {e : TypeId} {g n cap : Nat} {xs : List Value} (h : w.ownsRow base e 3 (.slice (some ⟨g, 0, none⟩) n cap) n xs) (j : Nat) (f : FileV) :
    (((w.setCell ⟨g, j * 3, none⟩ (.string ⟨f.name.toArray⟩)).setCell ⟨g, j * 3 + 1, none⟩ (.string ⟨f.text.toArray⟩)).setCell ⟨g, j * 3 + 2, none⟩ (.int .i64 f.kept)).ownsRow base e 3 (.slice (some ⟨g, 0, none⟩) n cap) n (set3 xs j f) ∧
      w.grownBy (((w.setCell ⟨g, j * 3, none⟩ (.string ⟨f.name.toArray⟩)).setCell ⟨g, j * 3 + 1, none⟩ (.string ⟨f.text.toArray⟩)).setCell ⟨g, j * 3 + 2, none⟩ (.int .i64 f.kept)) (some g) :=
  ⟨(((h.stored (j * 3) _).1.stored (j * 3 + 1) _).1.stored (j * 3 + 2) _).1,
   grown_trans (grown_trans (h.stored (j * 3) _).2 ((h.stored (j * 3) _).1.stored (j * 3 + 1) _).2) (((h.stored (j * 3) _).1.stored (j * 3 + 1) _).1.stored (j * 3 + 2) _).2⟩

/-- A row of files that the call owns, as a slice of files. -/
theorem filesAt_of_own {w : World} {base : Nat} {e : TypeId} {v : Value} {n : Nat} {fs : List FileV} (h : w.ownsRow base e 3 v n (fs.flatMap fcells)) :
    ∃ oa cap, v = .slice oa n cap ∧ FilesAt w oa n cap fs := by
  have hlen : fs.length = n := by
    have := h.1
    rw [flat_length fcells 3 fcells_length] at this
    omega
  rcases h.2 with ⟨rfl, rfl⟩ | ⟨g, cap, cur, rfl, hb, hg, hnc, hcm, hcs, htake⟩
  · have : fs = [] := List.eq_nil_of_length_eq_zero hlen
    subst this
    exact ⟨none, 0, rfl, ⟨rfl, Nat.le_refl _, by unfold maxLen; omega, fun i f hf => by simp at hf⟩⟩
  · refine ⟨some ⟨g, 0, none⟩, cap, rfl, ⟨hlen, hnc, hcm, fun i f hf => ⟨g, 0, rfl, fun j u hu => ?_⟩⟩⟩
    have hi : i < fs.length := (List.getElem?_eq_some_iff.1 hf).1
    have hfe : fs[i] = f := (List.getElem?_eq_some_iff.1 hf).2
    have hj : j < 3 := by simpa [fcells] using (List.getElem?_eq_some_iff.1 hu).1
    have h3 := flat_get fcells 3 fcells_length fs i j hi hj
    rw [hfe, hu] at h3
    rw [Nat.zero_add]
    rw [h.cellAt (i * 3 + j) (by omega), h3]

theorem own_setCell {w : World} {base : Nat} {e : TypeId} {size : Nat} {v : Value} {n : Nat} {xs : List Value} (h : w.ownsRow base e size v n xs) {p : Addr} (hp : p.block < base) (u : Value) : (w.setCell p u).ownsRow base e size v n xs := by
  obtain ⟨h1, h2⟩ := h
  refine ⟨h1, ?_⟩
  rcases h2 with h2 | ⟨g, cap, cur, hv, hg, hh, r⟩
  · exact Or.inl h2
  · exact Or.inr ⟨g, cap, cur, hv, hg, (Below.heap_setCell w p u g (by omega)).trans hh, r⟩

theorem own_base {w : World} {base base' : Nat} {e : TypeId} {size : Nat} {v : Value} {n : Nat} {xs : List Value} (h : w.ownsRow base e size v n xs) (hb : base' ≤ base) : w.ownsRow base' e size v n xs := by
  obtain ⟨h1, h2⟩ := h
  refine ⟨h1, ?_⟩
  rcases h2 with h2 | ⟨g, cap, cur, hv, hg, r⟩
  · exact Or.inl h2
  · exact Or.inr ⟨g, cap, cur, hv, by omega, r⟩

/-- 'out = append(out, x)' of one struct of three cells, at a step of a region that draws its order. -/
theorem step_push3 {P : Program} {w : World} {ops : Array Oper} {o : Oper} {a : Act} {K : Act → World → Prop} {Q : Exit → Act → World → Prop} {E : Prop} (hgd : o.guard = none) (s x : Operand) (t : TypeId)
    (ho : o.op = .call { callee := .builtin .append, args := #[s, x], argTypes := #[t, t] })
    {base : Nat} {e : TypeId} {z : Value} {bytes : Nat} (ht : P.underlying t = some (.slice e)) (hi : (P.info? e).map (fun i => (i.zero, i.size, i.bytes)) = some (some z, 3, bytes)) (hzs : z.cells.size = 3)
    {v : Value} {n : Nat} {xs : List Value} (hs : a.eval s = v) (hown : w.ownsRow base e 3 v n xs)
    {b c : Nat} {cs : Array Value} (hx : a.eval x = .slice (some ⟨b, 0, none⟩) 1 c) (hm : cs.toList.length = 3) (hb : w.heap[b]? = some (.cells cs e (0, 0))) (hu : ∀ u ∈ cs.toList, u.oneCell' = true)
    (hbase : base ≤ w.heap.size) (h63 : n + 1 ≤ maxLen) (hbytes : (n + 1) * bytes ≤ 140737488355328)
    (h : ∀ v' w', w'.ownsRow base e 3 v' (n + 1) (xs ++ cs.toList) → w.grownBy w' v.ownBlock → K (a.put o.dst v') w') :
    if Region.wanted o (yielded ops a.tmps) = true then Oper.wp P o a w K Q else E := by
  obtain ⟨i, hi, hz, h1, h2⟩ := info_parts hi
  have hw : Region.wanted o (yielded ops a.tmps) = true := by simp [Region.wanted, hgd]
  rw [if_pos hw]
  refine wp_append_own w s x t ho base e i z 3 bytes ht hi hz h1 h2 hzs (by decide) v n xs hs hown ⟨b, 0, none⟩ 1 c cs.toList hx (by rw [hm]) (World.news_of_block hb) hu h63 hbytes hbase ?_
  intro v' w' hown' hgrow _
  exact h v' w' hown' hgrow

theorem grow_cell {w w' : World} {row : Option Nat} (h : w.grownBy w' row) {p : Addr} {u : Value} (hc : w.cell? p = some u) (hr : ∀ k, row = some k → p.block < k) : w'.cell? p = some u :=
  h.cell hc (fun e => by have := hr _ e.symm; omega)

theorem grow_frozen {w w' : World} {row : Option Nat} (h : w.grownBy w' row) {p : Addr} {u : Value} (hc : w.cell? p = some u) (hr : ∀ k, row = some k → p.block < k) (hf : w.frozen? p = false) : w'.frozen? p = false := by
  rw [World.frozen?_of_block (w := w) (h.block p.block (cell_lt hc) (fun e => by have := hr _ e.symm; omega))]
  exact hf

theorem infoIFz : (Tryz.prog.info? 49).map (fun i => (i.zero, i.size, i.bytes)) = some (some (.agg #[.string ⟨#[]⟩, .string ⟨#[]⟩, .int .i64 0]), 3, 40) := by kernel_rfl

end Go.Proofs.YthbgklmnmoclhaaGreatDoor

namespace Go.Proofs.YthbgklmnmoclhaaGreatDoor
open Go.RowKit P5 K
set_option linter.unusedVariables false
set_option linter.unusedSimpArgs false

/-- A slice of numbers that reads as zs. -/
structure IntsAt (w : World) (oa : Option Addr) (n cap : Nat) (zs : List Int) : Prop where
  len : zs.length = n
  room : n ≤ cap
  most : cap ≤ maxLen
  fits : ∀ z ∈ zs, (Lit.int .i64 z).wf = true
  at_ : ∀ (i : Nat) (z : Int), zs[i]? = some z → ∃ b o, oa = some ⟨b, o, none⟩ ∧ w.cell? ⟨b, o + i, none⟩ = some (.int .i64 z)

theorem IntsAt.below {w w' : World} {oa : Option Addr} {n cap : Nat} {zs : List Int} (h : IntsAt w oa n cap zs) (hb : Below w.heap.size w w') : IntsAt w' oa n cap zs :=
  ⟨h.len, h.room, h.most, h.fits, fun i z hz => by
    obtain ⟨b, o, ha, hc⟩ := h.at_ i z hz
    exact ⟨b, o, ha, by rw [hb.cell (cell_lt hc)]; exact hc⟩⟩

theorem IntsAt.get {w : World} {oa : Option Addr} {n cap : Nat} {zs : List Int} (h : IntsAt w oa n cap zs) {P : Program} {t e : TypeId} (ht : P.underlying t = some (.slice e)) (hi : (P.info? e).map (·.size) = some 1) (i : Nat) (hin : i < n) :
    ∃ z b q, zs[i]? = some z ∧ (∀ wx, (Instr.indexAt t (.slice oa n cap) (.int .i64 (i : Int))).run P wx = .ok (.pointer (some ⟨b, q, none⟩)) wx) ∧ b < w.heap.size ∧ w.cell? ⟨b, q, none⟩ = some (.int .i64 z) ∧ (Lit.int .i64 z).wf = true := by
  obtain ⟨z, hz⟩ : ∃ z, zs[i]? = some z := ⟨_, List.getElem?_eq_getElem (by rw [h.len]; exact hin)⟩
  obtain ⟨b, o, rfl, hc⟩ := h.at_ i z hz
  refine ⟨z, b, o + i, hz, fun wx => ?_, cell_lt hc, hc, h.fits z (List.mem_of_getElem? hz)⟩
  have := run_indexAt_slice wx t e 1 ht hi b o n cap i hin
  rwa [Nat.mul_one] at this

def icell (z : Int) : Value := .int .i64 z

theorem intsAt_of_own {w : World} {base : Nat} {e : TypeId} {v : Value} {n : Nat} {zs : List Int} (h : w.ownsRow base e 1 v n (zs.map icell)) (hf : ∀ z ∈ zs, (Lit.int .i64 z).wf = true) :
    ∃ oa cap, v = .slice oa n cap ∧ IntsAt w oa n cap zs := by
  have hlen : zs.length = n := by have := h.1; simpa using this
  rcases h.2 with ⟨rfl, rfl⟩ | ⟨g, cap, cur, rfl, hb, hg, hnc, hcm, hcs, htake⟩
  · have : zs = [] := List.eq_nil_of_length_eq_zero hlen
    subst this
    exact ⟨none, 0, rfl, ⟨rfl, Nat.le_refl _, by unfold maxLen; omega, hf, fun i f hf => by simp at hf⟩⟩
  · refine ⟨some ⟨g, 0, none⟩, cap, rfl, ⟨hlen, hnc, hcm, hf, fun i z hz => ⟨g, 0, rfl, ?_⟩⟩⟩
    have hi : i < zs.length := (List.getElem?_eq_some_iff.1 hz).1
    rw [Nat.zero_add, h.cellAt i (by omega)]
    simp [hz, icell]

theorem infoI : (Tryz.prog.info? 3).map (·.size) = some 1 := by kernel_rfl
theorem infoIz : (Tryz.prog.info? 3).map (fun i => (i.zero, i.size, i.bytes)) = some (some (.int .i64 0), 1, 8) := by kernel_rfl

end Go.Proofs.YthbgklmnmoclhaaGreatDoor
