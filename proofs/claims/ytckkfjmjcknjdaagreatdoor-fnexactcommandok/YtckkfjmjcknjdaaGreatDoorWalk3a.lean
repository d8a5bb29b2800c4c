/-
  Walks of chapter 3: the laws' own small functions over files and disks (sizes).
-/
import Derived.Test.YtckkfjmjcknjdaaGreatDoorArgFlat
import Derived.Test.YtckkfjmjcknjdaaGreatDoorRows
import Derived.WalkSmall
import Derived.Deep.MidRow
namespace Go.Proofs.YtckkfjmjcknjdaaGreatDoor
open Go.RowKit P5 K
set_option linter.unusedVariables false

/-- A file as a value. -/
def fval (f : FileV) : Value := .agg #[.string ⟨f.name.toArray⟩, .string ⟨f.text.toArray⟩, .int .i64 f.kept]

def szF (f : FileV) (left : Int) : Int := if left - f.name.length < 0 then -1 else if left - f.name.length - f.text.length < 0 then -1 else left - f.name.length - f.text.length


/-! ### A slice of files, where it lies -/
theorem cell_lt {w : World} {p : Addr} {u : Value} (h : w.cell? p = some u) : p.block < w.heap.size := by
  rcases Nat.lt_or_ge p.block w.heap.size with h1 | h1
  · exact h1
  · simp [World.cell?, Array.getElem?_eq_none h1] at h

theorem cell_spot {w : World} {p : Addr} {u : Value} (h : w.cell? p = some u) : p.spot = none := by
  unfold World.cell? at h
  split at h
  · split at h
    · cases h
    · simp_all
  · cases h

/-- A slice of files that reads as fs. -/
structure FilesAt (w : World) (oa : Option Addr) (n cap : Nat) (fs : List FileV) : Prop where
  len : fs.length = n
  room : n ≤ cap
  most : cap ≤ maxLen
  at_ : ∀ (i : Nat) (f : FileV), fs[i]? = some f → ∃ b o, oa = some ⟨b, o, none⟩ ∧ ∀ (j : Nat) u, (fcells f)[j]? = some u → w.cell? ⟨b, o + i * 3 + j, none⟩ = some u

theorem FilesAt.below {w w' : World} {oa : Option Addr} {n cap : Nat} {fs : List FileV} (h : FilesAt w oa n cap fs) (hb : Below w.heap.size w w') : FilesAt w' oa n cap fs :=
  ⟨h.len, h.room, h.most, fun i f hf => by
    obtain ⟨b, o, ha, hc⟩ := h.at_ i f hf
    refine ⟨b, o, ha, fun j u hu => ?_⟩
    have h1 := hc j u hu
    rw [hb.cell (cell_lt h1)]
    exact h1⟩

/-- The address of an element of a slice. -/
theorem run_indexAt_slice {P : Program} (wx : World) (t e : TypeId) (k : Nat) (ht : P.underlying t = some (.slice e)) (hi : (P.info? e).map (·.size) = some k) (b o n cap i : Nat) (h : i < n) :
    (Instr.indexAt t (.slice (some ⟨b, o, none⟩) n cap) (.int .i64 (i : Int))).run P wx = .ok (.pointer (some ⟨b, o + i * k, none⟩)) wx := by
  cases hq : P.info? e with
  | none => simp [hq] at hi
  | some x =>
    have hs : x.size = k := by simpa [hq] using hi
    have h1 : (0 : Int) ≤ (i : Int) ∧ (i : Int) < (n : Int) := by omega
    simp [Instr.indexAt, asIntOf, Sem.run_bind, run_underlying ht wx, sizeOf, typeInfo, hq, hs, h1, h, Addr.add_mid]

/-- One of them: its place, its three cells. -/
theorem FilesAt.get {w : World} {oa : Option Addr} {n cap : Nat} {fs : List FileV} (h : FilesAt w oa n cap fs) {P : Program} {t e : TypeId} (ht : P.underlying t = some (.slice e)) (hi : (P.info? e).map (·.size) = some 3) (i : Nat) (hin : i < n) :
    ∃ f b q, fs[i]? = some f ∧ (∀ wx, (Instr.indexAt t (.slice oa n cap) (.int .i64 (i : Int))).run P wx = .ok (.pointer (some ⟨b, q, none⟩)) wx) ∧ b < w.heap.size ∧
      w.cell? ⟨b, q, none⟩ = some (.string ⟨f.name.toArray⟩) ∧ w.cell? ⟨b, q + 1, none⟩ = some (.string ⟨f.text.toArray⟩) ∧ w.cell? ⟨b, q + 2, none⟩ = some (.int .i64 f.kept) := by
  obtain ⟨f, hf⟩ : ∃ f, fs[i]? = some f := ⟨_, List.getElem?_eq_getElem (by rw [h.len]; exact hin)⟩
  obtain ⟨b, o, rfl, hc⟩ := h.at_ i f hf
  refine ⟨f, b, o + i * 3, hf, fun wx => run_indexAt_slice wx t e 3 ht hi b o n cap i hin, ?_, hc 0 _ rfl, hc 1 _ rfl, hc 2 _ rfl⟩
  exact cell_lt (hc 0 _ rfl)

def szFsGo : List FileV → Int → Int
  | [], left => left
  | f :: r, left => if szF f left < 0 then -1 else szFsGo r (szF f left)
def szFs (fs : List FileV) (left : Int) : Int := if left - fs.length < 0 then -1 else szFsGo fs (left - fs.length)

theorem szFsGo_cons (f : FileV) (r : List FileV) (left : Int) : szFsGo (f :: r) left = if szF f left < 0 then -1 else szFsGo r (szF f left) := rfl

theorem szFsGo_neg : ∀ (fs : List FileV) (left : Int), 0 ≤ left → szFsGo fs left < 0 → szFsGo fs left = -1
  | [], left, h, h1 => by unfold szFsGo at h1; omega
  | f :: r, left, h, h1 => by
    rw [szFsGo_cons] at h1 ⊢
    split
    · rfl
    · rename_i c
      rw [if_neg c] at h1
      exact szFsGo_neg r _ (by omega) h1
theorem szFs_neg (fs : List FileV) (left : Int) (h1 : szFs fs left < 0) : szFs fs left = -1 := by
  unfold szFs at h1 ⊢
  split
  · rfl
  · rename_i c
    rw [if_neg c] at h1
    exact szFsGo_neg fs _ (by omega) h1

/-- How many bytes a list of files has. -/
def bytesOf : List FileV → Nat
  | [] => 0
  | f :: r => f.name.length + f.text.length + bytesOf r

theorem szF_pos {f : FileV} {left : Int} (h : 0 ≤ szF f left) : szF f left = left - f.name.length - f.text.length := by
  unfold szF at h ⊢
  split at h
  · omega
  · split at h
    · omega
    · rename_i c1 c2
      rw [if_neg c1, if_neg c2]

theorem szFsGo_pos : ∀ (fs : List FileV) (left : Int), 0 ≤ szFsGo fs left → szFsGo fs left = left - bytesOf fs
  | [], left, h => by simp [szFsGo, bytesOf]
  | f :: r, left, h => by
    rw [szFsGo_cons] at h ⊢
    split
    · rename_i c; rw [if_pos c] at h; omega
    · rename_i c
      rw [if_neg c] at h
      have h1 := szFsGo_pos r _ h
      have h2 := szF_pos (f := f) (left := left) (by omega)
      rw [h1, h2, bytesOf]
      omega
theorem szFs_pos (fs : List FileV) (left : Int) (h : 0 ≤ szFs fs left) : szFs fs left = left - fs.length - bytesOf fs := by
  unfold szFs at h ⊢
  split at h
  · omega
  · rename_i c
    rw [if_neg c]
    exact szFsGo_pos fs _ h

theorem bytesOf_mem : ∀ {fs : List FileV} {f : FileV}, f ∈ fs → f.name.length + f.text.length ≤ bytesOf fs
  | g :: r, f, h => by
    rw [bytesOf]
    rcases List.mem_cons.1 h with rfl | h
    · omega
    · have := bytesOf_mem h; omega

def Fine (f : FileV) : Prop := f.name.length ≤ 4194304 ∧ f.text.length ≤ 4194304 ∧ (Lit.int .i64 f.kept).wf = true
def Wide (f : FileV) : Prop := f.name.length ≤ maxLen ∧ f.text.length ≤ maxLen ∧ (Lit.int .i64 f.kept).wf = true

theorem szF_le (f : FileV) (left : Int) (h : 0 ≤ left) : szF f left ≤ left := by
  unfold szF
  split
  · omega
  · split <;> omega

theorem fine_of_sz {fs : List FileV} {left : Int} (h1 : left ≤ 1048576) (h : 0 ≤ szFs fs left) (hw : ∀ f ∈ fs, Wide f) : fs.length ≤ 1048576 ∧ ∀ f ∈ fs, Fine f := by
  have e := szFs_pos fs left h
  refine ⟨by omega, fun f hf => ?_⟩
  have := bytesOf_mem hf
  exact ⟨by omega, by omega, (hw f hf).2.2⟩

end Go.Proofs.YtckkfjmjcknjdaaGreatDoor
