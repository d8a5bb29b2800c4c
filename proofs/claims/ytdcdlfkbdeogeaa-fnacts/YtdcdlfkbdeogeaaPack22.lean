/-
  Draws of chapter 3: a name out of eight; a right disk.
  Draws of chapter 3: a right disk.
  Draws: once in n; one number of a list; a long text of one kind; the number and the text of FnNumbers.
-/
import Derived.Test.YtdcdlfkbdeogeaaPack3
import Derived.Test.YtdcdlfkbdeogeaaWalk3v
import Derived.Test.YtdcdlfkbdeogeaaWalk3r
import Derived.Test.YtdcdlfkbdeogeaaPlain8
import Derived.Deep.RegionLaw
import Derived.Deep.CutRange
import Derived.Deep.Cut
import Derived.Deep.DeepCutAuto
namespace Go.Proofs.Ytdcdlfkbdeogeaa
open Go.RowKit P5 K
set_option linter.unusedVariables false
set_option linter.unusedSimpArgs false

theorem infoSt : (Try.prog.info? 9).map (·.size) = some 1 := by kernel_rfl

set_option maxHeartbeats 1000000 in
theorem l01Pick_any (B p : Nat) (a : Option Addr) (len cap : Nat) (g k : Nat) (ns : List (List UInt8)) (w : World) (hc : CurAt B w p a len cap) (h0 : 0 < k) (h1 : k ≤ 1000) (hgp : g ≠ p) (hns : ∀ j, j < k → ∃ l, ns[j]? = some l ∧ w.cell? ⟨g, j, none⟩ = some (.string ⟨l.toArray⟩)) :
    Calls Try.prog 33 #[.pointer (some ⟨p, 0, none⟩), .slice (some ⟨g, 0, none⟩) k k] w fun e w' => ∃ l : List UInt8, l ∈ ns ∧ e = .returned (.string ⟨l.toArray⟩) ∧ CurAt B w' p a len cap ∧ w.grownBy w' (some p) := by
  have HC := hide hc
  have HNS := hide hns
  clear hc hns
  go_enter Try.func33, Try.ntmps33
  go_wp2_with fail
  refine (l01Below_any B p a len cap k h0 (by omega) _ HC.out).mono ?_
  rintro e w1 ⟨x, hx, rfl, hc1, hg1⟩
  obtain ⟨l, hl, hcell⟩ := HNS.out x hx
  have c1 := hg1.cell hcell (fun e => hgp (Option.some.inj e))
  have hidx : ∀ wx, (Instr.indexAt 66 (.slice (some ⟨g, 0, none⟩) k k) (.int .i64 (x : Int))).run Try.prog wx = .ok (.pointer (some ⟨g, x, none⟩)) wx := fun wx => by
    have := run_indexAt_slice wx 66 9 1 Try.underlying66 infoSt g 0 k k x hx
    rwa [Nat.zero_add, Nat.mul_one] at this
  have HM := hide (List.mem_of_getElem? hl)
  have HC1 := hide hc1
  have HG1 := hide hg1
  clear hl hcell hc1 hg1
  go_wp2_with fail
  go_ret
  exact ⟨l, HM.out, rfl, HC1.out, HG1.out⟩

def names8 : List (List UInt8) := [[97], [98], [99], [106, 48], [106, 49], [106, 43], [115, 48], [115, 43]]
theorem names8_ok : ∀ l ∈ names8, nameOk l = true := by decide

set_option maxHeartbeats 1000000 in
theorem l03Named_any (B p : Nat) (a : Option Addr) (len cap : Nat) (w : World) (hB : B ≤ w.heap.size) (hc : CurAt B w p a len cap) :
    Calls Try.prog 31 #[.pointer (some ⟨p, 0, none⟩)] w fun e w' => ∃ l : List UInt8, nameOk l = true ∧ e = .returned (.string ⟨l.toArray⟩) ∧ CurAt B w' p a len cap ∧ w.grownBy w' (some p) := by
  have hlt := hc.lt
  have hc1 : CurAt B (w.alloc (.cells #[.string ⟨#[97]⟩, .string ⟨#[98]⟩, .string ⟨#[99]⟩, .string ⟨#[106, 48]⟩, .string ⟨#[106, 49]⟩, .string ⟨#[106, 43]⟩, .string ⟨#[115, 48]⟩, .string ⟨#[115, 43]⟩] 9)) p a len cap := hc.kept ((Below.refl _ _).alloc hB _) (Below.heap_alloc w _ p hlt)
  have HC := hide hc1
  clear hc hc1
  have hns : ∀ j, j < 8 → ∃ l, names8[j]? = some l ∧ (w.alloc (.cells #[.string ⟨#[97]⟩, .string ⟨#[98]⟩, .string ⟨#[99]⟩, .string ⟨#[106, 48]⟩, .string ⟨#[106, 49]⟩, .string ⟨#[106, 43]⟩, .string ⟨#[115, 48]⟩, .string ⟨#[115, 43]⟩] 9)).cell? ⟨w.heap.size, j, none⟩ = some (.string ⟨l.toArray⟩) := by
    intro j hj
    have h := heap_alloc_new w (.cells #[.string ⟨#[97]⟩, .string ⟨#[98]⟩, .string ⟨#[99]⟩, .string ⟨#[106, 48]⟩, .string ⟨#[106, 49]⟩, .string ⟨#[106, 43]⟩, .string ⟨#[115, 48]⟩, .string ⟨#[115, 43]⟩] 9)
    have hc := cell_of_row _ _ j _ _ _ h
    match j, hj with
    | 0, _ => exact ⟨_, rfl, hc⟩
    | 1, _ => exact ⟨_, rfl, hc⟩
    | 2, _ => exact ⟨_, rfl, hc⟩
    | 3, _ => exact ⟨_, rfl, hc⟩
    | 4, _ => exact ⟨_, rfl, hc⟩
    | 5, _ => exact ⟨_, rfl, hc⟩
    | 6, _ => exact ⟨_, rfl, hc⟩
    | 7, _ => exact ⟨_, rfl, hc⟩
  have HNS := hide hns
  clear hns
  go_enter Try.func31, Try.ntmps31
  go_wp2_with fail
  refine (l01Pick_any B p a len cap w.heap.size 8 names8 _ HC.out (by omega) (by omega) (by omega) HNS.out).mono ?_
  rintro e w1 ⟨l, hl, rfl, hc1, hg1⟩
  have HL := hide (names8_ok l hl)
  clear hl
  go_wp2_with fail
  go_ret
  exact ⟨l, HL.out, rfl, hc1, grownBy_trans (World.grownBy_alloc w _ _) hg1⟩

end Go.Proofs.Ytdcdlfkbdeogeaa

namespace Go.Proofs.Ytdcdlfkbdeogeaa
open Go.RowKit P5 K
set_option linter.unusedVariables false
set_option linter.unusedSimpArgs false

/-- What the loop carries: the cursor, the answer's variable, the variable d. -/
structure RDisk (B p Kd : Nat) (a : Option Addr) (len cap : Nat) (w : World) (gs : List FileV) (ov : Option Addr) (cv : Nat) (wr : World) : Prop where
  cur : CurAt B wr p a len cap
  bel : Below w.heap.size w wr
  res : Boxed wr w.heap.size 26 (.slice none 0 0)
  out : Boxed wr Kd 26 (.slice ov gs.length cv)
  own : wr.ownsRow (Kd + 1) 49 3 (.slice ov gs.length cv) gs.length (gs.flatMap fcells)
  lp : w.heap.size < p
  lk : p < Kd
  hB : B ≤ w.heap.size

theorem RDisk.drawn {B p Kd : Nat} {a : Option Addr} {len cap : Nat} {w : World} {gs : List FileV} {ov : Option Addr} {cv : Nat} {w1 w2 : World} (h : RDisk B p Kd a len cap w gs ov cv w1) (hc : CurAt B w2 p a len cap) (hg : w1.grownBy w2 (some p)) : RDisk B p Kd a len cap w gs ov cv w2 := by
  have h1 := h.lp
  have h2 := h.lk
  refine ⟨hc, h.bel.grown hg h.bel.size (fun k hk => by cases hk; omega), h.res.kept hg (fun e => by have := Option.some.inj e; omega), h.out.kept hg (fun e => by have := Option.some.inj e; omega), ?_, h1, h2, h.hB⟩
  refine h.own.kept hg ?_
  cases hv : (Value.slice ov gs.length cv).ownBlock with
  | none => exact Or.inl rfl
  | some k =>
    right
    intro e
    have := (h.own.lt k hv).1
    have := Option.some.inj e
    omega

theorem RDisk.on {B p Kd : Nat} {a : Option Addr} {len cap : Nat} {w : World} {gs : List FileV} {ov : Option Addr} {cv : Nat} {w1 w2 : World} (h : RDisk B p Kd a len cap w gs ov cv w1) (hb : Below w1.heap.size w1 w2) : RDisk B p Kd a len cap w gs ov cv w2 := by
  have h1 := h.lp
  have h2 := h.lk
  have h3 := h.out.lt
  have h4 := h.hB
  have h5 := h.bel.size
  exact ⟨h.cur.kept (hb.mono (by omega)) (hb.block p (by omega)), h.bel.trans (hb.mono h5), (hb.block _ (by omega)).trans h.res, (hb.block _ h3).trans h.out, own_below h.own hb, h1, h2, h4⟩

theorem RDisk.undrew {B p Kd : Nat} {a : Option Addr} {len cap : Nat} {w : World} {gs : List FileV} {ov : Option Addr} {cv : Nat} {w1 : World} (h : RDisk B p Kd a len cap w gs ov cv w1) : RDisk B p Kd a len cap w gs ov cv w1.drew := h.on ((Below.refl _ _).drew)

theorem RDisk.put {B p Kd : Nat} {a : Option Addr} {len cap : Nat} {w : World} {gs hs : List FileV} {ov ov' : Option Addr} {cv cv' : Nat} {w1 w2 : World} (h : RDisk B p Kd a len cap w gs ov cv w1) (hb : Below w1.heap.size w1 w2) (ho : w2.ownsRow w1.heap.size 49 3 (.slice ov' hs.length cv') hs.length (hs.flatMap fcells)) :
    RDisk B p Kd a len cap w hs ov' cv' (w2.setCell ⟨Kd, 0, none⟩ (.slice ov' hs.length cv')) := by
  have h' := h.on hb
  have h1 := h.lp
  have h2 := h.lk
  have h3 := h.out.lt
  have h4 := h.hB
  have hg := grownBy_set w2 Kd 0 (.slice ov' hs.length cv')
  refine ⟨h'.cur.kept ((Below.refl _ _).setCell (by simp; omega) _) (Below.heap_setCell _ _ _ _ (by simp; omega)), h'.bel.setCell (by simp; omega) _, h'.res.kept hg (fun e => by have := Option.some.inj e; omega), h'.out.set _, own_base (own_setCell ho (by simp; omega) _) (by omega), h1, h2, h4⟩

theorem put_right {gs : List FileV} {f : FileV} {j : Nat} (h : diskOk gs = true) (hf : fileOk f = true) (hl : gs.length ≤ j) (hj : j < 6) : diskOk (put gs f) = true ∧ (put gs f).length ≤ j + 1 := by
  have h1 := length_put gs f ((diskOk_iff gs).1 h).2.2
  have h2 : (put gs f).length ≤ j + 1 := by
    rw [h1]
    split <;> omega
  exact ⟨(diskOk_put h f).2 ⟨hf, by omega⟩, h2⟩

theorem file_right {nm tx : List UInt8} {kp : Nat} (hn : nameOk nm = true) (ht : tx.length ≤ 30) (hk : kp < tx.length + 1) : fileOk ⟨nm, tx, (kp : Int)⟩ = true :=
  (fileOk_iff _).2 ⟨hn, by simp only; omega, by simp only; omega, by simp only; omega⟩

end Go.Proofs.Ytdcdlfkbdeogeaa

namespace Go.Proofs.Ytdcdlfkbdeogeaa
open Go.RowKit P1 K
set_option linter.unusedVariables false

theorem l01Once_any (B p : Nat) (a : Option Addr) (len cap : Nat) (n : Nat) (h0 : 0 < n) (h1 : n ≤ 4294967296) (w : World) (hc : CurAt B w p a len cap) :
    Calls Try.prog 37 #[.pointer (some ⟨p, 0, none⟩), .int .i64 (n : Int)] w fun e w' => ∃ b : Bool, e = .returned (.bool b) ∧ CurAt B w' p a len cap ∧ w.grownBy w' (some p) := by
  go_enter Try.func37, Try.ntmps37
  go_wp2_with fail
  refine (l01Below_any B p a len cap n h0 h1 _ hc).mono ?_
  rintro e w1 ⟨x, hx, rfl, hc1, hg1⟩
  go_wp2_with fail
  go_ret
  exact ⟨_, rfl, hc1, hg1⟩

theorem own_cell {w : World} {base : Nat} {e : TypeId} {g n cap : Nat} {xs : List Value} (h : w.ownsRow base e 1 (.slice (some ⟨g, 0, none⟩) n cap) n xs) (j : Nat) (u : Value) (hu : xs[j]? = some u) : w.cell? ⟨g, j, none⟩ = some u := by
  have := h.cells (g := g) rfl j u hu
  have ha : (⟨g, 0, none⟩ : Addr).add j = ⟨g, j, none⟩ := by unfold Addr.add; split <;> simp_all
  rwa [ha] at this

/-- Numbers as cells. -/
def I64z (l : List Int) : List Value := l.map (fun n : Int => Value.int .i64 n)

theorem l01PickInt_any (B p : Nat) (a : Option Addr) (len cap : Nat) (base : Nat) (v : Value) (xs : List Int) (h0 : 0 < xs.length) (h1 : xs.length ≤ 1000000) (w : World) (hp : p < base)
    (hown : w.ownsRow base 3 1 v xs.length (I64z xs)) (hc : CurAt B w p a len cap) :
    Calls Try.prog 32 #[.pointer (some ⟨p, 0, none⟩), v] w fun e w' => ∃ x ∈ xs, e = .returned (.int .i64 x) ∧ CurAt B w' p a len cap ∧ w.grownBy w' (some p) := by
  have HO := hide hown
  obtain ⟨hl, hnil | ⟨g, capP, cur, rfl, hgB, hgh, hcapP, hmaxP, hcurS, htake⟩⟩ := hown
  · omega
  clear hl hgh hcurS htake hmaxP
  go_enter Try.func32, Try.ntmps32
  go_wp2_with fail
  refine (l01Below_any B p a len cap xs.length h0 (by omega) _ hc).mono ?_
  rintro e w1 ⟨i, hi, rfl, hc1, hg1⟩
  have hown1 := HO.out.kept hg1 (by right; simp [Value.ownBlock]; omega)
  have hce := own_cell hown1 i (.int .i64 xs[i]) (by simp [I64z, hi])
  have i0 : (0 : Int) ≤ (i : Int) := by omega
  have i1 : (i : Int) < (xs.length : Int) := by omega
  have HC1 := hide hc1
  have HG1 := hide hg1
  clear hc1 hg1 hown1 hc HO
  go_wp2_with fail
  go_ret
  exact ⟨xs[i], List.getElem_mem _, rfl, HC1.out, HG1.out⟩

/-- The numbers at the edges. -/
def edges : List Int := [-1, 0, 127, 128, 16383, 16384, 1000000000, 1000000001, 9223372036854775807, -9223372036854775808]

theorem edges_in (x : Int) (h : x ∈ edges) : -9223372036854775808 ≤ x ∧ x ≤ 9223372036854775807 := by
  simp [edges] at h
  omega

theorem set_B8 (l : List UInt8) (k : Nat) (b : UInt8) : (B8 l).set k (.int .u8 (b.toNat : Int)) = B8 (l.set k b) := by simp [B8, List.map_set]

set_option maxHeartbeats 1000000 in
theorem l01Long_any (n : Nat) (hn : n ≤ 1000000) (b : UInt8) (w : World) :
    Calls Try.prog 35 #[.int .i64 (n : Int), .int .u8 (b.toNat : Int)] w fun e w' => ∃ l : List UInt8, l.length = n ∧ e = .returned (.string ⟨l.toArray⟩) ∧ Below w.heap.size w w' := by
  obtain ⟨i0, hi, hz0, hz1, hz2⟩ := info_parts infoByte
  have hbt := b.toNat_lt
  go_enter Try.func35, Try.ntmps35
  go_wp2_with (at_make; refine wpList_make_full _ rfl _ _ 22 rfl w.heap.size 5 i0 (.int .u8 0) 1 Try.underlying22 hi hz0 hz1 _ _ _ _ n rfl rfl (by omega) (by omega) (by rw [hz2]; omega) (by unfold maxLen; omega) (Nat.le_refl _) ?_)
  intro w1 hown0 hgrow0
  have hbel0 : Below w.heap.size w w1 := (Below.refl _ _).grown hgrow0 (Nat.le_refl _) (by intro k hk; cases hk)
  have hz : (madeCells #[Value.int .u8 0] n).toList = B8 (List.replicate n 0) := by rw [toList_madeCells_one]; simp [B8]
  rw [hz] at hown0
  have HO := hide hown0
  have HB := hide hbel0
  clear hgrow0 hown0 hbel0 hz
  go_wp2_with fail
  go_loopw [6] (fun i wr => ∃ (k : Nat) (l : List UInt8), i = .int .i64 (k : Int) ∧ k ≤ n ∧ l.length = n ∧ wr.ownsRow w.heap.size 5 1 (.slice (some ⟨w.heap.size, 0, none⟩) n n) n (B8 l) ∧ Below w.heap.size w wr) (fun i _ => n - (intOf i).toNat)
  case atStart => exact ⟨0, _, rfl, Nat.zero_le _, by simp, HO.out, HB.out⟩
  case round =>
    obtain ⟨k, l, rfl, hk, hl, hown, hbel⟩ := hrel
    have HL := hide hl
    clear hl HO HB
    have hsz := hbel.size
    by_cases hlt : k < n
    · have hfz := hown.frozenAt k
      have hce : wr.cell? ⟨w.heap.size, k, none⟩ = some (.int .u8 ((l[k]'(by rw [HL.out]; exact hlt)).toNat : Int)) := own_cell hown k _ (by simp [B8, HL.out, hlt])
      have hst := (hown.stored k (.int .u8 (b.toNat : Int))).1
      rw [set_B8] at hst
      have HST := hide hst
      have HBL := hide (hbel.setCell (p := ⟨w.heap.size, k, none⟩) (Nat.le_refl _) (.int .u8 (b.toNat : Int)))
      clear hst hown hbel
      go_wp2_with fail
      go_roundw
      case rel => exact ⟨k + 1, l.set k b, by go_num, by omega, by simp [HL.out], HST.out, HBL.out⟩
      case measure => simp [intOf]; omega
    · have hconv := run_string_own (P := Try.prog) (src := 22) (dst := 9) Try.underlying22 Try.underlying5 Try.underlying9 hown
      clear hown
      go_wp2_with fail
      go_ret
      exact ⟨l, HL.out, rfl, hbel⟩

end Go.Proofs.Ytdcdlfkbdeogeaa
