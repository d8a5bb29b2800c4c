/-
  Draws: a new cursor; a drawn text; places.
  Draws: a new cursor; the drawn text of FnTurned; places.
  Disks in plain words: files in order of their names, and what acts make of them.
  Rows of structs of plain cells: a list of things, k cells each, one behind the other.
-/
import Derived.Test.YtdcdlfkbdeogeaaDraw1
import Derived.Test.YtdcdlfkbdeogeaaPack1
namespace Go.Proofs.Ytdcdlfkbdeogeaa
open Go.RowKit P1 K
set_option linter.unusedVariables false

/-- 'out = append(out, x)' of one value of one cell; the world told by 'grownBy'. -/
theorem wpList_push_raw {P : Program} {W0 : World} {ops : Array Oper} {rest : List Oper} {o : Oper} {a : Act} {Q : Exit → Act → World → Prop} (hgd : o.guard = none) (s x : Operand) (t : TypeId)
    (ho : o.op = .call { callee := .builtin .append, args := #[s, x], argTypes := #[t, t] })
    {base : Nat} {e : TypeId} {z : Value} {bytes : Nat} (ht : P.underlying t = some (.slice e)) (hi : (P.info? e).map (fun i => (i.zero, i.size, i.bytes)) = some (some z, 1, bytes)) (hzs : z.cells.size = 1)
    {v : Value} {n : Nat} {xs : List Value} (hs : a.eval s = v) (hown : W0.ownsRow base e 1 v n xs)
    {u : Value} (hx : a.eval x = .slice (some ⟨W0.heap.size, 0, none⟩) 1 1) (hu : u.oneCell' = true)
    (hbase : base ≤ W0.heap.size) (h63 : n + 1 ≤ maxLen) (hbytes : (n + 1) * bytes ≤ 140737488355328)
    (h : ∀ v' w', w'.ownsRow base e 1 v' (n + 1) (xs ++ [u]) → W0.grownBy w' v.ownBlock → wpList P ops Q rest (a.put o.dst v') w') : wpList P ops Q (o :: rest) a (W0.alloc (.cells #[u] e)) := by
  obtain ⟨i, hi, hz, h1, h2⟩ := info_parts hi
  refine wpList_append_own _ hgd s x t ho base e i z 1 bytes ht hi hz h1 h2 hzs (by decide) v n xs hs (hown.alloc _) ⟨W0.heap.size, 0, none⟩ 1 1 [u] hx rfl ?_ ?_ h63 hbytes (by simp; omega) ?_
  · intro j y hj
    match j, hj with
    | 0, hj => simp at hj; subst hj; simp [Addr.add]
  · intro y hy; simp at hy; subst hy; exact hu
  · intro v' w' hown' hgrow _
    refine h v' w' hown' ⟨hgrow.os, hgrow.tape, hgrow.output, ?_, ?_⟩
    · have := hgrow.size; simp at this; omega
    · intro k hk hne
      rw [hgrow.block k (by simp; omega) hne]
      exact Below.heap_alloc W0 _ k hk

/-- What a loop carries that pushes what it draws. -/
structure Drawing (B p : Nat) (a : Option Addr) (len cap : Nat) (w : World) (e : TypeId) (v : Value) (n : Nat) (xs : List Value) (wr : World) : Prop where
  own : wr.ownsRow w.heap.size e 1 v n xs
  cur : CurAt B wr p a len cap
  grown : w.grownBy wr (some p)
  lt : p < w.heap.size

theorem Drawing.drawn {B p : Nat} {a : Option Addr} {len cap : Nat} {w : World} {e : TypeId} {v : Value} {n : Nat} {xs : List Value} {w1 w2 : World} (h : Drawing B p a len cap w e v n xs w1)
    (hc : CurAt B w2 p a len cap) (hg : w1.grownBy w2 (some p)) : Drawing B p a len cap w e v n xs w2 :=
  ⟨h.own.kept hg (by
    cases hv : v.ownBlock with
    | none => exact Or.inl rfl
    | some k =>
      right
      intro e1
      cases e1
      have := (h.own.lt p hv).1
      have := h.lt
      omega), hc, grownBy_trans h.grown hg, h.lt⟩

theorem Drawing.pushed {B p : Nat} {a : Option Addr} {len cap : Nat} {w : World} {e : TypeId} {v v' : Value} {n m : Nat} {xs ys : List Value} {w1 w2 : World} (h : Drawing B p a len cap w e v n xs w1)
    (hB : B ≤ w.heap.size) (ho : w2.ownsRow w.heap.size e 1 v' m ys) (hg : w1.grownBy w2 v.ownBlock) : Drawing B p a len cap w e v' m ys w2 := by
  have hlt := h.lt
  have hne : ∀ k, k < w.heap.size → some k ≠ v.ownBlock := fun k hk e1 => by have := (h.own.lt k e1.symm).1; omega
  have hs := h.grown.size
  refine ⟨ho, h.cur.kept ⟨hg.os, hg.tape, hg.output, hg.size, fun k hk => hg.block k (by omega) (hne k (by omega))⟩ (hg.block p (by omega) (hne p hlt)), ?_, hlt⟩
  exact ⟨hg.os.trans h.grown.os, hg.tape.trans h.grown.tape, hg.output.trans h.grown.output, Nat.le_trans hs hg.size, fun k hk hn => (hg.block k (by omega) (hne k hk)).trans (h.grown.block k hk hn)⟩

/-- The row of nothing that a loop begins with. -/
theorem Drawing.start {B p : Nat} {a : Option Addr} {len cap : Nat} {w : World} {e : TypeId} (hB : B ≤ w.heap.size) (hc : CurAt B w p a len cap) :
    Drawing B p a len cap w e (.slice (some ⟨w.heap.size, 0, none⟩) 0 0) 0 [] (w.alloc (.cells #[] e)) :=
  ⟨World.ownsRow_made (w := w) #[] 0 (Nat.le_refl _) (by decide) rfl, hc.kept ((Below.refl _ _).alloc hB _) (Below.heap_alloc w _ p hc.lt), World.grownBy_alloc w _ _, hc.lt⟩

set_option maxHeartbeats 1000000 in
theorem l01Text_any (B p : Nat) (a : Option Addr) (len cap : Nat) (n : Nat) (hn : n ≤ 5000) (w : World) (hB : B ≤ w.heap.size) (hc : CurAt B w p a len cap) :
    Calls Try.prog 29 #[.pointer (some ⟨p, 0, none⟩), .int .i64 (n : Int)] w fun e w' => ∃ l : List UInt8, l.length = n ∧ e = .returned (.string ⟨l.toArray⟩) ∧ CurAt B w' p a len cap ∧ w.grownBy w' (some p) := by
  have HS := hide (Drawing.start (e := 5) hB hc)
  clear hc
  have g1 : decide ((5000 : Int) < (n : Int)) = false := by simp; omega
  go_enter Try.func29, Try.ntmps29
  go_wp2_with fail
  go_loopw [5, 6] (fun v i wr => ∃ (k : Nat) (l : List UInt8), i = .int .i64 (k : Int) ∧ l.length = k ∧ k ≤ n ∧ Drawing B p a len cap w 5 v k (B8 l) wr) (fun _ i _ => n - (intOf i).toNat)
  case atStart => exact ⟨0, [], rfl, rfl, Nat.zero_le _, HS.out⟩
  case round =>
    obtain ⟨k, l, rfl, hl, hk, hd⟩ := hrel
    have HL := hide hl
    clear hl HS
    have HD := hide hd
    clear hd
    by_cases hlt : k < n
    · go_wp2_with fail
      refine (l01Byte_any B p a len cap _ HD.out.cur).mono ?_
      rintro e w1 ⟨x, hx, rfl, hc1, hg1⟩
      have HD1 := hide (HD.out.drawn hc1 hg1)
      clear hc1 hg1 HD
      have hsz : w.heap.size ≤ w1.heap.size := HD1.out.grown.size
      have ex := hide (toNat_ofNat_small x hx)
      go_wp2_with (at_builtin; refine wpList_push_raw rfl _ _ 22 rfl Try.underlying22 infoByte rfl rfl HD1.out.own rfl rfl hsz (by unfold maxLen; omega) (by omega) ?_)
      intro v' w2 hown2 hg2
      have hd2 := HD1.out.pushed hB hown2 hg2
      rw [B8_snoc l (UInt8.ofNat x) _ (by rw [ex.out])] at hd2
      have HD2 := hide hd2
      clear hown2 hg2 hd2 HD1
      go_wp2_with fail
      go_roundw
      case rel => exact ⟨k + 1, l ++ [UInt8.ofNat x], by go_num, by simp [HL.out], by omega, HD2.out⟩
      case measure => simp [intOf]; omega
    · have hkn : k = n := by omega
      have hconv := run_string_own (P := Try.prog) (src := 22) (dst := 9) Try.underlying22 Try.underlying5 Try.underlying9 HD.out.own
      go_wp2_with fail
      go_ret
      exact ⟨l, by rw [HL.out]; omega, rfl, HD.out.cur, HD.out.grown⟩

end Go.Proofs.Ytdcdlfkbdeogeaa

namespace Go.Proofs.Ytdcdlfkbdeogeaa
open Go.RowKit P1 K
set_option linter.unusedVariables false

theorem infoInt : (Try.prog.info? 3).map (fun i => (i.zero, i.size, i.bytes)) = some (some (.int .i64 0), 1, 8) := by kernel_rfl

/-- What is owned from a block on is owned from an earlier one on. -/
theorem own_mono {w : World} {b b' : Nat} {e : TypeId} {size : Nat} {v : Value} {n : Nat} {xs : List Value} (h : w.ownsRow b e size v n xs) (hb : b' ≤ b) : w.ownsRow b' e size v n xs :=
  ⟨h.1, h.2.imp id fun ⟨g, cap, cur, h1, h2, h3⟩ => ⟨g, cap, cur, h1, Nat.le_trans hb h2, h3⟩⟩

set_option maxHeartbeats 1000000 in
theorem l01New_any (B : Nat) (a : Option Addr) (len cap : Nat) (w : World) (hlen : len ≤ 1048576) (hB : B ≤ w.heap.size) (hcode : CodeAt B w a len) :
    Calls Try.prog 13 #[.slice a len cap] w fun e w' => e = .returned (.pointer (some ⟨w.heap.size, 0, none⟩)) ∧ CurAt B w' w.heap.size a len cap ∧ Below w.heap.size w w' := by
  have HC := hide hcode
  clear hcode
  have ha := and30
  go_enter Try.func13, Try.ntmps13
  go_wp2_with fail
  go_loop [3, 4] (fun h i => ∃ (k : Nat) (x : Int), i = .int .i64 (k : Int) ∧ h = .int .i64 x ∧ k ≤ len) (fun _ i => len - (intOf i).toNat)
  case atStart => exact ⟨0, _, rfl, rfl, Nat.zero_le _⟩
  case round =>
    obtain ⟨k, x, rfl, rfl, hk⟩ := hrel
    by_cases hlt : k < len
    · by_cases h4 : k < 4000
      · have g1 : decide ((k : Int) < (len : Int)) = true := by simp; omega
        have g2 : decide ((k : Int) < 4000) = true := by simp; omega
        obtain ⟨y, b, rfl, hx1, hx2⟩ := HC.out k hlt
        have hbt := b.toNat_lt
        go_wp2_with fail
        go_round
        case rel => exact ⟨k + 1, _, by go_num, rfl, by omega⟩
        case measure => simp [intOf]; omega
      · have g1 : decide ((k : Int) < (len : Int)) = true := by simp; omega
        have g2 : decide ((k : Int) < 4000) = false := by simp; omega
        go_wp2_with fail
        go_ret
        exact ⟨rfl, ⟨hB, hlen, HC.out.below ((Below.refl _ _).alloc hB _), 0, x, Nat.zero_le _, heap_alloc_new w _⟩, (Below.refl _ _).alloc (Nat.le_refl _) _⟩
    · have g1 : decide ((k : Int) < (len : Int)) = false := by simp; omega
      go_wp2_with fail
      go_ret
      exact ⟨rfl, ⟨hB, hlen, HC.out.below ((Below.refl _ _).alloc hB _), 0, x, Nat.zero_le _, heap_alloc_new w _⟩, (Below.refl _ _).alloc (Nat.le_refl _) _⟩

/-- Whole numbers as cells. -/
def I64 (l : List Nat) : List Value := l.map (fun n : Nat => Value.int .i64 (n : Int))

theorem I64_snoc (l : List Nat) (n : Nat) : I64 l ++ [.int .i64 (n : Int)] = I64 (l ++ [n]) := by simp [I64]

theorem big_no (a : Option Addr) (len cap : Nat) (h : len ≤ 1048576) (w : World) :
    Calls Try.prog 4 #[.slice a len cap] w fun e w' => e = .returned (.bool false) ∧ w = w' := by
  have g : decide ((1048576 : Int) < (len : Int)) = false := by simp; omega
  go_enter Try.func4, Try.ntmps4
  go_wp2_with fail
  go_ret
  exact ⟨rfl, rfl⟩

theorem big_yes (a : Option Addr) (len cap : Nat) (h : 1048576 < len) (w : World) :
    Calls Try.prog 4 #[.slice a len cap] w fun e w' => e = .returned (.bool true) ∧ w = w' := by
  have g : decide ((1048576 : Int) < (len : Int)) = true := by simp; omega
  go_enter Try.func4, Try.ntmps4
  go_wp2_with fail
  go_ret
  exact ⟨rfl, rfl⟩

end Go.Proofs.Ytdcdlfkbdeogeaa

namespace Go.Proofs.Ytdcdlfkbdeogeaa.P5

structure FileV where
  name : List UInt8
  text : List UInt8
  kept : Int
deriving DecidableEq

/-- Texts byte by byte, a beginning being less. -/
def ltB (x y : List UInt8) : Bool := decide (x < y)

def nameOk (s : List UInt8) : Bool := decide (1 ≤ s.length) && decide (s.length ≤ 8)
def fileOk (f : FileV) : Bool := nameOk f.name && decide (f.text.length ≤ 20000) && decide (0 ≤ f.kept) && decide (f.kept ≤ (f.text.length : Int))

/-- Each right, its name behind the one before. -/
def okFrom : Option (List UInt8) → List FileV → Bool
  | _, [] => true
  | p, f :: r => fileOk f && (match p with | none => true | some x => ltB x f.name) && okFrom (some f.name) r

def diskOk (d : List FileV) : Bool := decide (d.length ≤ 30) && okFrom none d

def fileAt (d : List FileV) (n : List UInt8) : Option FileV := d.find? fun f => f.name == n
def without (d : List FileV) (n : List UInt8) : List FileV := d.filter fun f => f.name != n
def put (d : List FileV) (f : FileV) : List FileV := (d.filter fun g => ltB g.name f.name) ++ f :: d.filter fun g => ltB f.name g.name

/-- What the power leaves of a file. -/
def leftOf (f : FileV) (n : Int) : Nat := (max (min n (f.text.length : Int)) f.kept).toNat
def loseF (f : FileV) (n : Int) : FileV := ⟨f.name, f.text.take (leftOf f n), (leftOf f n : Int)⟩
def lose (d : List FileV) (left : List Int) : List FileV := d.mapIdx fun i f => loseF f (left.getD i 0)

theorem fileOk_kept {f : FileV} (h : fileOk f = true) : 0 ≤ f.kept ∧ f.kept ≤ (f.text.length : Int) := by
  simp [fileOk] at h
  omega

theorem leftOf_le {f : FileV} (h : fileOk f = true) (n : Int) : leftOf f n ≤ f.text.length := by
  have := fileOk_kept h
  unfold leftOf
  omega

theorem kept_le_left {f : FileV} (h : fileOk f = true) (n : Int) : f.kept ≤ (leftOf f n : Int) := by
  have := fileOk_kept h
  unfold leftOf
  omega

/-- All that is left is kept. -/
theorem loseF_kept {f : FileV} (h : fileOk f = true) (n : Int) : (loseF f n).kept = ((loseF f n).text.length : Int) := by
  have := leftOf_le h n
  simp [loseF, List.length_take]
  omega

/-- Lost again, nothing more is lost. -/
theorem loseF_again {f : FileV} (h : fileOk f = true) (n m : Int) : loseF (loseF f n) m = loseF f n := by
  have h1 := loseF_kept h n
  have e : leftOf (loseF f n) m = (loseF f n).text.length := by
    unfold leftOf
    rw [h1]
    omega
  show FileV.mk (loseF f n).name ((loseF f n).text.take (leftOf (loseF f n) m)) (leftOf (loseF f n) m : Int) = loseF f n
  rw [e, List.take_length, ← h1]

end Go.Proofs.Ytdcdlfkbdeogeaa.P5

namespace Go.Proofs.Ytdcdlfkbdeogeaa.K
open Go.RowKit

theorem flat_length {α : Type} (f : α → List Value) (k : Nat) (hk : ∀ x, (f x).length = k) : ∀ xs : List α, (xs.flatMap f).length = xs.length * k
  | [] => by simp
  | x :: xs => by
    rw [List.flatMap_cons, List.length_append, hk, flat_length f k hk xs, List.length_cons, Nat.add_mul, Nat.one_mul, Nat.add_comm]

theorem flat_get {α : Type} (f : α → List Value) (k : Nat) (hk : ∀ x, (f x).length = k) : ∀ (xs : List α) (i j : Nat) (hi : i < xs.length), j < k → (xs.flatMap f)[i * k + j]? = (f xs[i])[j]?
  | x :: xs, 0, j, _, hj => by
    rw [List.flatMap_cons, List.getElem?_append_left (by rw [hk]; omega)]
    simp
  | x :: xs, i + 1, j, hi, hj => by
    rw [List.flatMap_cons, List.getElem?_append_right (by rw [hk, Nat.add_mul]; omega), hk, show (i + 1) * k + j - k = i * k + j by rw [Nat.add_mul]; omega]
    rw [flat_get f k hk xs i j (by simpa using hi) hj]
    simp

theorem flat_set {α : Type} (f : α → List Value) (k : Nat) (hk : ∀ x, (f x).length = k) (v : Value) : ∀ (xs : List α) (i j : Nat) (y : α) (hi : i < xs.length), j < k → f y = (f xs[i]).set j v → (xs.flatMap f).set (i * k + j) v = (xs.set i y).flatMap f
  | x :: xs, 0, j, y, _, hj, hy => by
    rw [List.flatMap_cons, Nat.zero_mul, Nat.zero_add, List.set_append_left _ _ (by rw [hk]; omega), List.set_cons_zero, List.flatMap_cons, hy]
    rfl
  | x :: xs, i + 1, j, y, hi, hj, hy => by
    rw [List.flatMap_cons, List.set_append_right _ _ (by rw [hk, Nat.add_mul]; omega), hk, show (i + 1) * k + j - k = i * k + j by rw [Nat.add_mul]; omega, List.set_cons_succ, List.flatMap_cons]
    rw [flat_set f k hk v xs i j y (by simpa using hi) hj (by simpa using hy)]

/-- A cell of an owned row. -/
theorem own_at {w : World} {base : Nat} {e : TypeId} {size g n cap : Nat} {xs : List Value} (h : w.ownsRow base e size (.slice (some ⟨g, 0, none⟩) n cap) n xs) (j : Nat) (u : Value) (hu : xs[j]? = some u) : w.cell? ⟨g, j, none⟩ = some u := by
  have := h.cells (g := g) rfl j u hu
  have ha : (⟨g, 0, none⟩ : Addr).add j = ⟨g, j, none⟩ := by unfold Addr.add; split <;> simp_all
  rwa [ha] at this

end Go.Proofs.Ytdcdlfkbdeogeaa.K
