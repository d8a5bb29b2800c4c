/-
  Small laws of our own over the guide's library: one value pushed to a row that the call owns; a row of bytes as a string.
  Facts at this translation that many walks use: bytes, texts as lists of bytes, an index into a text.
  Check sums in plain words: one step over a bit, a byte in two halves, and what a turned byte does.
-/
import Derived.WalkKit
import Derived.WalkSpells
import Derived.Laws.IdiomStrings
import Derived.Deep.AppendLies
import Derived.Test.YthbgklmnmoclhaaGreatDoorRows
import Derived.Test.YthbgklmnmoclhaaGreatDoorPlain1
namespace Go.Proofs.YthbgklmnmoclhaaGreatDoor.K
open Go.RowKit

theorem hide {p : Prop} (h : p) : Hid p := h

/-- Bytes as cells. -/
def B8 (l : List UInt8) : List Value := l.map (fun b => Value.int .u8 (b.toNat : Int))

theorem B8_length (l : List UInt8) : (B8 l).length = l.length := by simp [B8]

theorem B8_snoc (l : List UInt8) (b : UInt8) (x : Int) (h : x = (b.toNat : Int)) : B8 l ++ [.int .u8 x] = B8 (l ++ [b]) := by
  simp [B8, h]

theorem B8_append (l k : List UInt8) : B8 (l ++ k) = B8 l ++ B8 k := by simp [B8]

/-- 'out = append(out, x)' of one value of one cell: 'out' is nil or the call's own. -/
theorem wpList_push {P : Program} {W0 : World} {ops : Array Oper} {rest : List Oper} {o : Oper} {a : Act} {Q : Exit → Act → World → Prop} (hgd : o.guard = none) (s x : Operand) (t : TypeId)
    (ho : o.op = .call { callee := .builtin .append, args := #[s, x], argTypes := #[t, t] })
    {base : Nat} {e : TypeId} {z : Value} {bytes : Nat} (ht : P.underlying t = some (.slice e)) (hi : (P.info? e).map (fun i => (i.zero, i.size, i.bytes)) = some (some z, 1, bytes)) (hzs : z.cells.size = 1)
    {v : Value} {n : Nat} {xs : List Value} (hs : a.eval s = v) (hown : W0.ownsRow base e 1 v n xs)
    {u : Value} (hx : a.eval x = .slice (some ⟨W0.heap.size, 0, none⟩) 1 1) (hu : u.oneCell' = true)
    {W : World} (hbel : Below base W W0) (hbase : base ≤ W0.heap.size) (h63 : n + 1 ≤ maxLen) (hbytes : (n + 1) * bytes ≤ 140737488355328)
    (h : ∀ v' w', w'.ownsRow base e 1 v' (n + 1) (xs ++ [u]) → Below base W w' → W0.heap.size ≤ w'.heap.size → wpList P ops Q rest (a.put o.dst v') w') : wpList P ops Q (o :: rest) a (W0.alloc (.cells #[u] e)) := by
  obtain ⟨i, hi, hz, h1, h2⟩ := info_parts hi
  refine wpList_append_own _ hgd s x t ho base e i z 1 bytes ht hi hz h1 h2 hzs (by decide) v n xs hs (hown.alloc _) ⟨W0.heap.size, 0, none⟩ 1 1 [u] hx rfl ?_ ?_ h63 hbytes (by simp; omega) ?_
  · intro j y hj
    match j, hj with
    | 0, hj => simp at hj; subst hj; simp [Addr.add]
  · intro y hy; simp at hy; subst hy; exact hu
  · intro v' w' hown' hgrow _
    refine h v' w' hown' ?_ ?_
    · refine (hbel.alloc hbase _).grown hgrow (by simp; omega) ?_
      intro k hk
      exact (hown.lt k hk).1
    · have := hgrow.size; simp at this; omega

/-- Draws turn nothing that 'Below' speaks of. -/
theorem below_eq {B : Nat} {a w w' : World} (h : Below B a w) (h1 : w'.os = w.os) (h2 : w'.tape = w.tape) (h3 : w'.output = w.output) (h4 : w'.heap = w.heap) : Below B a w' :=
  ⟨h1.trans h.os, h2.trans h.tape, h3.trans h.output, by rw [h4]; exact h.size, fun k hk => by rw [h4]; exact h.block k hk⟩

theorem below_from {w0 w w' : World} (h : Below w0.heap.size w0 w') (h1 : w0.os = w.os) (h2 : w0.tape = w.tape) (h3 : w0.output = w.output) (h4 : w0.heap = w.heap) : Below w.heap.size w w' :=
  ⟨h.os.trans h1, h.tape.trans h2, h.output.trans h3, by rw [← h4]; exact h.size, fun k hk => by rw [← h4] at hk ⊢; exact h.block k hk⟩

/-- 'out = append(out, x, y ..)' of values of one cell each, at a step of a region that draws its order. -/
theorem step_push {P : Program} {w : World} {ops : Array Oper} {o : Oper} {a : Act} {K : Act → World → Prop} {Q : Exit → Act → World → Prop} {E : Prop} (hgd : o.guard = none) (s x : Operand) (t : TypeId)
    (ho : o.op = .call { callee := .builtin .append, args := #[s, x], argTypes := #[t, t] })
    {base : Nat} {e : TypeId} {z : Value} {bytes : Nat} (ht : P.underlying t = some (.slice e)) (hi : (P.info? e).map (fun i => (i.zero, i.size, i.bytes)) = some (some z, 1, bytes)) (hzs : z.cells.size = 1)
    {v : Value} {n : Nat} {xs : List Value} (hs : a.eval s = v) (hown : w.ownsRow base e 1 v n xs)
    {b m c : Nat} {cs : Array Value} (hx : a.eval x = .slice (some ⟨b, 0, none⟩) m c) (hm : cs.toList.length = m) (hb : w.heap[b]? = some (.cells cs e (0, 0))) (hu : ∀ u ∈ cs.toList, u.oneCell' = true)
    {W : World} (hbel : Below base W w) (hbase : base ≤ w.heap.size) (h63 : n + m ≤ maxLen) (hbytes : (n + m) * bytes ≤ 140737488355328)
    (h : ∀ v' w', w'.ownsRow base e 1 v' (n + m) (xs ++ cs.toList) → Below base W w' → w.heap.size ≤ w'.heap.size → K (a.put o.dst v') w') :
    if Region.wanted o (yielded ops a.tmps) = true then Oper.wp P o a w K Q else E := by
  obtain ⟨i, hi, hz, h1, h2⟩ := info_parts hi
  have hw : Region.wanted o (yielded ops a.tmps) = true := by simp [Region.wanted, hgd]
  rw [if_pos hw]
  refine wp_append_own w s x t ho base e i z 1 bytes ht hi hz h1 h2 hzs (by decide) v n xs hs hown ⟨b, 0, none⟩ m c cs.toList hx (by rw [hm]; omega) (World.news_of_block hb) hu h63 hbytes hbase ?_
  intro v' w' hown' hgrow _
  exact h v' w' hown' (hbel.grown hgrow hbase (fun k hk => (hown.lt k hk).1)) hgrow.size

/-- 'string(b)' where b is a row of bytes that the call owns. -/
theorem run_string_own {P : Program} {w : World} {src dst e : TypeId} (hs : P.underlying src = some (.slice e)) (he : P.underlying e = some (.int .u8)) (hd : P.underlying dst = some .string)
    {base n : Nat} {v : Value} {l : List UInt8} (hown : w.ownsRow base e 1 v n (B8 l)) :
    (convert src dst v).run P w = .ok (.string ⟨l.toArray⟩) w := by
  have hn : l.length = n := by have := hown.1; simp [B8] at this; exact this
  rcases hown.2 with ⟨rfl, rfl⟩ | ⟨g, cap, cur, rfl, _, hg, _⟩
  · have : l = [] := List.eq_nil_of_length_eq_zero hn
    subst this
    rw [run_convert_bytes_string w src dst e none 0 0 hs he hd]
    simp [Conv.bytesToString]
    rfl
  · subst hn
    refine run_convert_bytes_back w src dst e ⟨g, 0, none⟩ cap l hs he hd ?_
    intro j hj
    refine hown.cells (g := g) rfl j _ ?_
    simp [B8, hj]

/-- 'string([]byte{b})'. -/
theorem run_string_one {P : Program} (w : World) {src dst e : TypeId} (hs : P.underlying src = some (.slice e)) (he : P.underlying e = some (.int .u8)) (hd : P.underlying dst = some .string) (b : UInt8) :
    (convert src dst (.slice (some ⟨w.heap.size, 0, none⟩) 1 1)).run P (w.alloc (.cells #[.int .u8 (b.toNat : Int)] e)) = .ok (.string ⟨#[b]⟩) (w.alloc (.cells #[.int .u8 (b.toNat : Int)] e)) :=
  run_string_own (l := [b]) hs he hd (World.ownsRow_lit (base := w.heap.size) (size := 1) w #[.int .u8 (b.toNat : Int)] 1 (Nat.le_refl _) (by decide) rfl)

/-- A row that lies in old memory stays where only new memory is written. -/
theorem own_below {w w' : World} {base : Nat} {e : TypeId} {size : Nat} {v : Value} {n : Nat} {xs : List Value} (h : w.ownsRow base e size v n xs) (hb : Below w.heap.size w w') : w'.ownsRow base e size v n xs := by
  obtain ⟨h1, h2⟩ := h
  refine ⟨h1, ?_⟩
  rcases h2 with h2 | ⟨g, cap, cur, hv, hg, hh, r⟩
  · exact Or.inl h2
  · refine Or.inr ⟨g, cap, cur, hv, hg, ?_, r⟩
    rw [hb.block g ?_]; exact hh
    rcases Nat.lt_or_ge g w.heap.size with hlt | hge
    · exact hlt
    · rw [Array.getElem?_eq_none hge] at hh; cases hh

theorem grown_trans {a b c : World} {row : Option Nat} (h : a.grownBy b row) (k : b.grownBy c row) : a.grownBy c row :=
  ⟨k.os.trans h.os, k.tape.trans h.tape, k.output.trans h.output, Nat.le_trans h.size k.size, fun i hi hne => (k.block i (Nat.lt_of_lt_of_le hi h.size) hne).trans (h.block i hi hne)⟩
theorem grown_below {a b : World} {row : Option Nat} (h : Below a.heap.size a b) : a.grownBy b row := ⟨h.os, h.tape, h.output, h.size, fun i hi _ => h.block i hi⟩

theorem cat_one (b : UInt8) (t : List UInt8) : (⟨#[b]⟩ : ByteArray) ++ ⟨t.toArray⟩ = ⟨(b :: t).toArray⟩ := by
  apply ByteArray.ext
  simp

end Go.Proofs.YthbgklmnmoclhaaGreatDoor.K

namespace Go.Proofs.YthbgklmnmoclhaaGreatDoor
open Go.RowKit P1 K
set_option linter.unusedVariables false

theorem infoByte : (Tryz.prog.info? 5).map (fun i => (i.zero, i.size, i.bytes)) = some (some (.int .u8 0), 1, 1) := by kernel_rfl

theorem toNat_ofNat_small (x : Nat) (h : x < 256) : (UInt8.ofNat x).toNat = x := by
  simp [UInt8.toNat_ofNat']; omega

/-- The bytes of a text. -/
abbrev bl (s : ByteArray) : List UInt8 := s.data.toList

theorem bl_length (s : ByteArray) : (bl s).length = s.size := by simp

theorem bl_drop (s : ByteArray) (p : Nat) (h : p < s.size) : (bl s).drop p = s[p] :: (bl s).drop (p + 1) := by
  rw [List.drop_eq_getElem_cons (by simpa using h)]; rfl

theorem bl_take (s : ByteArray) (k : Nat) (h : k < s.size) : (bl s).take (k + 1) = (bl s).take k ++ [s[k]] := by
  rw [List.take_succ_eq_append_getElem (by simpa using h)]; rfl

/-- An index into a text, within its bounds. -/
theorem idx_any (s : ByteArray) (kd : IntKind) (k : Nat) (h : k < s.size) (wx : World) : (Instr.index 9 (.string s) (.int kd (k : Int))).run Tryz.prog wx = .ok (.int .u8 (s[k].toNat : Int)) wx := by
  rw [run_index_string (P := Tryz.prog) wx 9 s kd (k : Int) Tryz.underlying9, dif_pos ⟨by omega, by omega⟩]; rfl

/-- The sixteen figures as the program has them. -/
theorem idx_hex (kd : IntKind) (n : Nat) (h : n < 16) (wx : World) : (Instr.index 9 (.string ⟨#[48, 49, 50, 51, 52, 53, 54, 55, 56, 57, 97, 98, 99, 100, 101, 102]⟩) (.int kd (n : Int))).run Tryz.prog wx = .ok (.int .u8 ((figB n).toNat : Int)) wx := by
  rw [run_index_string (P := Tryz.prog) wx 9 _ kd (n : Int) Tryz.underlying9, dif_pos ⟨by omega, by show (n : Int) < 16; omega⟩]
  rcases (show n = 0 ∨ n = 1 ∨ n = 2 ∨ n = 3 ∨ n = 4 ∨ n = 5 ∨ n = 6 ∨ n = 7 ∨ n = 8 ∨ n = 9 ∨ n = 10 ∨ n = 11 ∨ n = 12 ∨ n = 13 ∨ n = 14 ∨ n = 15 by omega) with h | h | h | h | h | h | h | h | h | h | h | h | h | h | h | h <;> (subst h; rfl)

end Go.Proofs.YthbgklmnmoclhaaGreatDoor

namespace Go.Proofs.YthbgklmnmoclhaaGreatDoor.P3

/-- One step: half of it (down), and the figure when it was odd. -/
def half (s : Nat) : Nat := if s % 2 = 1 then s / 2 ^^^ 3558460437 else s / 2

def halfs : Nat → Nat → Nat
  | 0, s => s
  | n + 1, s => halfs n (half s)

def sumB (s : Nat) (b : UInt8) : Nat := halfs 8 (s ^^^ b.toNat)

def sumL (s : Nat) (l : List UInt8) : Nat := l.foldl sumB s

theorem sumL_nil (s : Nat) : sumL s [] = s := rfl
theorem sumL_cons (s : Nat) (b : UInt8) (l : List UInt8) : sumL s (b :: l) = sumL (sumB s b) l := rfl
theorem sumL_append (s : Nat) (l k : List UInt8) : sumL s (l ++ k) = sumL (sumL s l) k := by simp [sumL]
theorem sumL_snoc (s : Nat) (l : List UInt8) (b : UInt8) : sumL s (l ++ [b]) = sumB (sumL s l) b := by simp [sumL]

theorem xor_div2 (a b : Nat) : (a ^^^ b) / 2 = a / 2 ^^^ b / 2 := by
  apply Nat.eq_of_testBit_eq
  intro i
  rw [Nat.testBit_xor, ← Nat.testBit_succ, ← Nat.testBit_succ, ← Nat.testBit_succ, Nat.testBit_xor]

theorem xor_mod2 (a b : Nat) : (a ^^^ b) % 2 = (a + b) % 2 := by
  have h := Nat.xor_mod_two_pow (a := a) (b := b) (n := 1)
  rw [show (2 ^ 1 : Nat) = 2 from rfl] at h
  rw [h]
  rcases Nat.mod_two_eq_zero_or_one a with ha | ha <;> rcases Nat.mod_two_eq_zero_or_one b with hb | hb <;> rw [ha, hb]
  · show 0 = _; omega
  · show 1 = _; omega
  · show 1 = _; omega
  · show 0 = _; omega

theorem half_xor (a b : Nat) : half (a ^^^ b) = half a ^^^ half b := by
  unfold half
  rw [xor_mod2, xor_div2]
  rcases Nat.mod_two_eq_zero_or_one a with ha | ha <;> rcases Nat.mod_two_eq_zero_or_one b with hb | hb
  · rw [if_neg (by omega), if_neg (by omega), if_neg (by omega)]
  · rw [if_pos (by omega), if_neg (by omega), if_pos (by omega), Nat.xor_assoc]
  · rw [if_pos (by omega), if_pos (by omega), if_neg (by omega), Nat.xor_assoc, Nat.xor_assoc, Nat.xor_comm (b / 2)]
  · rw [if_neg (by omega), if_pos (by omega), if_pos (by omega)]
    rw [Nat.xor_assoc, Nat.xor_comm 3558460437, Nat.xor_assoc, Nat.xor_self, Nat.xor_zero]

theorem halfs_xor (n : Nat) : ∀ a b, halfs n (a ^^^ b) = halfs n a ^^^ halfs n b := by
  induction n with
  | zero => intro a b; rfl
  | succ n ih => intro a b; show halfs n (half (a ^^^ b)) = _; rw [half_xor, ih]; rfl

theorem half_lt (s : Nat) (h : s < 4294967296) : half s < 4294967296 := by
  unfold half
  split
  · exact Nat.xor_lt_two_pow (n := 32) (by omega) (by decide)
  · omega

theorem halfs_lt (n : Nat) : ∀ s, s < 4294967296 → halfs n s < 4294967296 := by
  induction n with
  | zero => intro s h; exact h
  | succ n ih => intro s h; exact ih _ (half_lt s h)

theorem halfs_add (m n s : Nat) : halfs (m + n) s = halfs n (halfs m s) := by
  induction m generalizing s with
  | zero => rw [Nat.zero_add]; rfl
  | succ m ih => rw [Nat.succ_add]; exact ih _

theorem halfs_one (n s : Nat) : halfs (n + 1) s = half (halfs n s) := by rw [halfs_add]; rfl

theorem half_even (q : Nat) : half (2 * q) = q := by unfold half; rw [if_neg (by omega)]; omega

theorem xor_byte_lt (s : Nat) (b : UInt8) (h : s < 4294967296) : s ^^^ b.toNat < 4294967296 :=
  Nat.xor_lt_two_pow (n := 32) h (Nat.lt_trans b.toNat_lt (by decide))

theorem sumB_lt (s : Nat) (b : UInt8) (h : s < 4294967296) : sumB s b < 4294967296 := halfs_lt 8 _ (xor_byte_lt s b h)

theorem sumL_lt (l : List UInt8) : ∀ s, s < 4294967296 → sumL s l < 4294967296 := by
  induction l with
  | nil => intro s h; exact h
  | cons b l ih => intro s h; exact ih _ (sumB_lt s b h)

/-- Four steps at once: the rest goes down, the lowest four bits by a table. -/
theorem split16 (s : Nat) : s = (16 * (s / 16)) ^^^ (s % 16) := by
  have e : 16 * (s / 16) ^^^ s % 16 = 16 * (s / 16) + s % 16 := by
    have h := Nat.two_pow_add_eq_or_of_lt (i := 4) (b := s % 16) (by omega) (s / 16)
    rw [show (2 ^ 4 : Nat) = 16 from rfl] at h
    rw [h]
    apply Nat.eq_of_testBit_eq
    intro i
    rw [Nat.testBit_xor, Nat.testBit_or]
    by_cases hi : i < 4
    · have : (16 * (s / 16)).testBit i = false := by
        rw [show (16 : Nat) = 2 ^ 4 from rfl, Nat.testBit_two_pow_mul]; simp; omega
      rw [this]; simp
    · have : (s % 16).testBit i = false := by
        rw [show (16 : Nat) = 2 ^ 4 from rfl, Nat.testBit_mod_two_pow]; simp; omega
      rw [this]; simp
  omega

theorem four_up (q : Nat) : halfs 4 (16 * q) = q := by
  show half (half (half (half (16 * q)))) = q
  rw [show 16 * q = 2 * (2 * (2 * (2 * q))) by omega, half_even, half_even, half_even, half_even]

theorem four_split (s : Nat) : halfs 4 s = s / 16 ^^^ halfs 4 (s % 16) := by
  conv => lhs; rw [split16 s]
  rw [halfs_xor, four_up]

theorem eight_four (s : Nat) : halfs 8 s = halfs 4 (halfs 4 s) := halfs_add 4 4 s

/-- A step turns different sums into different ones. -/
theorem half_zero (s : Nat) (h : s < 4294967296) (hz : half s = 0) : s = 0 := by
  unfold half at hz
  split at hz
  · have : s / 2 = 3558460437 := by
      have h1 : (s / 2 ^^^ 3558460437) ^^^ 3558460437 = 3558460437 := by rw [hz, Nat.zero_xor]
      rw [Nat.xor_assoc, Nat.xor_self, Nat.xor_zero] at h1
      exact h1
    omega
  · omega

theorem halfs_zero (n : Nat) : ∀ s, s < 4294967296 → halfs n s = 0 → s = 0 := by
  induction n with
  | zero => intro s _ h; exact h
  | succ n ih => intro s h hz; exact half_zero s h (ih _ (half_lt s h) hz)

theorem xor_zero_eq (a b : Nat) (h : a ^^^ b = 0) : a = b := by
  have h1 : (a ^^^ b) ^^^ b = b := by rw [h, Nat.zero_xor]
  rw [Nat.xor_assoc, Nat.xor_self, Nat.xor_zero] at h1
  exact h1

theorem halfs_inj (n a b : Nat) (ha : a < 4294967296) (hb : b < 4294967296) (h : halfs n a = halfs n b) : a = b := by
  apply xor_zero_eq
  apply halfs_zero n _ (Nat.xor_lt_two_pow (n := 32) ha hb)
  rw [halfs_xor, h, Nat.xor_self]

theorem xor_right_inj (a b c : Nat) (h : a ^^^ c = b ^^^ c) : a = b := by
  have h1 : (a ^^^ c) ^^^ c = (b ^^^ c) ^^^ c := by rw [h]
  rw [Nat.xor_assoc, Nat.xor_assoc, Nat.xor_self, Nat.xor_zero, Nat.xor_zero] at h1
  exact h1

theorem sumB_inj (s t : Nat) (b : UInt8) (hs : s < 4294967296) (ht : t < 4294967296) (h : sumB s b = sumB t b) : s = t :=
  xor_right_inj s t b.toNat (halfs_inj 8 _ _ (xor_byte_lt s b hs) (xor_byte_lt t b ht) h)

theorem sumB_byte (s : Nat) (b c : UInt8) (hs : s < 4294967296) (h : sumB s b = sumB s c) : b = c := by
  have h1 := halfs_inj 8 _ _ (xor_byte_lt s b hs) (xor_byte_lt s c hs) h
  rw [Nat.xor_comm s, Nat.xor_comm s] at h1
  exact UInt8.toNat_inj.1 (xor_right_inj _ _ s h1)

theorem sumL_inj (l : List UInt8) : ∀ s t, s < 4294967296 → t < 4294967296 → sumL s l = sumL t l → s = t := by
  induction l with
  | nil => intro s t _ _ h; exact h
  | cons b l ih => intro s t hs ht h; exact sumB_inj s t b hs ht (ih _ _ (sumB_lt s b hs) (sumB_lt t b ht) h)

/-- One byte turned turns the sum. -/
theorem sumL_turned (s : Nat) (hs : s < 4294967296) (l : List UInt8) (i : Nat) (hi : i < l.length) (c : UInt8) (hc : c ≠ l[i]) : sumL s (l.set i c) ≠ sumL s l := by
  intro h
  have e1 : l.set i c = l.take i ++ c :: l.drop (i + 1) := by rw [List.set_eq_take_append_cons_drop, if_pos hi]
  have e2 : l = l.take i ++ l[i] :: l.drop (i + 1) := by simp
  rw [e1] at h
  conv at h => rhs; rw [e2]
  rw [sumL_append, sumL_append, sumL_cons, sumL_cons] at h
  have h0 := sumL_lt (l.take i) s hs
  have h1 := sumL_inj _ _ _ (sumB_lt _ _ h0) (sumB_lt _ _ h0) h
  exact hc (sumB_byte _ _ _ h0 h1)

/-- A sum in four bytes, the highest first. -/
def be32 (x : Nat) : List UInt8 := [UInt8.ofNat (x / 16777216), UInt8.ofNat (x / 65536), UInt8.ofNat (x / 256), UInt8.ofNat x]

theorem be32_length (x : Nat) : (be32 x).length = 4 := rfl

theorem be32_inj (x y : Nat) (hx : x < 4294967296) (hy : y < 4294967296) (h : be32 x = be32 y) : x = y := by
  unfold be32 at h
  simp only [List.cons.injEq, and_true] at h
  obtain ⟨h1, h2, h3, h4⟩ := h
  have f : ∀ a b : Nat, UInt8.ofNat a = UInt8.ofNat b → a % 256 = b % 256 := fun a b e => by
    have := congrArg UInt8.toNat e
    simpa [UInt8.toNat_ofNat'] using this
  have := f _ _ h1; have := f _ _ h2; have := f _ _ h3; have := f _ _ h4
  omega

abbrev sumOfL (l : List UInt8) : Nat := sumL 4294967295 l

theorem sumOfL_lt (l : List UInt8) : sumOfL l < 4294967296 := sumL_lt l _ (by decide)

def sealL (l : List UInt8) : List UInt8 := l ++ be32 (sumOfL l)

theorem sealL_length (l : List UInt8) : (sealL l).length = l.length + 4 := by simp [sealL, be32_length]

/-- The text whose seal this is. -/
def unsealL (t : List UInt8) : Option (List UInt8) :=
  if 4 ≤ t.length ∧ t.length ≤ 20004 ∧ t.drop (t.length - 4) = be32 (sumOfL (t.take (t.length - 4))) then some (t.take (t.length - 4)) else none

theorem unseal_seal (l : List UInt8) (h : l.length ≤ 20000) : unsealL (sealL l) = some l := by
  unfold unsealL
  rw [sealL_length, show l.length + 4 - 4 = l.length by omega]
  have e1 : (sealL l).take l.length = l := by simp [sealL]
  have e2 : (sealL l).drop l.length = be32 (sumOfL l) := by simp [sealL]
  rw [e1, e2, if_pos ⟨by omega, by omega, rfl⟩]

theorem unseal_turned (l : List UInt8) (i : Nat) (hi : i < (sealL l).length) (c : UInt8) (hc : c ≠ (sealL l)[i]) : unsealL ((sealL l).set i c) = none := by
  unfold unsealL
  rw [List.length_set, sealL_length, show l.length + 4 - 4 = l.length by omega]
  rw [if_neg]
  rintro ⟨-, -, h⟩
  have hlen := sealL_length l
  by_cases hl : i < l.length
  · have e1 : ((sealL l).set i c).take l.length = l.set i c := by
      rw [List.take_set]; simp [sealL]
    have e2 : ((sealL l).set i c).drop l.length = be32 (sumOfL l) := by
      rw [List.drop_set, if_pos hl]; simp [sealL]
    rw [e1, e2] at h
    have h1 := be32_inj _ _ (sumOfL_lt _) (sumOfL_lt _) h
    have h2 : (sealL l)[i] = l[i] := by simp [sealL, List.getElem_append_left hl]
    exact sumL_turned _ (by decide) l i hl c (by rw [← h2]; exact hc) h1.symm
  · have e1 : ((sealL l).set i c).take l.length = l := by
      rw [List.take_set_of_le (by omega)]; simp [sealL]
    rw [e1] at h
    have e2 : ((sealL l).set i c).drop l.length = (be32 (sumOfL l)).set (i - l.length) c := by
      rw [List.drop_set, if_neg (by omega)]; simp [sealL]
    rw [e2] at h
    have hi' : i - l.length < (be32 (sumOfL l)).length := by rw [be32_length]; omega
    have h3 := List.getElem_set_self (l := be32 (sumOfL l)) (i := i - l.length) (a := c) (by simpa using hi')
    have h4 : (sealL l)[i] = (be32 (sumOfL l))[i - l.length] := by simp only [sealL]; rw [List.getElem_append_right (by omega)]
    apply hc
    rw [h4, ← h3]
    simp only [h]

theorem unseal_length (t l : List UInt8) (h : unsealL t = some l) : l.length ≤ t.length := by
  unfold unsealL at h
  split at h
  · cases h; simp
  · cases h

end Go.Proofs.YthbgklmnmoclhaaGreatDoor.P3
