/-
  Draws: a new cursor; a drawn text; places.
  Draws: a new cursor; the drawn text of FnTurned; places.
-/
import Derived.Test.YtdollofmjpgppaaDraw1
namespace Go.Proofs.Ytdollofmjpgppaa
open Go.RowKit P1 K
set_option linter.unusedVariables false

/-- 'out = append(out, x)' of one value of one cell; the world told by 'grownBy'. -/
theorem wpList_push_raw {P : Program} {W0 : World} {ops : Array Oper} {rest : List Oper} {o : Oper} {a : Act} {Q : Exit → Act → World → Prop} (hgd : o.guard = none) (s x : Operand) (t : TypeId)
    (ho : o.op = .call { callee := .builtin .append, args := #[s, x], argTypes := #[t, t] })
    {base : Nat} {e : TypeId} {z : Value} {bytes : Nat} (ht : P.underlying t = some (.slice e)) (hi : (P.info? e).map (fun i => (i.zero, i.size, i.bytes)) = some (some z, 1, bytes)) (hzs : z.cells.size = 1)
    {v : Value} {n : Nat} {xs : List Value} (hs : a.eval s = v) (hown : W0.ownsRow base e 1 v n xs)
    {u : Value} (hx : a.eval x = .slice (some ⟨W0.heap.size, 0, none⟩) 1 1) (hu : u.oneCell' = true)
    (hbase : base ≤ W0.heap.size) (h63 : n + 1 ≤ maxLen) (hbytes : (n + 1) * bytes ≤ 140737488355328)
    (h : ∀ v' w', w'.ownsRow base e 1 v' (n + 1) (xs ++ [u]) → W0.grownBy w' v.ownBlock → wpList P ops Q rest (a.put o.dst v') w') : wpList P ops Q (o :: rest) a (W0.alloc (.cells #[u] e)) := by
  obtain ⟨i, hi, hz, h1, h2⟩ := info_parts hi
  refine wpList_append_own _ hgd s x t ho base e i z 1 bytes ht hi hz h1 h2 hzs (by decide) v n xs hs (hown.alloc _) ⟨W0.heap.size, 0, none⟩ 1 1 [u] hx rfl ?_ ?_ h63 hbytes (by simp; omega) ?_
  · intro j y hj
    match j, hj with
    | 0, hj => simp at hj; subst hj; simp [Addr.add]
  · intro y hy; simp at hy; subst hy; exact hu
  · intro v' w' hown' hgrow _
    refine h v' w' hown' ⟨hgrow.os, hgrow.tape, hgrow.output, ?_, ?_⟩
    · have := hgrow.size; simp at this; omega
    · intro k hk hne
      rw [hgrow.block k (by simp; omega) hne]
      exact Below.heap_alloc W0 _ k hk

/-- What a loop carries that pushes what it draws. -/
structure Drawing (B p : Nat) (a : Option Addr) (len cap : Nat) (w : World) (e : TypeId) (v : Value) (n : Nat) (xs : List Value) (wr : World) : Prop where
  own : wr.ownsRow w.heap.size e 1 v n xs
  cur : CurAt B wr p a len cap
  grown : w.grownBy wr (some p)
  lt : p < w.heap.size

theorem Drawing.drawn {B p : Nat} {a : Option Addr} {len cap : Nat} {w : World} {e : TypeId} {v : Value} {n : Nat} {xs : List Value} {w1 w2 : World} (h : Drawing B p a len cap w e v n xs w1)
    (hc : CurAt B w2 p a len cap) (hg : w1.grownBy w2 (some p)) : Drawing B p a len cap w e v n xs w2 :=
  ⟨h.own.kept hg (by
    cases hv : v.ownBlock with
    | none => exact Or.inl rfl
    | some k =>
      right
      intro e1
      cases e1
      have := (h.own.lt p hv).1
      have := h.lt
      omega), hc, grownBy_trans h.grown hg, h.lt⟩

theorem Drawing.pushed {B p : Nat} {a : Option Addr} {len cap : Nat} {w : World} {e : TypeId} {v v' : Value} {n m : Nat} {xs ys : List Value} {w1 w2 : World} (h : Drawing B p a len cap w e v n xs w1)
    (hB : B ≤ w.heap.size) (ho : w2.ownsRow w.heap.size e 1 v' m ys) (hg : w1.grownBy w2 v.ownBlock) : Drawing B p a len cap w e v' m ys w2 := by
  have hlt := h.lt
  have hne : ∀ k, k < w.heap.size → some k ≠ v.ownBlock := fun k hk e1 => by have := (h.own.lt k e1.symm).1; omega
  have hs := h.grown.size
  refine ⟨ho, h.cur.kept ⟨hg.os, hg.tape, hg.output, hg.size, fun k hk => hg.block k (by omega) (hne k (by omega))⟩ (hg.block p (by omega) (hne p hlt)), ?_, hlt⟩
  exact ⟨hg.os.trans h.grown.os, hg.tape.trans h.grown.tape, hg.output.trans h.grown.output, Nat.le_trans hs hg.size, fun k hk hn => (hg.block k (by omega) (hne k hk)).trans (h.grown.block k hk hn)⟩

/-- The row of nothing that a loop begins with. -/
theorem Drawing.start {B p : Nat} {a : Option Addr} {len cap : Nat} {w : World} {e : TypeId} (hB : B ≤ w.heap.size) (hc : CurAt B w p a len cap) :
    Drawing B p a len cap w e (.slice (some ⟨w.heap.size, 0, none⟩) 0 0) 0 [] (w.alloc (.cells #[] e)) :=
  ⟨World.ownsRow_made (w := w) #[] 0 (Nat.le_refl _) (by decide) rfl, hc.kept ((Below.refl _ _).alloc hB _) (Below.heap_alloc w _ p hc.lt), World.grownBy_alloc w _ _, hc.lt⟩

end Go.Proofs.Ytdollofmjpgppaa

namespace Go.Proofs.Ytdollofmjpgppaa
open Go.RowKit P1 K
set_option linter.unusedVariables false

theorem infoInt : (Try.prog.info? 3).map (fun i => (i.zero, i.size, i.bytes)) = some (some (.int .i64 0), 1, 8) := by kernel_rfl

/-- What is owned from a block on is owned from an earlier one on. -/
theorem own_mono {w : World} {b b' : Nat} {e : TypeId} {size : Nat} {v : Value} {n : Nat} {xs : List Value} (h : w.ownsRow b e size v n xs) (hb : b' ≤ b) : w.ownsRow b' e size v n xs :=
  ⟨h.1, h.2.imp id fun ⟨g, cap, cur, h1, h2, h3⟩ => ⟨g, cap, cur, h1, Nat.le_trans hb h2, h3⟩⟩

set_option maxHeartbeats 1000000 in
theorem l01New_any (B : Nat) (a : Option Addr) (len cap : Nat) (w : World) (hlen : len ≤ 1048576) (hB : B ≤ w.heap.size) (hcode : CodeAt B w a len) :
    Calls Try.prog 10 #[.slice a len cap] w fun e w' => e = .returned (.pointer (some ⟨w.heap.size, 0, none⟩)) ∧ CurAt B w' w.heap.size a len cap ∧ Below w.heap.size w w' := by
  have HC := hide hcode
  clear hcode
  have ha := and30
  go_enter Try.func10, Try.ntmps10
  go_wp2_with fail
  go_loop [3, 4] (fun h i => ∃ (k : Nat) (x : Int), i = .int .i64 (k : Int) ∧ h = .int .i64 x ∧ k ≤ len) (fun _ i => len - (intOf i).toNat)
  case atStart => exact ⟨0, _, rfl, rfl, Nat.zero_le _⟩
  case round =>
    obtain ⟨k, x, rfl, rfl, hk⟩ := hrel
    by_cases hlt : k < len
    · by_cases h4 : k < 4000
      · have g1 : decide ((k : Int) < (len : Int)) = true := by simp; omega
        have g2 : decide ((k : Int) < 4000) = true := by simp; omega
        obtain ⟨y, b, rfl, hx1, hx2⟩ := HC.out k hlt
        have hbt := b.toNat_lt
        go_wp2_with fail
        go_round
        case rel => exact ⟨k + 1, _, by go_num, rfl, by omega⟩
        case measure => simp [intOf]; omega
      · have g1 : decide ((k : Int) < (len : Int)) = true := by simp; omega
        have g2 : decide ((k : Int) < 4000) = false := by simp; omega
        go_wp2_with fail
        go_ret
        exact ⟨rfl, ⟨hB, hlen, HC.out.below ((Below.refl _ _).alloc hB _), 0, x, Nat.zero_le _, heap_alloc_new w _⟩, (Below.refl _ _).alloc (Nat.le_refl _) _⟩
    · have g1 : decide ((k : Int) < (len : Int)) = false := by simp; omega
      go_wp2_with fail
      go_ret
      exact ⟨rfl, ⟨hB, hlen, HC.out.below ((Below.refl _ _).alloc hB _), 0, x, Nat.zero_le _, heap_alloc_new w _⟩, (Below.refl _ _).alloc (Nat.le_refl _) _⟩

/-- Whole numbers as cells. -/
def I64 (l : List Nat) : List Value := l.map (fun n : Nat => Value.int .i64 (n : Int))

theorem I64_snoc (l : List Nat) (n : Nat) : I64 l ++ [.int .i64 (n : Int)] = I64 (l ++ [n]) := by simp [I64]

theorem big_no (a : Option Addr) (len cap : Nat) (h : len ≤ 1048576) (w : World) :
    Calls Try.prog 4 #[.slice a len cap] w fun e w' => e = .returned (.bool false) ∧ w = w' := by
  have g : decide ((1048576 : Int) < (len : Int)) = false := by simp; omega
  go_enter Try.func4, Try.ntmps4
  go_wp2_with fail
  go_ret
  exact ⟨rfl, rfl⟩

theorem big_yes (a : Option Addr) (len cap : Nat) (h : 1048576 < len) (w : World) :
    Calls Try.prog 4 #[.slice a len cap] w fun e w' => e = .returned (.bool true) ∧ w = w' := by
  have g : decide ((1048576 : Int) < (len : Int)) = true := by simp; omega
  go_enter Try.func4, Try.ntmps4
  go_wp2_with fail
  go_ret
  exact ⟨rfl, rfl⟩

end Go.Proofs.Ytdollofmjpgppaa
