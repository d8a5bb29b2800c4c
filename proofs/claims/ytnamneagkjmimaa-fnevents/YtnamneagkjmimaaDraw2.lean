/-
  Draws: a new cursor; a drawn text; places.
-/
import Derived.Test.YtnamneagkjmimaaDraw1
namespace Go.Proofs.Ytnamneagkjmimaa
open Go.RowKit P1 K
set_option linter.unusedVariables false

/-- 'out = append(out, x)' of one value of one cell; the world told by 'grownBy'. -/
theorem wpList_push_raw {P : Program} {W0 : World} {ops : Array Oper} {rest : List Oper} {o : Oper} {a : Act} {Q : Exit → Act → World → Prop} (hgd : o.guard = none) (s x : Operand) (t : TypeId)
    (ho : o.op = .call { callee := .builtin .append, args := #[s, x], argTypes := #[t, t] })
    {base : Nat} {e : TypeId} {z : Value} {bytes : Nat} (ht : P.underlying t = some (.slice e)) (hi : (P.info? e).map (fun i => (i.zero, i.size, i.bytes)) = some (some z, 1, bytes)) (hzs : z.cells.size = 1)
    {v : Value} {n : Nat} {xs : List Value} (hs : a.eval s = v) (hown : W0.ownsRow base e 1 v n xs)
    {u : Value} (hx : a.eval x = .slice (some ⟨W0.heap.size, 0, none⟩) 1 1) (hu : u.oneCell' = true)
    (hbase : base ≤ W0.heap.size) (h63 : n + 1 ≤ maxLen) (hbytes : (n + 1) * bytes ≤ 140737488355328)
    (h : ∀ v' w', w'.ownsRow base e 1 v' (n + 1) (xs ++ [u]) → W0.grownBy w' v.ownBlock → wpList P ops Q rest (a.put o.dst v') w') : wpList P ops Q (o :: rest) a (W0.alloc (.cells #[u] e)) := by
  obtain ⟨i, hi, hz, h1, h2⟩ := info_parts hi
  refine wpList_append_own _ hgd s x t ho base e i z 1 bytes ht hi hz h1 h2 hzs (by decide) v n xs hs (hown.alloc _) ⟨W0.heap.size, 0, none⟩ 1 1 [u] hx rfl ?_ ?_ h63 hbytes (by simp; omega) ?_
  · intro j y hj
    match j, hj with
    | 0, hj => simp at hj; subst hj; simp [Addr.add]
  · intro y hy; simp at hy; subst hy; exact hu
  · intro v' w' hown' hgrow _
    refine h v' w' hown' ⟨hgrow.os, hgrow.tape, hgrow.output, ?_, ?_⟩
    · have := hgrow.size; simp at this; omega
    · intro k hk hne
      rw [hgrow.block k (by simp; omega) hne]
      exact Below.heap_alloc W0 _ k hk

/-- What a loop carries that pushes what it draws. -/
structure Drawing (B p : Nat) (a : Option Addr) (len cap : Nat) (w : World) (e : TypeId) (v : Value) (n : Nat) (xs : List Value) (wr : World) : Prop where
  own : wr.ownsRow w.heap.size e 1 v n xs
  cur : CurAt B wr p a len cap
  grown : w.grownBy wr (some p)
  lt : p < w.heap.size

theorem Drawing.drawn {B p : Nat} {a : Option Addr} {len cap : Nat} {w : World} {e : TypeId} {v : Value} {n : Nat} {xs : List Value} {w1 w2 : World} (h : Drawing B p a len cap w e v n xs w1)
    (hc : CurAt B w2 p a len cap) (hg : w1.grownBy w2 (some p)) : Drawing B p a len cap w e v n xs w2 :=
  ⟨h.own.kept hg (by
    cases hv : v.ownBlock with
    | none => exact Or.inl rfl
    | some k =>
      right
      intro e1
      cases e1
      have := (h.own.lt p hv).1
      have := h.lt
      omega), hc, grownBy_trans h.grown hg, h.lt⟩

theorem Drawing.pushed {B p : Nat} {a : Option Addr} {len cap : Nat} {w : World} {e : TypeId} {v v' : Value} {n m : Nat} {xs ys : List Value} {w1 w2 : World} (h : Drawing B p a len cap w e v n xs w1)
    (hB : B ≤ w.heap.size) (ho : w2.ownsRow w.heap.size e 1 v' m ys) (hg : w1.grownBy w2 v.ownBlock) : Drawing B p a len cap w e v' m ys w2 := by
  have hlt := h.lt
  have hne : ∀ k, k < w.heap.size → some k ≠ v.ownBlock := fun k hk e1 => by have := (h.own.lt k e1.symm).1; omega
  have hs := h.grown.size
  refine ⟨ho, h.cur.kept ⟨hg.os, hg.tape, hg.output, hg.size, fun k hk => hg.block k (by omega) (hne k (by omega))⟩ (hg.block p (by omega) (hne p hlt)), ?_, hlt⟩
  exact ⟨hg.os.trans h.grown.os, hg.tape.trans h.grown.tape, hg.output.trans h.grown.output, Nat.le_trans hs hg.size, fun k hk hn => (hg.block k (by omega) (hne k hk)).trans (h.grown.block k hk hn)⟩

/-- The row of nothing that a loop begins with. -/
theorem Drawing.start {B p : Nat} {a : Option Addr} {len cap : Nat} {w : World} {e : TypeId} (hB : B ≤ w.heap.size) (hc : CurAt B w p a len cap) :
    Drawing B p a len cap w e (.slice (some ⟨w.heap.size, 0, none⟩) 0 0) 0 [] (w.alloc (.cells #[] e)) :=
  ⟨World.ownsRow_made (w := w) #[] 0 (Nat.le_refl _) (by decide) rfl, hc.kept ((Below.refl _ _).alloc hB _) (Below.heap_alloc w _ p hc.lt), World.grownBy_alloc w _ _, hc.lt⟩

set_option maxHeartbeats 1000000 in
theorem l01Text_any (B p : Nat) (a : Option Addr) (len cap : Nat) (n : Nat) (hn : n ≤ 5000) (w : World) (hB : B ≤ w.heap.size) (hc : CurAt B w p a len cap) :
    Calls Try.prog 62 #[.pointer (some ⟨p, 0, none⟩), .int .i64 (n : Int)] w fun e w' => ∃ l : List UInt8, l.length = n ∧ e = .returned (.string ⟨l.toArray⟩) ∧ CurAt B w' p a len cap ∧ w.grownBy w' (some p) := by
  have HS := hide (Drawing.start (e := 5) hB hc)
  clear hc
  have g1 : decide ((5000 : Int) < (n : Int)) = false := by simp; omega
  go_enter Try.func62, Try.ntmps62
  go_wp2_with fail
  go_loopw [5, 6] (fun v i wr => ∃ (k : Nat) (l : List UInt8), i = .int .i64 (k : Int) ∧ l.length = k ∧ k ≤ n ∧ Drawing B p a len cap w 5 v k (B8 l) wr) (fun _ i _ => n - (intOf i).toNat)
  case atStart => exact ⟨0, [], rfl, rfl, Nat.zero_le _, HS.out⟩
  case round =>
    obtain ⟨k, l, rfl, hl, hk, hd⟩ := hrel
    have HL := hide hl
    clear hl HS
    have HD := hide hd
    clear hd
    by_cases hlt : k < n
    · go_wp2_with fail
      refine (l01Byte_any B p a len cap _ HD.out.cur).mono ?_
      rintro e w1 ⟨x, hx, rfl, hc1, hg1⟩
      have HD1 := hide (HD.out.drawn hc1 hg1)
      clear hc1 hg1 HD
      have hsz : w.heap.size ≤ w1.heap.size := HD1.out.grown.size
      have ex := hide (toNat_ofNat_small x hx)
      go_wp2_with (at_builtin; refine wpList_push_raw rfl _ _ 22 rfl Try.underlying22 infoByte rfl rfl HD1.out.own rfl rfl hsz (by unfold maxLen; omega) (by omega) ?_)
      intro v' w2 hown2 hg2
      have hd2 := HD1.out.pushed hB hown2 hg2
      rw [B8_snoc l (UInt8.ofNat x) _ (by rw [ex.out])] at hd2
      have HD2 := hide hd2
      clear hown2 hg2 hd2 HD1
      go_wp2_with fail
      go_roundw
      case rel => exact ⟨k + 1, l ++ [UInt8.ofNat x], by go_num, by simp [HL.out], by omega, HD2.out⟩
      case measure => simp [intOf]; omega
    · have hkn : k = n := by omega
      have hconv := run_string_own (P := Try.prog) (src := 22) (dst := 9) Try.underlying22 Try.underlying5 Try.underlying9 HD.out.own
      go_wp2_with fail
      go_ret
      exact ⟨l, by rw [HL.out]; omega, rfl, HD.out.cur, HD.out.grown⟩

end Go.Proofs.Ytnamneagkjmimaa
