/-
  Walks and mathematics of Msg13.
-/
import Derived.Test.YtmllcomppjkhhaaGreatDoorRMsg11
import Derived.Test.YtmllcomppjkhhaaGreatDoorRMsg2
import Derived.Test.YtmllcomppjkhhaaGreatDoorRMsg10
import Derived.Test.YtmllcomppjkhhaaGreatDoorRWalk9o
import Derived.Test.YtmllcomppjkhhaaGreatDoorRWalk5i
import Derived.Test.YtmllcomppjkhhaaGreatDoorRWalk5c
namespace Go.Proofs.YtmllcomppjkhhaaGreatDoor.P18
end Go.Proofs.YtmllcomppjkhhaaGreatDoor.P18
namespace Go.Proofs.YtmllcomppjkhhaaGreatDoor.P3
end Go.Proofs.YtmllcomppjkhhaaGreatDoor.P3
namespace Go.Proofs.YtmllcomppjkhhaaGreatDoor
open Go.RowKit P1 P3 P9 P11 P12 P18 K
set_option linter.unusedVariables false
set_option linter.unusedSimpArgs false

theorem itS_small : ∀ (j : Nat) (r : Lf), ∀ e ∈ (itS j r).1, e.data.size ≤ 120
  | 0, _, e, he => by simp [itS] at he
  | j + 1, r, e, he => by
    simp only [itS, List.mem_append, List.mem_singleton] at he
    rcases he with he | rfl
    · exact itS_small j r e he
    · exact reE_small _

theorem take1_L (g : Nat) (s : ByteArray) (hs : s.size ≤ 1048576) (r : Lf) (w : World) (h : RdL w g s r) :
    ∃ X : ByteArray, (X.toList == [1]) = (flagS r).1 ∧ Calls Tryz.prog 31 #[.pointer (some ⟨g, 0, none⟩), .int .i64 1] w fun e w' => e = .returned (.string X) ∧ RdL w' g s (flagS r).2 ∧ w.grownBy w' (some g) := by
  obtain ⟨a, b, hc, rfl⟩ := h
  have HT := l05Take_any g s hs a b 1 (by omega) w hc
  by_cases hf : b = false ∧ a + 1 ≤ s.size
  · obtain ⟨rfl, hlt⟩ := hf
    have hv : takeV s a false 1 = (s.extract a (a + 1), a + 1, false) := by unfold takeV; rw [if_pos ⟨rfl, hlt⟩]
    rw [hv] at HT
    have hby : byteL (if false = true then none else some ((bl s).drop a)) = (s[a].toNat, some ((bl s).drop (a + 1))) := by
      simp only [Bool.false_eq_true, if_false]
      rw [bl_drop s a (by omega)]
      rfl
    have hX : s.extract a (a + 1) = ⟨#[s[a]]⟩ := by
      rw [extract_list s a 1 hlt, bl_drop s a (by omega)]
      rfl
    rw [hX] at HT
    unfold flagS
    rw [hby]
    refine ⟨⟨#[s[a]]⟩, ?_, HT.mono fun e w' q => ⟨q.1, ⟨_, _, q.2.1, rfl⟩, q.2.2⟩⟩
    rw [Lib.toList_data]
    simp only [List.cons.injEq]
    by_cases c : s[a] = 1
    · simp [c]
    · have : ¬ s[a].toNat = 1 := fun q => c (UInt8.toNat_inj.1 (by simpa using q))
      simp [c, this]
  · have hv : takeV s a b 1 = (⟨#[]⟩, a, true) := by unfold takeV; rw [if_neg hf]
    rw [hv] at HT
    have hby : byteL (if b = true then none else some ((bl s).drop a)) = (0, none) := by
      cases b with
      | true => rfl
      | false =>
        simp only [Bool.false_eq_true, if_false]
        have : (bl s).drop a = [] := List.drop_eq_nil_of_le (by rw [bl_length]; have : ¬ a + 1 ≤ s.size := fun q => hf ⟨rfl, q⟩; omega)
        rw [this]
        rfl
    unfold flagS
    rw [hby]
    refine ⟨⟨#[]⟩, ?_, HT.mono fun e w' q => ⟨q.1, ⟨_, _, q.2.1, rfl⟩, q.2.2⟩⟩
    rw [Lib.toList_data]
    rfl

structure SdS (w W : World) (g p : Nat) (s : ByteArray) (r : Lf) (cs : Array Value) : Prop where
  c : RdL W g s r
  x : XS p cs 27 W
  z : XS w.heap.size #[.int .i64 0, .int .i64 0, .int .i64 0, .int .i64 0, .int .i64 0, .int .i64 0, .int .i64 0, .bool false, .slice none 0 0, .slice none 0 0, .string ⟨#[]⟩, .bool false] 27 W
  b : Below w.heap.size w W
  h1 : w.heap.size < g
  h2 : g < p

theorem SdS.step {w W W' : World} {g p : Nat} {s : ByteArray} {r r' : Lf} {cs : Array Value} (h : SdS w W g p s r cs) (hc : RdL W' g s r') (hg : W.grownBy W' (some g)) : SdS w W' g p s r' cs := by
  have q1 := h.h1
  have q2 := h.h2
  exact ⟨hc, h.x.kept hg (fun q => by have := Option.some.inj q; omega), h.z.kept hg (fun q => by have := Option.some.inj q; omega), h.b.grown hg h.b.size (fun j hj => by cases hj; omega), q1, q2⟩

theorem SdS.put {w W W' : World} {g p : Nat} {s : ByteArray} {r : Lf} {cs cs' : Array Value} (h : SdS w W g p s r cs) (hx : XS p cs' 27 W') (hg : W.grownBy W' (some p)) : SdS w W' g p s r cs' := by
  have q1 := h.h1
  have q2 := h.h2
  exact ⟨h.c.kept (hg.block g h.c.lt (fun q => by have := Option.some.inj q; omega)), hx, h.z.kept hg (fun q => by have := Option.some.inj q; omega), h.b.grown hg h.b.size (fun j hj => by cases hj; omega), q1, q2⟩

theorem SdS.low {w W W' : World} {g p : Nat} {s : ByteArray} {r : Lf} {cs : Array Value} (h : SdS w W g p s r cs) (hb : Below W.heap.size W W') : SdS w W' g p s r cs :=
  ⟨h.c.kept (hb.block g h.c.lt), h.x.on hb, h.z.on hb, h.b.trans (hb.mono h.b.size), h.h1, h.h2⟩

theorem str3 {s : ByteArray} (h : ¬ s.size < 3) : ∃ b0 b1 b2 rest, bl s = b0 :: b1 :: b2 :: rest ∧ takeV s 0 false 3 = (⟨#[b0, b1, b2]⟩, 3, false) ∧ (bl s).drop 3 = rest := by
  have hl : 3 ≤ (bl s).length := by rw [bl_length]; omega
  match hb : bl s, hl with
  | b0 :: b1 :: b2 :: rest, _ =>
    refine ⟨b0, b1, b2, rest, rfl, ?_, rfl⟩
    unfold takeV
    rw [if_pos ⟨rfl, by omega⟩, extract_list s 0 3 (by omega), hb]
    rfl

theorem confR_small (l : List UInt8) : (confR l).length ≤ 4 ∧ ∀ z ∈ confR l, (Lit.int .i64 z).wf = true := by
  unfold confR
  split
  · rename_i q
    exact ⟨(confOk_len q).2, confZ_wf _⟩
  · simp

theorem confR_eq (l : List UInt8) : (rdConf l).1 = confR l := by
  unfold rdConf confR
  split <;> rfl

end Go.Proofs.YtmllcomppjkhhaaGreatDoor
