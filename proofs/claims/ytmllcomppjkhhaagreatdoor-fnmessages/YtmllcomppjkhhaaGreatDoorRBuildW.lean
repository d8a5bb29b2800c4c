/-
  Walks and mathematics of BuildW, Walk9g, MsgW.
-/
import Derived.Test.YtmllcomppjkhhaaGreatDoorRShelf
import Derived.Test.YtmllcomppjkhhaaGreatDoorRKit
import Derived.Test.YtmllcomppjkhhaaGreatDoorRHeldMore
import Derived.Test.YtmllcomppjkhhaaGreatDoorRPlain1
import Derived.Test.YtmllcomppjkhhaaGreatDoorRBase
import Derived.Test.YtmllcomppjkhhaaGreatDoorRWalk1b
import Derived.Test.YtmllcomppjkhhaaGreatDoorRInts
import Derived.Test.YtmllcomppjkhhaaGreatDoorRTab
import Derived.Test.YtmllcomppjkhhaaGreatDoorRWalk1c
import Derived.Lib.AppendStr
import Derived.BigRegion
namespace Go.Proofs.YtmllcomppjkhhaaGreatDoor.P18
end Go.Proofs.YtmllcomppjkhhaaGreatDoor.P18
namespace Go.Proofs.YtmllcomppjkhhaaGreatDoor.P3
end Go.Proofs.YtmllcomppjkhhaaGreatDoor.P3
namespace Go.Proofs.YtmllcomppjkhhaaGreatDoor
open Go.RowKit K
set_option linter.unusedVariables false

theorem bw_lies : liesAt Tryz.prog Tryz.prog.depth 127 (2 / Tryz.prog.cellsOf 127) 0 127 1 = true := by kernel_rfl

theorem bw_info : ∃ j, Tryz.prog.info? 127 = some j ∧ j.size ≠ 0 := by
  have h : (Tryz.prog.info? 127).map (·.size) = some 2 := by kernel_rfl
  obtain ⟨j, hj, h2⟩ := Option.map_eq_some_iff.1 h
  exact ⟨j, hj, by rw [h2]; decide⟩

theorem bw_byte : (Tryz.prog.info? 5).map (fun i => (i.zero, i.size, i.bytes)) = some (some (.int .u8 0), 1, 1) := by kernel_rfl

set_option maxHeartbeats 1000000 in
set_option maxRecDepth 100000 in
theorem copyCheck_used (b : Nat) (w : World) (h : w.cell? ⟨b, 0, none⟩ = some (.pointer (some ⟨b, 0, none⟩))) :
    Calls Tryz.prog 97 #[.pointer (some ⟨b, 0, none⟩)] w fun e w' => e = .returned (.tuple #[]) ∧ w' = w := by
  obtain ⟨j, hj, -⟩ := bw_info
  have hne := Lib.run_neq_ptr_same w ⟨b, 0, none⟩ Tryz.underlying125 hj
  go_enter Tryz.func97, Tryz.ntmps97
  go_wp2
  go_end0
  exact ⟨rfl, rfl⟩

set_option maxHeartbeats 1000000 in
set_option maxRecDepth 100000 in
theorem copyCheck_fresh (b : Nat) (w : World) (h : w.cell? ⟨b, 0, none⟩ = some (.pointer none)) (hsh : w.shape? b = some (127, 2)) (hf : w.frozen? ⟨b, 0, none⟩ = false) :
    Calls Tryz.prog 97 #[.pointer (some ⟨b, 0, none⟩)] w fun e w' => e = .returned (.tuple #[]) ∧ w' = w.setCell ⟨b, 0, none⟩ (.pointer (some ⟨b, 0, none⟩)) := by
  obtain ⟨j, hj, hz⟩ := bw_info
  have hA := Lib.run_to_unsafe w ⟨b, 0, none⟩ Tryz.underlying125 Tryz.underlying161 hj hz hsh (Nat.zero_lt_succ 1)
  have hE := @run_callFunc_extern Tryz.prog 104 _ Extern.AbiNoEscape.same Tryz.func104 (by kernel_rfl) (by kernel_rfl) (by kernel_rfl) (by kernel_rfl)
  have hN := fun x => Lib.run_noEscape (P := Tryz.prog) w x
  have hC := Lib.run_from_unsafe w ⟨b, 0, none⟩ Tryz.underlying161 Tryz.underlying125 hj hsh bw_lies
  go_enter Tryz.func97, Tryz.ntmps97
  go_wp2
  go_end0
  exact ⟨rfl, rfl⟩

theorem copyCheck_any (B b : Nat) (bs : List Value) (w : World) (h : Lib.IsBuilder 127 5 B b bs w) :
    Calls Tryz.prog 97 #[.pointer (some ⟨b, 0, none⟩)] w fun e w' => e = .returned (.tuple #[]) ∧ Lib.BuilderAt 127 5 B b (.pointer (some ⟨b, 0, none⟩)) bs w' ∧ Below B w w' := by
  rcases h with h | h
  · refine (copyCheck_fresh b w h.cell0 h.shape h.frozen0).mono ?_
    rintro e w' ⟨rfl, rfl⟩
    exact ⟨rfl, h.used _, (Below.refl B w).setCell (p := ⟨b, 0, none⟩) h.1 _⟩
  · refine (copyCheck_used b w h.cell0).mono ?_
    rintro e w' ⟨rfl, rfl⟩
    exact ⟨rfl, h, Below.refl B _⟩

set_option maxHeartbeats 2000000 in
set_option maxRecDepth 100000 in
theorem writeString_any (B b : Nat) (bs : List Value) (s : ByteArray) (w : World) (h : Lib.IsBuilder 127 5 B b bs w) (hlen : bs.length + s.size ≤ 140737488355328) (hBw : B ≤ w.heap.size) :
    Calls Tryz.prog 85 #[.pointer (some ⟨b, 0, none⟩), .string s] w fun e w' => e = .returned (.tuple #[.int .i64 s.size, .nilIface]) ∧ Lib.IsBuilder 127 5 B b (bs ++ Lib.strCells s) w' ∧ Below B w w' := by
  obtain ⟨i0, hi, hz0, hz1, hz2⟩ := info_parts bw_byte
  have HC := hide (copyCheck_any B b bs w h)
  clear h
  go_enter Tryz.func85, Tryz.ntmps85
  go_wp2_with fail
  refine HC.out.mono ?_
  rintro e w1 ⟨rfl, h1, hb1⟩
  obtain ⟨hB, v, hbk, hown, hne⟩ := h1
  have c1 : w1.cell? ⟨b, 1, none⟩ = some v := blk_cell hbk 1 rfl
  go_wp2_with (at_builtin; refine Lib.wpList_append_own_string _ rfl _ _ 22 9 rfl B 5 i0 Tryz.underlying22 Tryz.underlying9 hi hz0 hz1 hz2 _ _ _ rfl hown s rfl ?c3 ?c4 ?c5 ?_)
  case c3 => unfold maxLen; omega
  case c4 => omega
  case c5 => have := hb1.size; omega
  intro v' w2 hown' hgrow _
  have hlt : b < w1.heap.size := blk_lt hbk
  have hb2 : w2.heap[b]? = some (.cells #[.pointer (some ⟨b, 0, none⟩), v] 127 (0, 0)) := (hgrow.block b hlt (fun e => hne e.symm)).trans hbk
  have d1 : w2.cell? ⟨b, 1, none⟩ = some v := blk_cell hb2 1 rfl
  have f1 : w2.frozen? ⟨b, 1, none⟩ = false := blk_free hb2 1
  have hend : Below B w (w2.setCell ⟨b, 1, none⟩ v') := (hb1.grown hgrow (by have := hb1.size; omega) (fun k hk => (hown.lt k hk).1)).setCell (p := ⟨b, 1, none⟩) hB _
  have hput := Lib.BuilderAt.put (T := 127) (e := 5) hB hb2 (bs' := bs ++ Lib.strCells s) (by simpa [Lib.strCells_length] using hown') (by decide)
  obtain ⟨ao, n', cap, rfl⟩ : ∃ ao n' cap, v' = .slice ao n' cap := by
    rcases hown'.2 with ⟨hv, _⟩ | ⟨g, cap, cur, hv, _⟩
    · exact ⟨_, _, _, hv⟩
    · exact ⟨_, _, _, hv⟩
  clear hown' hgrow hb2 hown hbk c1
  go_wp2_with fail
  go_ret2
  exact ⟨rfl, Or.inr hput, hend⟩

theorem isBuilder_on {T e : TypeId} {B b : Nat} {bs : List Value} {w w' : World} (h : Lib.IsBuilder T e B b bs w) (hb : Below w.heap.size w w') : Lib.IsBuilder T e B b bs w' := by
  have key : ∀ p, Lib.BuilderAt T e B b p bs w → Lib.BuilderAt T e B b p bs w' := by
    rintro p ⟨hB, v, hbk, hown, hne⟩
    exact ⟨hB, v, (hb.block b (blk_lt hbk)).trans hbk, own_below hown hb, hne⟩
  exact h.imp (key _) (key _)

end Go.Proofs.YtmllcomppjkhhaaGreatDoor

namespace Go.Proofs.YtmllcomppjkhhaaGreatDoor
open Go.RowKit P1 P3 P9 P11 P12 K
set_option linter.unusedVariables false
set_option linter.unusedSimpArgs false

theorem varZ_len (z : Int) : (varZ z).length ≤ 10 := varB_length _

theorem vars_len : ∀ (zs : List Int), (zs.flatMap varZ).length ≤ 10 * zs.length
  | [] => by simp
  | z :: r => by
    have h1 := varZ_len z
    have h2 := vars_len r
    simp only [List.flatMap_cons, List.length_append, List.length_cons]
    omega

theorem vars_next {zs : List Int} {j : Nat} {z : Int} (h : zs[j]? = some z) : (zs.take (j + 1)).flatMap varZ = (zs.take j).flatMap varZ ++ varZ z := by
  rw [List.take_add_one, h]
  simp

set_option maxHeartbeats 1000000 in
theorem varsText_any (oa : Option Addr) (n cap : Nat) (zs : List Int) (hn : n ≤ 1048576) (hz : ∀ z ∈ zs, 0 ≤ z ∧ z ≤ 1000000000) (w : World) (hat : IntsAt w oa n cap zs) :
    Calls Tryz.prog 70 #[.slice oa n cap] w fun e w' => e = .returned (.string ⟨(zs.flatMap varZ).toArray⟩) ∧ Below w.heap.size w w' := by
  have HN := hide hat.len
  have HAT := hide hat
  have HZ := hide hz
  clear hat hz
  go_enter Tryz.func70, Tryz.ntmps70
  go_wp2_with fail
  go_loopw [10] (fun i wr => ∃ (j : Nat), i = .int .i64 (j : Int) ∧ j ≤ n ∧ Lib.IsBuilder 127 5 w.heap.size w.heap.size (Lib.byteCells ((zs.take j).flatMap varZ)) wr ∧ Below w.heap.size w wr) (fun i _ => n - (intOf i).toNat)
  case atStart => exact ⟨0, rfl, Nat.zero_le _, by rw [List.take_zero]; exact Lib.fresh_isBuilder _ _ w, (Below.refl _ _).alloc (Nat.le_refl _) _⟩
  case round =>
    obtain ⟨j, rfl, hj, hbu, hbel⟩ := hrel
    have HBU := hide hbu
    have HBL := hide hbel
    by_cases hlt : j < n
    · have j0 : (j : Int) < (n : Int) := by omega
      obtain ⟨z, b, q, hz, hidx, hb, c0, hwf⟩ := (HAT.out.below hbel).get Tryz.underlying25 infoI j hlt
      obtain ⟨hz0, hz1⟩ := HZ.out z (List.mem_of_getElem? hz)
      have HNX := hide (vars_next hz)
      have HLN := hide (vars_len (zs.take j))
      obtain ⟨k, rfl⟩ := Int.eq_ofNat_of_zero_le hz0
      have hk : k ≤ 1000000000 := by omega
      clear hz hbu hbel hz0 hz1
      go_wp2_with fail
      refine (implVarText_yes k hk _).mono ?_
      rintro e w1 ⟨rfl, hb1⟩
      have HB1 := hide (HBL.out.trans (hb1.mono HBL.out.size))
      have HU1 := hide (isBuilder_on HBU.out hb1)
      clear hb1 hidx c0
      go_wp2_with fail
      refine (writeString_any w.heap.size w.heap.size _ ⟨(varB k).toArray⟩ w1 HU1.out ?_ HB1.out.size).mono ?_
      · have h1 := HLN.out
        have h2 := varB_length k
        rw [List.length_take] at h1
        show (Lib.byteCells _).length + (varB k).length ≤ _
        unfold Lib.byteCells
        rw [List.length_map]
        omega
      rintro e w2 ⟨rfl, hu2, hb2⟩
      have HU2 := hide (show Lib.IsBuilder 127 5 w.heap.size w.heap.size (Lib.byteCells ((zs.take (j + 1)).flatMap varZ)) w2 by
        rw [HNX.out]
        unfold Lib.byteCells
        rw [List.map_append]
        exact hu2)
      have HB2 := hide (HB1.out.trans hb2)
      clear hu2 hb2
      go_wp2_with fail
      go_roundw
      case rel => exact ⟨j + 1, by go_num, by omega, HU2.out, HB2.out⟩
      case measure => simp [intOf]; omega
    · have hjn : j = n := by omega
      have HUE := hide (show Lib.IsBuilder 127 5 w.heap.size w.heap.size (Lib.byteCells (zs.flatMap varZ)) wr by
        have := HBU.out
        rw [hjn, List.take_of_length_le (by rw [HN.out]; exact Nat.le_refl _)] at this
        exact this)
      clear hbu hbel
      go_wp2_with fail
      refine (Tryz.Builder_String_any w.heap.size w.heap.size _ wr HUE.out HBL.out.size).mono ?_
      rintro e w1 ⟨rfl, hb1⟩
      go_wp2_with fail
      go_ret
      exact ⟨rfl, HBL.out.trans hb1⟩

theorem bytes_next {zs : List Int} {j : Nat} {z : Int} (h : zs[j]? = some z) : (zs.map byB).take (j + 1) = (zs.map byB).take j ++ [byB z] := by
  rw [List.take_add_one, List.getElem?_map, h]
  simp

theorem byB_nat {z : Int} (h : 0 ≤ z ∧ z ≤ 255) : z = ((byB z).toNat : Int) := (bz_byB h).symm

set_option maxHeartbeats 1000000 in
theorem bytesText_any (oa : Option Addr) (n cap : Nat) (zs : List Int) (hn : n ≤ 1048576) (hz : ∀ z ∈ zs, 0 ≤ z ∧ z ≤ 255) (w : World) (hat : IntsAt w oa n cap zs) :
    Calls Tryz.prog 47 #[.slice oa n cap] w fun e w' => e = .returned (.string ⟨(zs.map byB).toArray⟩) ∧ Below w.heap.size w w' := by
  have HN := hide hat.len
  have HAT := hide hat
  have HZ := hide hz
  clear hat hz
  go_enter Tryz.func47, Tryz.ntmps47
  go_wp2_with fail
  go_loopw [3, 8] (fun v i wr => ∃ (j : Nat), i = .int .i64 (j : Int) ∧ j ≤ n ∧ wr.ownsRow w.heap.size 5 1 v j (B8 ((zs.map byB).take j)) ∧ Below w.heap.size w wr) (fun _ i _ => n - (intOf i).toNat)
  case atStart => exact ⟨0, rfl, Nat.zero_le _, World.ownsRow_nil _ _ _ _, Below.refl _ _⟩
  case round =>
    obtain ⟨j, rfl, hj, hown, hbel⟩ := hrel
    have hsz := hbel.size
    by_cases hlt : j < n
    · have j0 : (j : Int) < (n : Int) := by omega
      obtain ⟨z, b, q, hz, hidx, hb, c0, hwf⟩ := (HAT.out.below hbel).get Tryz.underlying25 infoI j hlt
      obtain ⟨hz1, hz4⟩ := HZ.out z (List.mem_of_getElem? hz)
      have HX := hide (bytes_next hz)
      have HBZ := hide (byB_nat ⟨hz1, hz4⟩)
      clear hz
      go_wp2_with (at_builtin; refine wpList_push rfl _ _ 22 rfl Tryz.underlying22 infoByte rfl rfl hown rfl rfl hbel hsz (by unfold maxLen; omega) (by omega) ?_)
      intro v' w1 hown' hbel' _
      have R := hide (show w1.ownsRow w.heap.size 5 1 v' (j + 1) (B8 ((zs.map byB).take (j + 1))) by
        rw [HX.out, ← B8_snoc _ (byB z) z HBZ.out]
        exact hown')
      have R2 := hide hbel'
      clear hown' hbel' hown hbel
      go_wp2
      go_roundw
      case rel => exact ⟨j + 1, by go_num, by omega, R.out, R2.out⟩
      case measure => simp [intOf]; omega
    · have hjn : j = n := by omega
      rw [hjn, List.take_of_length_le (by rw [List.length_map, HN.out]; exact Nat.le_refl _)] at hown
      have hconv := run_string_own (P := Tryz.prog) (src := 22) (dst := 9) Tryz.underlying22 Tryz.underlying5 Tryz.underlying9 hown
      clear hown
      go_wp2
      go_ret
      exact ⟨rfl, hbel⟩

end Go.Proofs.YtmllcomppjkhhaaGreatDoor

namespace Go.Proofs.YtmllcomppjkhhaaGreatDoor
open Go.RowKit P1 P3 P9 P11 P12 P18 K
set_option linter.unusedVariables false
set_option linter.unusedSimpArgs false

theorem implShortText_list (l : List UInt8) (hl : l.length ≤ 20000) (w : World) :
    Calls Tryz.prog 72 #[.string ⟨l.toArray⟩] w fun e w' => e = .returned (.tuple #[.string ⟨(shortB l).toArray⟩, .bool true]) ∧ Below w.heap.size w w' := by
  have := implShortText_yes ⟨l.toArray⟩ hl w
  rw [size_mk8, cat_two8] at this
  exact this

theorem strCells_B8 (l : List UInt8) : Lib.strCells ⟨l.toArray⟩ = B8 l := by
  simp [Lib.strCells, B8]

theorem step_append_str {P : Program} {w : World} {ops : Array Oper} {o : Oper} {a : Act} {K : Act → World → Prop} {Q : Exit → Act → World → Prop} {E : Prop} (hgd : o.guard = none) (s x : Operand) (t u : TypeId)
    (ho : o.op = .call { callee := .builtin .append, args := #[s, x], argTypes := #[t, u] })
    {base : Nat} {e : TypeId} (ht : P.underlying t = some (.slice e)) (hu : P.underlying u = some .string) (hi : (P.info? e).map (fun i => (i.zero, i.size, i.bytes)) = some (some (.int .u8 0), 1, 1))
    {v : Value} {n : Nat} {xs : List Value} (hs : a.eval s = v) (hown : w.ownsRow base e 1 v n xs)
    {l : List UInt8} (hx : a.eval x = .string ⟨l.toArray⟩) (h63 : n + l.length ≤ 1000000000) (hbase : base ≤ w.heap.size)
    (h : ∀ v' w', w'.ownsRow base e 1 v' (n + l.length) (xs ++ B8 l) → w.grownBy w' v.ownBlock → K (a.put o.dst v') w') :
    if Region.wanted o (yielded ops a.tmps) = true then Oper.wp P o a w K Q else E := by
  obtain ⟨i, hi, hz, h1, h2⟩ := info_parts hi
  have hw : Region.wanted o (yielded ops a.tmps) = true := by simp [Region.wanted, hgd]
  rw [if_pos hw]
  have hsz : (⟨l.toArray⟩ : ByteArray).size = l.length := rfl
  obtain ⟨v', w', hr, r1, r2, -⟩ := Lib.run_append_own_string (P := P) w base t u o.type e i ht hu hi hz h1 h2 v n xs hown ⟨l.toArray⟩ (by unfold maxLen; rw [hsz]; omega) (by rw [hsz]; omega) hbase
  rw [hsz, strCells_B8] at r1
  unfold Oper.wp execOp
  simp only [ho, resolve, invoke, builtin, Sem.run_bind, Sem.run_pure, Result.andThen_ok, List.map_toArray, List.map_cons, List.map_nil, hs, hx, hr]
  exact h v' w' r1 r2

structure Tw (base g : Nat) (l : List UInt8) (w : World) : Prop where
  lo : base ≤ g
  blk : ∃ oa cap, w.heap[g]? = some (.cells #[.slice oa l.length cap] 42 (0, 0)) ∧ w.ownsRow base 5 1 (.slice oa l.length cap) l.length (B8 l)

structure TwFr (base g : Nat) (w w' : World) : Prop where
  bel : Below base w w'
  keep : ∀ (b : Nat) (cs : Array Value) (T : TypeId), b ≠ g → w.heap[b]? = some (.cells cs T (0, 0)) → T ≠ 5 → w'.heap[b]? = w.heap[b]?

theorem TwFr.trans {base g : Nat} {a b c : World} (h : TwFr base g a b) (k : TwFr base g b c) : TwFr base g a c :=
  ⟨h.bel.trans (k.bel), fun p cs T hp hb hT => by
    have h1 := h.keep p cs T hp hb hT
    exact (k.keep p cs T hp (h1.trans hb) hT).trans h1⟩

theorem TwFr.low {base g : Nat} {a b : World} (hB : base ≤ a.heap.size) (h : Below a.heap.size a b) : TwFr base g a b :=
  ⟨h.mono hB, fun p cs T _ hb _ => h.block p (blk_lt hb)⟩

theorem Tw.glt {base g : Nat} {l : List UInt8} {w : World} (h : Tw base g l w) : g < w.heap.size := by
  obtain ⟨_, _, hb, _⟩ := h.blk
  exact blk_lt hb

theorem Tw.bsz {base g : Nat} {l : List UInt8} {w : World} (h : Tw base g l w) : base ≤ w.heap.size := Nat.le_of_lt (Nat.lt_of_le_of_lt h.lo h.glt)

theorem Tw.on {base g : Nat} {l : List UInt8} {w w' : World} (h : Tw base g l w) (hb : Below w.heap.size w w') : Tw base g l w' := by
  obtain ⟨oa, cap, h1, h2⟩ := h.blk
  exact ⟨h.lo, oa, cap, (hb.block g (blk_lt h1)).trans h1, own_below h2 hb⟩

theorem Tw.drew {base g : Nat} {l : List UInt8} {w : World} (h : Tw base g l w) : Tw base g l w.drew := h.on (Below.refl _ _).drew

theorem Tw.alloc {base g : Nat} {l : List UInt8} {w : World} (h : Tw base g l w) (o : Obj) : Tw base g l (w.alloc o) := h.on ((Below.refl _ _).alloc (Nat.le_refl _) _)

theorem Tw.new (w : World) : Tw w.heap.size w.heap.size [] (w.alloc (.cells #[.slice none 0 0] 42)) :=
  ⟨Nat.le_refl _, none, 0, heap_alloc_new _ _, World.ownsRow_nil _ _ _ _⟩

theorem own_apart14 {w : World} {B : Nat} {e : TypeId} {k : Nat} {v : Value} {n : Nat} {xs : List Value} (h : w.ownsRow B e k v n xs) {g : Nat} {cs : Array Value} {e' : TypeId} {fz : Nat × Nat} (hb : w.heap[g]? = some (.cells cs e' fz)) (hne : e' ≠ e) : v.ownBlock ≠ some g := by
  intro hg
  rcases h.2 with ⟨rfl, _⟩ | ⟨g', cap, cur, rfl, _, hg', _⟩
  · cases hg
  · simp only [Value.ownBlock, Option.some.injEq] at hg
    subst hg
    rw [hg'] at hb
    cases hb
    exact hne rfl

theorem Tw.app {base g : Nat} {l k : List UInt8} {w w1 w2 : World} {oa : Option Addr} {cap : Nat} {oa' : Option Addr} {cap' : Nat} (hlo : base ≤ g)
    (hb : w.heap[g]? = some (.cells #[.slice oa l.length cap] 42 (0, 0))) (ho : w.ownsRow base 5 1 (.slice oa l.length cap) l.length (B8 l))
    (h1 : Below w.heap.size w w1) (h2 : w2.ownsRow base 5 1 (.slice oa' (l.length + k.length) cap') (l.length + k.length) (B8 l ++ B8 k)) (hg : w1.grownBy w2 (Value.slice oa l.length cap).ownBlock) :
    Tw base g (l ++ k) (w2.setCell ⟨g, 0, none⟩ (.slice oa' (l.length + k.length) cap')) ∧ TwFr base g w (w2.setCell ⟨g, 0, none⟩ (.slice oa' (l.length + k.length) cap')) := by
  have hlt := blk_lt hb
  have hb1 := (h1.block g hlt).trans hb
  have ho1 := own_below ho h1
  have hne := own_apart14 ho1 hb1 (by decide)
  have hb2 := (hg.block g (blk_lt hb1) (fun e => hne e.symm)).trans hb1
  have hset := blk_set (k := 0) (.slice oa' (l.length + k.length) cap') hb2
  refine ⟨⟨hlo, oa', cap', ?_, ?_⟩, ?_, ?_⟩
  · rw [List.length_append]
    exact hset
  · rw [List.length_append, B8_append]
    exact h2.kept (blk_grown w2 g 0 _) (Or.inr (fun e => own_apart14 h2 hb2 (by decide) e))
  · refine ((h1.mono (by omega)).grown hg (by have := h1.size; omega) (fun j hj => (ho1.lt j hj).1)).setCell (by simpa using hlo) _
  · intro b cs T hne' hbb hT
    have c1 := (h1.block b (blk_lt hbb)).trans hbb
    have c2 := (hg.block b (blk_lt c1) (fun e => own_apart14 ho1 c1 hT e.symm)).trans c1
    rw [(blk_grown w2 g 0 _).block b (blk_lt c2) (fun e => hne' (Option.some.inj e)), c2, hbb]

theorem XS.tw {h base g : Nat} {cs : Array Value} {T : TypeId} {w w' : World} (k : XS h cs T w) (hf : TwFr base g w w') (hne : h ≠ g) (hT : T ≠ 5) : XS h cs T w' := (hf.keep h cs T hne k hT).trans k

set_option maxRecDepth 100000 in
set_option maxHeartbeats 2000000 in
theorem numbers_any14 (base g : Nat) (l : List UInt8) (oa : Option Addr) (n cap : Nat) (zs : List Int) (hn : n ≤ 1000) (hz : ∀ z ∈ zs, 0 ≤ z ∧ z ≤ 1000000000) (hl : l.length ≤ 1000000) (w : World) (hT : Tw base g l w) (hat : IntsAt w oa n cap zs) :
    Calls Tryz.prog 43 #[.pointer (some ⟨g, 0, none⟩), .slice oa n cap] w fun e w' => e = .returned (.tuple #[]) ∧ Tw base g (l ++ zs.flatMap varZ) w' ∧ TwFr base g w w' := by
  have hsz := hT.bsz
  obtain ⟨ob, cp, hb, ho⟩ := hT.blk
  have hlo := hT.lo
  have hglt := blk_lt hb
  have c0 : w.cell? ⟨g, 0, none⟩ = some (.slice ob l.length cp) := blk_cell hb 0 rfl
  have f0 := blk_free hb 0
  have hlv := vars_len zs
  have hzl := hat.len
  have HV := hide (fun w hat => varsText_any oa n cap zs (by omega) hz w hat)
  have HA := hide hat
  have HB := hide hb
  have HO := hide ho
  have hkl : (zs.flatMap varZ).length ≤ 10000 := by omega
  clear hat hb ho hz hT hlv hzl
  generalize zs.flatMap varZ = k at HV hkl ⊢
  go_enter Tryz.func43, Tryz.ntmps43
  go_wp2_with fail
  go_region_law (first
    | (refine step_append_str (by rfl) _ _ 22 9 (by rfl) Tryz.underlying22 Tryz.underlying9 infoByte (by rfl) (by exact own_below HO.out hbd1) (by rfl) (by omega) (by have := hbd1.size; omega) ?_; intro v' w2 ho2 hg2; obtain ⟨ov, cv, rfl⟩ := row_form ho2; have c2 : w2.cell? ⟨g, 0, none⟩ = some (.slice ob l.length cp) := blk_cell ((hg2.block g (by have := hbd1.size; omega) (fun e => own_apart14 (own_below HO.out hbd1) ((hbd1.block g hglt).trans HB.out) (by decide) e.symm)).trans ((hbd1.block g hglt).trans HB.out)) 0 rfl; have f2 : w2.frozen? ⟨g, 0, none⟩ = false := blk_free ((hg2.block g (by have := hbd1.size; omega) (fun e => own_apart14 (own_below HO.out hbd1) ((hbd1.block g hglt).trans HB.out) (by decide) e.symm)).trans ((hbd1.block g hglt).trans HB.out)) 0)
    | (rw [if_pos (by rfl)]; go_simp; go_at_call 70; refine (HV.out _ (HA.out.below (Below.refl _ _).drew)).mono ?_; rintro e w1 ⟨rfl, hb1⟩; have hbd1 := (Below.refl w.heap.size w).drew.trans (hb1.mono (by simp)); have c1 := (hbd1.cell (p := ⟨g, 0, none⟩) hglt).trans c0))
  all_goals
    refine bodyPost_end (results_none rfl _ _ _) rfl ?_
    exact ⟨rfl, Tw.app hlo HB.out HO.out hbd1 ho2 hg2⟩

set_option maxRecDepth 100000 in
set_option maxHeartbeats 2000000 in
theorem oneBytes_any14 (base g : Nat) (l : List UInt8) (oa : Option Addr) (n cap : Nat) (zs : List Int) (hn : n ≤ 1000) (hz : ∀ z ∈ zs, 0 ≤ z ∧ z ≤ 255) (hl : l.length ≤ 1000000) (w : World) (hT : Tw base g l w) (hat : IntsAt w oa n cap zs) :
    Calls Tryz.prog 42 #[.pointer (some ⟨g, 0, none⟩), .slice oa n cap] w fun e w' => e = .returned (.tuple #[]) ∧ Tw base g (l ++ zs.map byB) w' ∧ TwFr base g w w' := by
  have hsz := hT.bsz
  obtain ⟨ob, cp, hb, ho⟩ := hT.blk
  have hlo := hT.lo
  have hglt := blk_lt hb
  have c0 : w.cell? ⟨g, 0, none⟩ = some (.slice ob l.length cp) := blk_cell hb 0 rfl
  have f0 := blk_free hb 0
  have hzl := hat.len
  have HV := hide (fun w hat => bytesText_any oa n cap zs (by omega) hz w hat)
  have HA := hide hat
  have HB := hide hb
  have HO := hide ho
  have hkl : (zs.map byB).length ≤ 10000 := by rw [List.length_map]; omega
  clear hat hb ho hz hT hzl
  generalize zs.map byB = k at HV hkl ⊢
  go_enter Tryz.func42, Tryz.ntmps42
  go_wp2_with fail
  go_region_law (first
    | (refine step_append_str (by rfl) _ _ 22 9 (by rfl) Tryz.underlying22 Tryz.underlying9 infoByte (by rfl) (by exact own_below HO.out hbd1) (by rfl) (by omega) (by have := hbd1.size; omega) ?_; intro v' w2 ho2 hg2; obtain ⟨ov, cv, rfl⟩ := row_form ho2; have c2 : w2.cell? ⟨g, 0, none⟩ = some (.slice ob l.length cp) := blk_cell ((hg2.block g (by have := hbd1.size; omega) (fun e => own_apart14 (own_below HO.out hbd1) ((hbd1.block g hglt).trans HB.out) (by decide) e.symm)).trans ((hbd1.block g hglt).trans HB.out)) 0 rfl; have f2 : w2.frozen? ⟨g, 0, none⟩ = false := blk_free ((hg2.block g (by have := hbd1.size; omega) (fun e => own_apart14 (own_below HO.out hbd1) ((hbd1.block g hglt).trans HB.out) (by decide) e.symm)).trans ((hbd1.block g hglt).trans HB.out)) 0)
    | (rw [if_pos (by rfl)]; go_simp; go_at_call 47; refine (HV.out _ (HA.out.below (Below.refl _ _).drew)).mono ?_; rintro e w1 ⟨rfl, hb1⟩; have hbd1 := (Below.refl w.heap.size w).drew.trans (hb1.mono (by simp)); have c1 := (hbd1.cell (p := ⟨g, 0, none⟩) hglt).trans c0))
  all_goals
    refine bodyPost_end (results_none rfl _ _ _) rfl ?_
    exact ⟨rfl, Tw.app hlo HB.out HO.out hbd1 ho2 hg2⟩

set_option maxRecDepth 100000 in
set_option maxHeartbeats 2000000 in
theorem short_any14 (base g : Nat) (l : List UInt8) (x : List UInt8) (hx : x.length ≤ 20000) (hl : l.length ≤ 1000000) (w : World) (hT : Tw base g l w) :
    Calls Tryz.prog 46 #[.pointer (some ⟨g, 0, none⟩), .string ⟨x.toArray⟩] w fun e w' => e = .returned (.tuple #[]) ∧ Tw base g (l ++ shortB x) w' ∧ TwFr base g w w' := by
  have hsz := hT.bsz
  obtain ⟨ob, cp, hb, ho⟩ := hT.blk
  have hlo := hT.lo
  have hglt := blk_lt hb
  have c0 : w.cell? ⟨g, 0, none⟩ = some (.slice ob l.length cp) := blk_cell hb 0 rfl
  have f0 := blk_free hb 0
  have HV := hide (fun w => implShortText_list x hx w)
  have hkl : (shortB x).length ≤ 20100 := by have := (shortB_length x).1; omega
  have HB := hide hb
  have HO := hide ho
  clear hb ho hT
  generalize shortB x = k at HV hkl ⊢
  obtain ⟨i0, hi, hz0, hz1, hz2⟩ := info_parts (P := Tryz.prog) infoByte
  go_enter Tryz.func46, Tryz.ntmps46
  go_wp2_with fail
  refine (HV.out _).mono ?_
  rintro e w1 ⟨rfl, hb1⟩
  have c1 := (hb1.cell (p := ⟨g, 0, none⟩) hglt).trans c0
  have hk0 : (⟨k.toArray⟩ : ByteArray).size = k.length := rfl
  go_wp2_with (at_builtin; refine Lib.wpList_append_own_string _ rfl _ _ 22 9 rfl base 5 i0 Tryz.underlying22 Tryz.underlying9 hi hz0 hz1 hz2 _ _ _ rfl (own_below HO.out hb1) ⟨k.toArray⟩ rfl ?c3 ?c4 ?c5 ?_)
  case c3 => unfold maxLen; rw [hk0]; omega
  case c4 => rw [hk0]; omega
  case c5 => have := hb1.size; omega
  intro v' w2 ho2 hg2 _
  rw [strCells_B8] at ho2
  obtain ⟨ov, cv, rfl⟩ := row_form ho2
  have hbb := (hg2.block g (by have := hb1.size; omega) (fun e => own_apart14 (own_below HO.out hb1) ((hb1.block g hglt).trans HB.out) (by decide) e.symm)).trans ((hb1.block g hglt).trans HB.out)
  have c2 : w2.cell? ⟨g, 0, none⟩ = some (.slice ob l.length cp) := blk_cell hbb 0 rfl
  have f2 := blk_free hbb 0
  clear hbb
  go_wp2_with fail
  refine bodyPost_end (results_none rfl _ _ _) rfl ?_
  exact ⟨rfl, Tw.app hlo HB.out HO.out hb1 ho2 hg2⟩

set_option maxHeartbeats 1000000 in
theorem written_any14 (base g : Nat) (l : List UInt8) (w : World) (hT : Tw base g l w) :
    Calls Tryz.prog 16 #[.pointer (some ⟨g, 0, none⟩)] w fun e w' => e = .returned (.string ⟨l.toArray⟩) ∧ w = w' := by
  obtain ⟨ob, cp, hb, ho⟩ := hT.blk
  have c0 : w.cell? ⟨g, 0, none⟩ = some (.slice ob l.length cp) := blk_cell hb 0 rfl
  have hconv := run_string_own (P := Tryz.prog) (src := 22) (dst := 9) Tryz.underlying22 Tryz.underlying5 Tryz.underlying9 ho
  clear hb ho hT
  go_enter Tryz.func16, Tryz.ntmps16
  go_wp2_with fail
  go_ret
  exact ⟨rfl, rfl⟩

end Go.Proofs.YtmllcomppjkhhaaGreatDoor
