/-
  A journal in a variable: its cells; what keeps them.
  Walks of chapter 7: the frames of entries, JournalText, of the specification.
-/
import Derived.Test.YthbgklmnmoclhaaGreatDoorPack12
import Derived.Test.YthbgklmnmoclhaaGreatDoorPack20
import Derived.Test.YthbgklmnmoclhaaGreatDoorWalk5g
import Derived.Test.YthbgklmnmoclhaaGreatDoorPack9
import Derived.Lib.ConvBytes
import Derived.Lib.SmallJoins
namespace Go.Proofs.YthbgklmnmoclhaaGreatDoor
open Go.RowKit P1 P9 K
set_option linter.unusedVariables false

/-- A variable that holds a journal. -/
structure JV (w : World) (b : Nat) (n t v s u : Int) (x : Value) : Prop where
  c0 : w.cell? ⟨b, 0, none⟩ = some (.int .i64 n)
  c1 : w.cell? ⟨b, 1, none⟩ = some (.int .i64 t)
  c2 : w.cell? ⟨b, 2, none⟩ = some (.int .i64 v)
  c3 : w.cell? ⟨b, 3, none⟩ = some (.int .i64 s)
  c4 : w.cell? ⟨b, 4, none⟩ = some (.int .i64 u)
  c5 : w.cell? ⟨b, 5, none⟩ = some x

section
variable {w w' : World} {b : Nat} {n t v s u : Int} {x : Value}
theorem JV.lt (h : JV w b n t v s u x) : b < w.heap.size := cell_lt h.c0
theorem JV.on (h : JV w b n t v s u x) (hb : Below w.heap.size w w') : JV w' b n t v s u x :=
  ⟨(hb.cell h.lt).trans h.c0, (hb.cell h.lt).trans h.c1, (hb.cell h.lt).trans h.c2, (hb.cell h.lt).trans h.c3, (hb.cell h.lt).trans h.c4, (hb.cell h.lt).trans h.c5⟩
theorem JV.new (w : World) (n t v s u : Int) (x : Value) (ty : TypeId) : JV (w.alloc (.cells #[.int .i64 n, .int .i64 t, .int .i64 v, .int .i64 s, .int .i64 u, x] ty)) w.heap.size n t v s u x := ⟨by simp, by simp, by simp, by simp, by simp, by simp⟩
theorem JV.kept {row : Option Nat} (h : JV w b n t v s u x) (hg : w.grownBy w' row) (hne : row ≠ some b) : JV w' b n t v s u x := by
  have hb := hg.block b h.lt (fun e => hne e.symm)
  exact ⟨(cell_block hb).trans h.c0, (cell_block hb).trans h.c1, (cell_block hb).trans h.c2, (cell_block hb).trans h.c3, (cell_block hb).trans h.c4, (cell_block hb).trans h.c5⟩
end

theorem JV.under {w w' : World} {b B : Nat} {n t v s u : Int} {x : Value} (h : JV w b n t v s u x) (hb : Below B w w') (hlt : b < B) : JV w' b n t v s u x :=
  ⟨(hb.cell hlt).trans h.c0, (hb.cell hlt).trans h.c1, (hb.cell hlt).trans h.c2, (hb.cell hlt).trans h.c3, (hb.cell hlt).trans h.c4, (hb.cell hlt).trans h.c5⟩

theorem JV.drew {w : World} {b : Nat} {n t v s u : Int} {x : Value} (h : JV w b n t v s u x) : JV w.drew b n t v s u x := h.on (Below.refl _ _).drew

end Go.Proofs.YthbgklmnmoclhaaGreatDoor

namespace Go.Proofs.YthbgklmnmoclhaaGreatDoor
open Go.RowKit P1 P3 P9 K
attribute [local go_sem ↓] Go.wp_at_zero Go.wp_at_succ
set_option linter.unusedVariables false
set_option linter.unusedSimpArgs false

theorem infoU8 : (Tryz.prog.info? 5).map (fun i => (i.zero, i.size, i.bytes)) = some (some (.int .u8 0), 1, 1) := by kernel_rfl

/-- The bytes of a converted text, appended to a row that the call owns. -/
theorem wpList_append_bytes {w W : World} {ops : Array Oper} {rest : List Oper} {o : Oper} {a : Act} {Q : Exit → Act → World → Prop} (hgd : o.guard = none) (s x : Operand)
    (ho : o.op = .call { callee := .builtin .append, args := #[s, x], argTypes := #[101, 101] })
    {base n c : Nat} {v : Value} {xs : List UInt8} {l : List UInt8} (hs : a.eval s = v) (hown : W.ownsRow base 5 1 v xs.length (B8 xs)) (hbase : base ≤ W.heap.size) (hn : n = l.length)
    (hx : a.eval x = .slice (some ⟨W.heap.size, 0, none⟩) n c) (hm : xs.length + l.length ≤ 1048576) (hw : w = Lib.bytesWorld W 5 ⟨l.toArray⟩)
    (h : ∀ v' w', w'.ownsRow base 5 1 v' (xs ++ l).length (B8 (xs ++ l)) → W.grownBy w' v.ownBlock → wpList Tryz.prog ops Q rest (a.put o.dst v') w') : wpList Tryz.prog ops Q (o :: rest) a w := by
  subst hw
  subst hn
  have hbw : Below W.heap.size W (Lib.bytesWorld W 5 ⟨l.toArray⟩) := Joins.below_bytesWorld W.heap.size W 5 ⟨l.toArray⟩ (Nat.le_refl _)
  have hgw : W.grownBy (Lib.bytesWorld W 5 ⟨l.toArray⟩) v.ownBlock := grown_below hbw
  obtain ⟨i0, hi, hz0, hz1, hz2⟩ := info_parts infoU8
  refine wpList_append_own _ hgd s x 101 ho base 5 i0 _ 1 1 Tryz.underlying101 hi hz0 hz1 hz2 rfl (by decide) v xs.length (B8 xs) hs (own_below hown hbw) ⟨W.heap.size, 0, none⟩ l.length c (B8 l) hx (by rw [B8_length]; omega) ?_ ?_ (by unfold maxLen; omega) (by omega) (by have := hbw.size; omega) ?_
  · intro j y hj
    have hjl : j < l.length := by have := (List.getElem?_eq_some_iff.1 hj).1; rwa [B8_length] at this
    have hc := Lib.bytesWorld_cell W 5 ⟨l.toArray⟩ j (by rw [size_mk7]; exact hjl)
    have ha : (⟨W.heap.size, 0, none⟩ : Addr).add j = ⟨W.heap.size, j, none⟩ := by unfold Addr.add; split <;> simp_all
    rw [ha, hc, ← hj]
    simp [B8, hjl, List.getD]
  · intro y hy
    simp only [B8, List.mem_map] at hy
    obtain ⟨b, -, rfl⟩ := hy
    rfl
  · intro v' w' h1 h2 _
    refine h v' w' ?_ (grown_trans hgw h2)
    rw [B8_append, List.length_append]
    exact h1

theorem take_next {es : List EntV} {k j : Nat} {f : EntV} (hf : es[j]? = some f) (hk : k ≤ j) : (es.take (j + 1)).drop k = (es.take j).drop k ++ [f] := by
  obtain ⟨hlt, he⟩ := List.getElem?_eq_some_iff.1 hf
  rw [List.take_add_one, hf, List.drop_append_of_le_length (by rw [List.length_take]; omega)]
  rfl

/-- The frames so far, one more. -/
theorem frames_next {es : List EntV} {s : Int} {k j : Nat} {f : EntV} (hf : es[j]? = some f) (hk : k ≤ j) : framesB (s + k) ((es.take (j + 1)).drop k) = framesB (s + k) ((es.take j).drop k) ++ frameL (entB (s + 1 + j) f) := by
  have hlt := (List.getElem?_eq_some_iff.1 hf).1
  rw [take_next hf hk, framesB_append]
  congr 1
  simp only [framesB, List.append_nil]
  congr 2
  rw [List.length_drop, List.length_take]
  omega

theorem specEntryText_in (i : Int) (e : EntV) (ho : e.ok = true) (h1 : 1 ≤ i) (h2 : i ≤ 1000000) (w : World) :
    Calls Tryz.prog 87 #[.int .i64 i, .agg #[.int .i64 e.term, .int .i64 e.kind, .string e.data]] w fun r w' => r = .returned (.tuple #[.string ⟨(entB i e).toArray⟩, .bool true]) ∧ Below w.heap.size w w' := by
  have h := specEntryText_any i e (by have := ok_data ho; omega) w
  rw [etVal_yes (by rw [ho]; simp [indexOk, h1, h2])] at h
  exact h

theorem frames_room {es : List EntV} {s u : Int} (h : lgOk s u es = true) (k j : Nat) : (framesB (s + k) ((es.take j).drop k)).length ≤ 9360 := by
  have h1 := framesB_length ((es.take j).drop k) (s + k) (fun e he => lgOk_ok h e (List.mem_of_mem_take (List.mem_of_mem_drop he)))
  have h2 := (lgOk_rm h).2.2.2.2.1
  have h3 : ((es.take j).drop k).length ≤ es.length := by rw [List.length_drop, List.length_take]; omega
  omega

set_option maxHeartbeats 2000000 in
theorem l07Frames_any (s u : Int) (oa : Option Addr) (n cap : Nat) (es : List EntV) (k : Nat) (w : World) (hat : EntsAt w oa n cap es) (hok : lgOk s u es = true) (hk : k ≤ n) :
    Calls Tryz.prog 71 #[lgv s u (.slice oa n cap), .int .i64 (k : Int)] w fun e w' => e = .returned (.string ⟨(framesB (s + k) (es.drop k)).toArray⟩) ∧ Below w.heap.size w w' := by
  have hn := hat.len
  have hrm := lgOk_rm hok
  rw [hn] at hrm
  obtain ⟨s0, s1, -, -, n0, sn⟩ := hrm
  have HOK := hide hok
  have HN := hide hn
  have HAT := hide hat
  clear hok hn hat
  go_enter Tryz.func71, Tryz.ntmps71
  go_wp2_with fail
  go_loopw [5, 6] (fun v i wr => ∃ (j : Nat), i = .int .i64 (j : Int) ∧ k ≤ j ∧ j ≤ n ∧ wr.ownsRow (w.heap.size + 1) 5 1 v (framesB (s + k) ((es.take j).drop k)).length (B8 (framesB (s + k) ((es.take j).drop k))) ∧ LV wr w.heap.size s u (.slice oa n cap) ∧ Below w.heap.size w wr) (fun _ i _ => n - (intOf i).toNat)
  case atStart =>
    have e0 : framesB (s + k) ((es.take k).drop k) = [] := by rw [List.drop_eq_nil_of_le (by rw [List.length_take]; omega)]; rfl
    refine ⟨k, rfl, Nat.le_refl _, hk, ?_, (LV.new w s u (.slice oa n cap) 28).on ((Below.refl _ _).alloc (Nat.le_refl _) _), ((Below.refl w.heap.size w).alloc (Nat.le_refl _) _).alloc (by simp) _⟩
    rw [e0]
    have := World.ownsRow_made (w := w.alloc (.cells #[.int .i64 s, .int .i64 u, .slice oa n cap] 28)) (e := 5) (base := w.heap.size + 1) (size := 1) #[] 0 (by simp) (by decide) rfl
    simp at this
    exact this
  case round =>
    obtain ⟨j, rfl, hkj, hj, hown, hlv, hbel⟩ := hrel
    have HOW := hide hown
    have HLV := hide hlv
    have HBL := hide hbel
    have lv2 := hlv.c2
    clear hown hlv hbel
    by_cases hlt : j < n
    · have j0 : (j : Int) < (n : Int) := by omega
      obtain ⟨f, b, q, hf, hidx, hb, d0, d1, d2⟩ := (HAT.out.below HBL.out).get3 Tryz.underlying26 infoIE j hlt
      have hfo := lgOk_ok HOK.out f (List.mem_of_getElem? hf)
      have HET := hide (specEntryText_in (s + 1 + j) f hfo (by omega) (by omega))
      have hel := entB_length (i := s + 1 + j) hfo
      have HFR := hide (specFrame_in (entB (s + 1 + j) f) hel.1 (by omega))
      have hfl := frameL_room hel.2
      have HNX := hide (frames_next (s := s) hf hkj)
      have hrm := frames_room HOK.out k j
      have hsz := HBL.out.size
      generalize entB (s + 1 + j) f = E at HET hel HFR hfl HNX
      generalize frameL E = Fr at HFR hfl HNX
      have hkc : ∀ wx : World, (convert 9 101 (.string ⟨Fr.toArray⟩)).run Tryz.prog wx = .ok (.slice (some ⟨wx.heap.size, 0, none⟩) Fr.length (grownCap wx Fr.length 0 5)) (Lib.bytesWorld wx 5 ⟨Fr.toArray⟩) := fun wx => Lib.run_convert_string_bytes wx 9 101 5 ⟨Fr.toArray⟩ Tryz.underlying9 Tryz.underlying101 Tryz.underlying5
      clear hf hfo
      go_wp2_with fail
      refine wp_region_in (F := (fun w' => Below wr.heap.size wr w')) (by kernel_rfl) (by kernel_rfl) (Below.refl _ _).drew ?_
      have hne : Nonempty (InW (fun w' => Below wr.heap.size wr w')) := ⟨⟨_, Below.refl _ _⟩⟩
      have k0 : ∀ m : InW (fun w' => Below wr.heap.size wr w'), m.w.cell? ⟨w.heap.size, 0, none⟩ = some (.int .i64 s) := fun m => (HLV.out.on m.h).c0
      have k2 : ∀ m : InW (fun w' => Below wr.heap.size wr w'), m.w.cell? ⟨w.heap.size, 2, none⟩ = some (.slice oa n cap) := fun m => (HLV.out.on m.h).c2
      have e0 : ∀ m : InW (fun w' => Below wr.heap.size wr w'), m.w.cell? ⟨b, q, none⟩ = some (.int .i64 f.term) := fun m => (m.h.cell (p := ⟨b, q, none⟩) hb).trans d0
      have e1 : ∀ m : InW (fun w' => Below wr.heap.size wr w'), m.w.cell? ⟨b, q + 1, none⟩ = some (.int .i64 f.kind) := fun m => (m.h.cell (p := ⟨b, q + 1, none⟩) hb).trans d1
      have e2 : ∀ m : InW (fun w' => Below wr.heap.size wr w'), m.w.cell? ⟨b, q + 2, none⟩ = some (.string f.data) := fun m => (m.h.cell (p := ⟨b, q + 2, none⟩) hb).trans d2
      repeat (go_big_quiet_step (first | (go_at_call 87; refine (HET.out _).mono ?_; rintro r w9 ⟨rfl, hb9⟩; exact ⟨rfl, ⟨w9, Below.trans (InW.h _) (hb9.mono (Below.size (InW.h (F := (fun w' => Below wr.heap.size wr w')) ‹_›)))⟩, rfl⟩)))
      refine wpQuiet_nil ?_
      intro _ hw'
      obtain ⟨nq, hw''⟩ := hw'
      subst hw''
      have hbx := nq.h
      generalize nq.w = wx at hbx ⊢
      clear hne k0 k2 e0 e1 e2
      have HLX := hide (HLV.out.on hbx)
      have HOX := hide (own_below HOW.out hbx)
      have HBX := hide (HBL.out.trans (hbx.mono hsz))
      have hsx := HBX.out.size
      clear hb d0 d1 d2 HLV HOW HBL hbx lv2
      go_wp2_with fail
      refine (HFR.out _).mono ?_
      rintro r wy ⟨rfl, hby⟩
      have HLY := hide (HLX.out.on hby)
      have HOY := hide (own_below HOX.out hby)
      have HBY := hide (HBX.out.trans (hby.mono hsx))
      have hsy := HBY.out.size
      have hly := HLY.out.lt
      clear HLX HOX HBX hby hsx
      generalize framesB (s + k) ((es.take j).drop k) = X at HOY HNX hrm
      go_wp2_with (at_builtin; refine wpList_append_bytes rfl _ _ rfl rfl HOY.out (by omega) rfl rfl (by omega) rfl ?_; intro v' wz ho' hg')
      have HLZ := hide (HLY.out.kept hg' (fun e1 => by have := (HOY.out.lt _ e1).1; omega))
      have HBZ := hide (HBY.out.grown hg' (by omega) (fun q hq => by have := (HOY.out.lt q hq).1; omega))
      have HOZ := hide ho'
      clear ho' hg' HLY HBY HOY
      go_wp2_with fail
      go_roundw
      case rel => exact ⟨j + 1, by go_num, by omega, by omega, by rw [HNX.out]; exact HOZ.out, HLZ.out, HBZ.out⟩
      case measure => simp [intOf]; omega
    · obtain rfl : j = n := by omega
      have j1 : decide ((j : Int) < (j : Int)) = false := by simp
      have RD := hide (show framesB (s + k) (es.drop k) = framesB (s + k) ((es.take j).drop k) by rw [List.take_of_length_le (by rw [HN.out]; exact Nat.le_refl _)])
      have hks := fun wx (h : wx = wr) => (show (convert 101 9 u5).run Tryz.prog wx = _ from by subst h; exact run_string_own Tryz.underlying101 Tryz.underlying5 Tryz.underlying9 HOW.out)
      have hks := hks wr rfl
      go_wp2_with fail
      go_ret
      exact ⟨by rw [RD.out]; rfl, HBL.out⟩

theorem cat_two7 (x y : List UInt8) : (⟨x.toArray⟩ : ByteArray) ++ ⟨y.toArray⟩ = ⟨(x ++ y).toArray⟩ := by
  apply ByteArray.ext
  simp

/-- The results of JournalText. -/
def jtVal (j : JnV) : Value := if j.ok = true then .tuple #[.string ⟨j.text.toArray⟩, .bool true] else .tuple #[.string ⟨#[]⟩, .bool false]

theorem text_parts (j : JnV) : (⟨(headB j.s j.u).toArray⟩ : ByteArray) ++ ⟨(hardB j.term j.vote).toArray⟩ ++ ⟨(framesB j.s j.es).toArray⟩ = ⟨j.text.toArray⟩ := by
  rw [cat_two7, cat_two7]
  rfl

/-- Three texts, one behind the other. -/
theorem cat3_facts (P : Program) (a b c T : ByteArray) (h : a.size + b.size + c.size ≤ 1048576) (hT : a ++ b ++ c = T) : ∃ A1 : ByteArray, (∀ wx, (Op.stringOp .add a b).run P wx = .ok (.string A1) wx) ∧ (∀ wx, (Op.stringOp .add A1 c).run P wx = .ok (.string T) wx) := by
  subst hT
  exact ⟨_, fun wx => run_string_add_sum _ _ _ (by omega), fun wx => run_string_add_sum _ _ _ (by rw [ByteArray.size_append]; omega)⟩

set_option maxHeartbeats 4000000 in
theorem specJournalText_any (j : JnV) (oa : Option Addr) (n cap : Nat) (w : World) (hat : EntsAt w oa n cap j.es) (hw : ∀ f ∈ j.es, f.data.size ≤ 1048576) :
    Calls Tryz.prog 45 #[jval j.number j.term j.vote j.s j.u (.slice oa n cap)] w fun e w' => e = .returned (jtVal j) ∧ Below w.heap.size w w' := by
  have hb0 := (Below.refl w.heap.size w).alloc (Nat.le_refl _) (.cells #[.int .i64 j.number, .int .i64 j.term, .int .i64 j.vote, .int .i64 j.s, .int .i64 j.u, .slice oa n cap] 30)
  have HJO := hide (specJournalOk_any j oa n cap _ (hat.below hb0) hw)
  have HJV := hide (JV.new w j.number j.term j.vote j.s j.u (.slice oa n cap) 30)
  have HB0 := hide hb0
  have HAT := hide hat
  clear hat hw hb0
  cases hok : j.ok with
  | false =>
    have R := hide (show jtVal j = .tuple #[.string ⟨#[]⟩, .bool false] by unfold jtVal; rw [hok]; rfl)
    rw [hok] at HJO
    clear hok
    go_enter Tryz.func45, Tryz.ntmps45
    go_wp2_with fail
    refine HJO.out.mono ?_
    rintro r w1 ⟨rfl, hb1⟩
    go_wp2_with fail
    go_ret2
    exact ⟨by rw [R.out]; rfl, HB0.out.trans (hb1.mono (by simp))⟩
  | true =>
    obtain ⟨-, hH, hL⟩ := JnV.parts hok
    obtain ⟨s0, s1, u0, u1, n1, sn⟩ := lgOk_rm hL
    have hlen := HAT.out.len
    have R := hide (show jtVal j = .tuple #[.string ⟨j.text.toArray⟩, .bool true] by unfold jtVal; rw [hok]; rfl)
    have C := hide (text_parts j)
    have htl := text_room hL
    have HVS := hide (l01Var_int j.s s0 (by omega))
    have HVU := hide (l01Var_int j.u u0 (by omega))
    have hv1 := varB_room j.s.toNat
    have hv2 := varB_room j.u.toNat
    have htw := twoB_length 66 j.s.toNat j.u.toNat
    have HFB := hide (specFrame_in (twoB 66 j.s.toNat j.u.toNat) htw.1 (by omega))
    rw [show frameL (twoB 66 j.s.toNat j.u.toNat) = headB j.s j.u from rfl] at HFB
    have hh1 := frameL_room htw.2
    rw [show frameL (twoB 66 j.s.toNat j.u.toNat) = headB j.s j.u from rfl] at hh1
    have HHD := hide (l07Hard_any j.term j.vote hH)
    have hh2 : (hardB j.term j.vote).length ≤ 35 := frameL_room (twoB_length 72 j.term.toNat j.vote.toNat).2
    have HFS := hide (fun w hat => l07Frames_any j.s j.u oa n cap j.es 0 w hat hL (Nat.zero_le _))
    rw [List.drop_zero, show j.s + ((0 : Nat) : Int) = j.s by omega] at HFS
    have hh3 : (framesB j.s j.es).length ≤ 9360 := by have := framesB_length j.es j.s (lgOk_ok hL); omega
    rw [hok] at HJO
    clear hok hL hH
    obtain ⟨A1, f1, f2⟩ := cat3_facts Tryz.prog ⟨#[66]⟩ ⟨(varB j.s.toNat).toArray⟩ ⟨(varB j.u.toNat).toArray⟩ _ (by show 1 + (varB j.s.toNat).length + (varB j.u.toNat).length ≤ 1048576; omega) (cat_hard 66 j.s.toNat j.u.toNat)
    obtain ⟨A2, f3, f4⟩ := cat3_facts Tryz.prog ⟨(headB j.s j.u).toArray⟩ ⟨(hardB j.term j.vote).toArray⟩ ⟨(framesB j.s j.es).toArray⟩ _ (by rw [size_mk7, size_mk7, size_mk7]; omega) C.out
    have htl : (⟨j.text.toArray⟩ : ByteArray).size ≤ 20000 := by rw [size_mk7]; omega
    generalize (⟨j.text.toArray⟩ : ByteArray) = TX at R htl f4
    generalize (⟨(twoB 66 j.s.toNat j.u.toNat).toArray⟩ : ByteArray) = TB at HFB f2
    generalize (⟨(headB j.s j.u).toArray⟩ : ByteArray) = HB at HFB f3
    generalize (⟨(hardB j.term j.vote).toArray⟩ : ByteArray) = HH at HHD f3
    generalize (⟨(framesB j.s j.es).toArray⟩ : ByteArray) = FS at HFS f4
    generalize (⟨(varB j.s.toNat).toArray⟩ : ByteArray) = VS at HVS f1
    generalize (⟨(varB j.u.toNat).toArray⟩ : ByteArray) = VU at HVU f2
    clear C hh1 hh2 hh3 htw hv1 hv2
    generalize j.number = jN at HJO HJV HB0 ⊢
    generalize j.term = jT at HJO HJV HB0 HHD ⊢
    generalize j.vote = jV at HJO HJV HB0 HHD ⊢
    generalize j.s = jS at HJO HJV HB0 HVS HFS ⊢
    generalize j.u = jU at HJO HJV HB0 HVU HFS ⊢
    clear s0 s1 u0 u1 sn n1
    go_enter Tryz.func45, Tryz.ntmps45
    go_wp2_with fail
    refine HJO.out.mono ?_
    rintro r w1 ⟨rfl, hb1⟩
    have HJ1 := hide (HJV.out.on hb1)
    have B1 := hide (HB0.out.trans (hb1.mono (by simp)))
    clear hb1 HJO HJV HB0
    go_wp2_with fail
    refine wp_region_in (F := (fun w' => Below w1.heap.size w1 w')) (by kernel_rfl) (by kernel_rfl) (Below.refl _ _).drew ?_
    have hne : Nonempty (InW (fun w' => Below w1.heap.size w1 w')) := ⟨⟨_, Below.refl _ _⟩⟩
    have k3 : ∀ m : InW (fun w' => Below w1.heap.size w1 w'), m.w.cell? ⟨w.heap.size, 3, none⟩ = some (.int .i64 jS) := fun m => (HJ1.out.on m.h).c3
    have k4 : ∀ m : InW (fun w' => Below w1.heap.size w1 w'), m.w.cell? ⟨w.heap.size, 4, none⟩ = some (.int .i64 jU) := fun m => (HJ1.out.on m.h).c4
    repeat (go_big_quiet_step (first
      | (go_at_call 63; with_reducible refine (HVS.out _).mono ?_; rintro r w9 ⟨rfl, hb9⟩; exact ⟨rfl, ⟨w9, Below.trans (InW.h _) (hb9.mono (Below.size (InW.h (F := (fun w' => Below w1.heap.size w1 w')) ‹_›)))⟩, rfl⟩)
      | (go_at_call 63; with_reducible refine (HVU.out _).mono ?_; rintro r w9 ⟨rfl, hb9⟩; exact ⟨rfl, ⟨w9, Below.trans (InW.h _) (hb9.mono (Below.size (InW.h (F := (fun w' => Below w1.heap.size w1 w')) ‹_›)))⟩, rfl⟩)
      | (go_at_call 44; refine (HFB.out _).mono ?_; rintro r w9 ⟨rfl, hb9⟩; exact ⟨rfl, ⟨w9, Below.trans (InW.h _) (hb9.mono (Below.size (InW.h (F := (fun w' => Below w1.heap.size w1 w')) ‹_›)))⟩, rfl⟩)))
    refine wpQuiet_nil ?_
    intro _ hw'
    obtain ⟨nq, hw''⟩ := hw'
    subst hw''
    have hb2 := nq.h
    generalize nq.w = w2 at hb2 ⊢
    have HJ2 := hide (HJ1.out.on hb2)
    have B2 := hide (B1.out.trans (hb2.mono B1.out.size))
    clear hne k3 k4 hb2 HJ1 B1 f1 f2
    go_wp2_with fail
    refine wp_region_in (F := (fun w' => Below w2.heap.size w2 w')) (by kernel_rfl) (by kernel_rfl) (Below.refl _ _).drew ?_
    have hne : Nonempty (InW (fun w' => Below w2.heap.size w2 w')) := ⟨⟨_, Below.refl _ _⟩⟩
    have k1 : ∀ m : InW (fun w' => Below w2.heap.size w2 w'), m.w.cell? ⟨w.heap.size, 1, none⟩ = some (.int .i64 jT) := fun m => (HJ2.out.on m.h).c1
    have k2 : ∀ m : InW (fun w' => Below w2.heap.size w2 w'), m.w.cell? ⟨w.heap.size, 2, none⟩ = some (.int .i64 jV) := fun m => (HJ2.out.on m.h).c2
    have k3 : ∀ m : InW (fun w' => Below w2.heap.size w2 w'), m.w.cell? ⟨w.heap.size, 3, none⟩ = some (.int .i64 jS) := fun m => (HJ2.out.on m.h).c3
    have k4 : ∀ m : InW (fun w' => Below w2.heap.size w2 w'), m.w.cell? ⟨w.heap.size, 4, none⟩ = some (.int .i64 jU) := fun m => (HJ2.out.on m.h).c4
    have k5 : ∀ m : InW (fun w' => Below w2.heap.size w2 w'), m.w.cell? ⟨w.heap.size, 5, none⟩ = some (.slice oa n cap) := fun m => (HJ2.out.on m.h).c5
    have HATW := hide (show ∀ m : InW (fun w' => Below w2.heap.size w2 w'), EntsAt m.w oa n cap j.es from fun m => HAT.out.below (B2.out.trans (m.h.mono B2.out.size)))
    repeat (go_big_quiet_step (first
      | (go_at_call 70; with_reducible refine (HHD.out _).mono ?_; rintro r w9 ⟨rfl, hb9⟩; exact ⟨rfl, ⟨w9, Below.trans (InW.h _) (hb9.mono (Below.size (InW.h (F := (fun w' => Below w2.heap.size w2 w')) ‹_›)))⟩, rfl⟩)
      | (go_at_call 71; refine (HFS.out _ (HATW.out _)).mono ?_; rintro r w9 ⟨rfl, hb9⟩; exact ⟨rfl, ⟨w9, Below.trans (InW.h _) (hb9.mono (Below.size (InW.h (F := (fun w' => Below w2.heap.size w2 w')) ‹_›)))⟩, rfl⟩)))
    refine wpQuiet_nil ?_
    intro _ hw'
    obtain ⟨nq, hw''⟩ := hw'
    subst hw''
    have hb3 := nq.h
    generalize nq.w = w3 at hb3 ⊢
    have B3 := hide (B2.out.trans (hb3.mono B2.out.size))
    clear hne k1 k2 k3 k4 k5 HATW hb3 HJ2 B2 f3 f4
    go_wp2_with fail
    go_ret2
    exact ⟨by rw [R.out]; rfl, B3.out⟩

end Go.Proofs.YthbgklmnmoclhaaGreatDoor
