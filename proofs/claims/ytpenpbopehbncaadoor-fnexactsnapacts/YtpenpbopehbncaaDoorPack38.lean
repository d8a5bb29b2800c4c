/-
  Walks of chapter 3: FileAt, of the specification and of the program.
  A row that the call owns, appended to another one of its own; either may be nil or empty.
-/
import Derived.Test.YtpenpbopehbncaaDoorWalk3b
import Derived.Test.YtpenpbopehbncaaDoorShelf
import Derived.Test.YtpenpbopehbncaaDoorRowK
import Derived.Deep.AppendLies
import Derived.Deep.AppendSrc
namespace Go.Proofs.YtpenpbopehbncaaDoor
open Go.RowKit P5 K
set_option linter.unusedVariables false
set_option linter.unusedSimpArgs false

theorem stringsClone3_any (s : ByteArray) (hs : s.size ≤ 281474976710656) (w : World) :
    Calls Tryd.prog 88 #[.string s] w fun e w' => e = .returned (.string s) ∧ Below w.heap.size w w' := by
  go_enter Tryd.func88, Tryd.ntmps88
  go_wp2_with (go_at_call 103; refine (Tryd.stringslite_Clone s _ hs).mono ?_; rintro e w1 ⟨rfl, hb1⟩)
  go_ret
  exact ⟨rfl, hb1⟩

/-- The place of the file of a name. -/
def atFrom (nm : List UInt8) : List FileV → Nat → Int
  | [], _ => -1
  | f :: r, k => if f.name == nm then (k : Int) else atFrom nm r (k + 1)

theorem atFrom_cons (nm : List UInt8) (f : FileV) (r : List FileV) (k : Nat) : atFrom nm (f :: r) k = if f.name == nm then (k : Int) else atFrom nm r (k + 1) := rfl

theorem atFrom_spec (nm : List UInt8) : ∀ (fs : List FileV) (k : Nat), (atFrom nm fs k = -1 ∧ fileAt fs nm = none) ∨ ∃ i f, atFrom nm fs k = ((k + i : Nat) : Int) ∧ fs[i]? = some f ∧ fileAt fs nm = some f ∧ f.name = nm
  | [], k => Or.inl ⟨rfl, rfl⟩
  | f :: r, k => by
    rw [atFrom_cons]
    unfold fileAt
    rw [List.find?_cons]
    by_cases h : f.name = nm
    · right
      exact ⟨0, f, by simp [h], rfl, by simp [h], h⟩
    · have h1 : (f.name == nm) = false := by simpa using h
      rw [h1]
      rcases atFrom_spec nm r (k + 1) with ⟨e1, e2⟩ | ⟨i, g, e1, e2, e3, e4⟩
      · exact Or.inl ⟨by simpa using e1, e2⟩
      · refine Or.inr ⟨i + 1, g, ?_, by simpa using e2, e3, e4⟩
        simp only [Bool.false_eq_true, if_false]
        rw [e1]
        omega

set_option maxHeartbeats 1000000 in
theorem l03At_any (oa : Option Addr) (n cap : Nat) (fs : List FileV) (nm : List UInt8) (w : World) (hat : FilesAt w oa n cap fs) :
    Calls Tryd.prog 84 #[.agg #[.slice oa n cap], .string ⟨nm.toArray⟩] w fun e w' => e = .returned (.int .i64 (atFrom nm fs 0)) ∧ Below w.heap.size w w' := by
  have hb0 := (Below.refl w.heap.size w).alloc (Nat.le_refl _) (.cells #[.slice oa n cap] 47)
  have hn := hat.len
  have hc := hat.room
  have hm := hat.most
  unfold maxLen at hm
  have HN := hide hn
  have HAT := hide hat
  have HB0 := hide hb0
  clear hn hat hb0
  go_enter Tryd.func84, Tryd.ntmps84
  go_wp2_with fail
  go_loopw [5] (fun i wr => ∃ (j : Nat), i = .int .i64 (j : Int) ∧ j ≤ n ∧ atFrom nm (fs.drop j) j = atFrom nm fs 0 ∧ wr = w.alloc (.cells #[.slice oa n cap] 47)) (fun i _ => n - (intOf i).toNat)
  case atStart => exact ⟨0, rfl, Nat.zero_le _, rfl, rfl⟩
  case round =>
    obtain ⟨j, rfl, hj, hrest, rfl⟩ := hrel
    by_cases hlt : j < n
    · have j0 : (j : Int) < (n : Int) := by omega
      obtain ⟨f, b, q, hf, hidx, hb, c0, c1', c2⟩ := (HAT.out).get Tryd.underlying45 infoIF j hlt
      rw [drop_at hf, atFrom_cons] at hrest
      have HR := hide hrest
      clear hrest hf
      cases hd : (f.name == nm) with
      | true =>
        have HR2 := hide (show (j : Int) = atFrom nm fs 0 by rw [← HR.out, hd]; rfl)
        go_wp2_with fail
        go_ret
        exact ⟨by rw [← HR2.out]; rfl, HB0.out⟩
      | false =>
        have HR2 := hide (show atFrom nm (fs.drop (j + 1)) (j + 1) = atFrom nm fs 0 by rw [← HR.out, hd]; rfl)
        go_wp2_with fail
        go_roundw
        case rel => exact ⟨j + 1, by go_num, by omega, HR2.out, trivial⟩
        case measure => simp [intOf]; omega
    · have hjn : j = n := by omega
      have HR := hide hrest
      go_wp2_with fail
      go_ret
      refine ⟨?_, HB0.out⟩
      rw [← HR.out, hjn, ← HN.out, List.drop_length]
      rfl

def textAt (fs : List FileV) (nm : List UInt8) : List UInt8 := ((fileAt fs nm).map (·.text)).getD []
def hasAt (fs : List FileV) (nm : List UInt8) : Bool := (fileAt fs nm).isSome

set_option maxHeartbeats 1000000 in
theorem implFileAt_any (oa : Option Addr) (n cap : Nat) (fs : List FileV) (nm : List UInt8) (w : World) (hat : FilesAt w oa n cap fs) (hw : ∀ f ∈ fs, Fine f) :
    Calls Tryd.prog 87 #[.agg #[.slice oa n cap], .string ⟨nm.toArray⟩] w fun e w' => e = .returned (.tuple #[.string ⟨(textAt fs nm).toArray⟩, .bool (hasAt fs nm)]) ∧ Below w.heap.size w w' := by
  have hb0 := (Below.refl w.heap.size w).alloc (Nat.le_refl _) (.cells #[.slice oa n cap] 47)
  have hn := hat.len
  have hc := hat.room
  have hm := hat.most
  unfold maxLen at hm
  have HN := hide hn
  have HAT := hide hat
  have HB0 := hide hb0
  have HW := hide hw
  clear hn hat hb0 hw
  go_enter Tryd.func87, Tryd.ntmps87
  go_wp2_with fail
  go_loopw [11] (fun i wr => ∃ (j : Nat), i = .int .i64 (j : Int) ∧ j ≤ n ∧ fileAt (fs.drop j) nm = fileAt fs nm ∧ Below w.heap.size w wr ∧ w.heap.size < wr.heap.size) (fun i _ => n - (intOf i).toNat)
  case atStart => exact ⟨0, rfl, Nat.zero_le _, rfl, HB0.out, by simp⟩
  case round =>
    obtain ⟨j, rfl, hj, hrest, hbel, hsz⟩ := hrel
    by_cases hlt : j < n
    · have j0 : (j : Int) < (n : Int) := by omega
      obtain ⟨f, b, q, hf, hidx, hb, c0, c1', c2⟩ := (HAT.out.below hbel).get Tryd.underlying45 infoIF j hlt
      have hwf := HW.out f (List.mem_of_getElem? hf)
      have hwt : (⟨f.text.toArray⟩ : ByteArray).size ≤ 281474976710656 := by
        have := hwf.2.1
        have h3 : (⟨f.text.toArray⟩ : ByteArray).size = f.text.length := by simp [ByteArray.size]
        omega
      rw [drop_at hf] at hrest
      have HR := hide hrest
      clear hrest hf
      cases hd : (f.name == nm) with
      | true =>
        have HT := hide (show textAt fs nm = f.text ∧ hasAt fs nm = true by
          have h1 := HR.out
          unfold fileAt at h1
          rw [List.find?_cons, hd] at h1
          simp [textAt, hasAt, fileAt, ← h1])
        go_wp2_with (go_at_call 88; refine (stringsClone3_any _ hwt _).mono ?_; rintro e w2 ⟨rfl, hb2⟩)
        go_ret2
        exact ⟨by rw [HT.out.1, HT.out.2]; rfl, (hbel.alloc (by omega) _).trans (hb2.mono (by simp; omega))⟩
      | false =>
        have HR2 := hide (show fileAt (fs.drop (j + 1)) nm = fileAt fs nm by
          have h1 := HR.out
          unfold fileAt at h1
          rw [List.find?_cons, hd] at h1
          exact h1)
        go_wp2_with fail
        go_roundw
        case rel => exact ⟨j + 1, by go_num, by omega, HR2.out, hbel.alloc (by omega) _, by simp; omega⟩
        case measure => simp [intOf]; omega
    · have hjn : j = n := by omega
      have HT := hide (show textAt fs nm = [] ∧ hasAt fs nm = false by
        have h1 := hrest
        rw [hjn, ← HN.out, List.drop_length] at h1
        have h2 : fileAt fs nm = none := by rw [← h1]; rfl
        simp [textAt, hasAt, h2])
      clear hrest
      go_wp2_with fail
      go_ret2
      exact ⟨by rw [HT.out.1, HT.out.2]; rfl, hbel⟩

end Go.Proofs.YtpenpbopehbncaaDoor

namespace Go.Proofs.YtpenpbopehbncaaDoor
open Go.RowKit K
set_option linter.unusedVariables false
set_option linter.unusedSimpArgs false

theorem run_append_nil8 {P : Program} {w : World} (t ty e : TypeId) (i : TypeInfo) (ht : P.underlying t = some (.slice e)) (hi : P.info? e = some i) (oa : Option Addr) (n cap : Nat) (hn : n ≤ cap) :
    (Builtin.append_ #[t, t] ty #[.slice oa n cap, .slice none 0 0]).run P w = .ok (.slice oa n cap) w := by
  have hfc : (Builtin.firstCells i.size 0 (.slice none 0 0)).run P w = .ok #[] w := by simp [Builtin.firstCells]
  cases oa with
  | none => simp [Builtin.append_, run_underlying ht, sizeOf, typeInfo, hi, Builtin.lenOf, hfc, storeCells, hn]
  | some a => simp [Builtin.append_, run_underlying ht, sizeOf, typeInfo, hi, Builtin.lenOf, hfc, storeCells, hn]

theorem run_append_row8 {P : Program} {w : World} {t ty e : TypeId} {k base base2 m n : Nat} (hk0 : 0 < k) {z : Value} {bytes : Nat} (ht : P.underlying t = some (.slice e)) (hi : (P.info? e).map (fun i => (i.zero, i.size, i.bytes)) = some (some z, k, bytes)) (hzs : z.cells.size = k)
    {v v2 : Value} {xs xs2 : List Value} (hown : w.ownsRow base e k v n xs) (hown2 : w.ownsRow base2 e k v2 m xs2) (hu : ∀ u ∈ xs2, u.oneCell' = true)
    (hbase : base ≤ w.heap.size) (h63 : n + m ≤ maxLen) (hbytes : (n + m) * bytes ≤ 140737488355328) :
    ∃ v' w', (Builtin.append_ #[t, t] ty #[v, v2]).run P w = .ok v' w' ∧ w'.ownsRow base e k v' (n + m) (xs ++ xs2) ∧ w.grownBy w' v.ownBlock := by
  obtain ⟨i, hi, hz, h1, h2⟩ := info_parts hi
  rcases hown2.2 with ⟨rfl, rfl⟩ | ⟨g, cap, cur, rfl, hg0, hgb, hmc, hcm, hcs, htk⟩
  · have hx2 : xs2 = [] := by have := hown2.1; simpa using this
    subst hx2
    obtain ⟨oa, cap, hv, hnc⟩ : ∃ (oa : Option Addr) (cap : Nat), v = .slice oa n cap ∧ n ≤ cap := by
      rcases hown.2 with ⟨h1, h2⟩ | ⟨g', cap, cur, h1, -, -, h5, -⟩
      · exact ⟨_, _, by rw [h1, h2], by omega⟩
      · exact ⟨_, _, h1, h5⟩
    subst hv
    refine ⟨_, w, run_append_nil8 t ty e i ht hi oa n cap hnc, ?_, World.grownBy.refl _ _⟩
    simpa using hown
  · obtain ⟨v', w', hr, r1, r2, -⟩ := run_append_own (P := P) w base t ty e i z k bytes ht hi hz h1 h2 hzs hk0 v n xs hown ⟨g, 0, none⟩ m cap xs2 hown2.1 (fun q u hq => World.news_of_block hgb q u (by
      rw [← htk] at hq
      rw [List.getElem?_take] at hq
      split at hq
      · exact hq
      · cases hq)) hu h63 hbytes hbase
    exact ⟨v', w', hr, r1, r2⟩

theorem wp_append_row8 {P : Program} {w : World} {o : Oper} {a : Act} {K : Act → World → Prop} {Q : Exit → Act → World → Prop} (s x : Operand) (t : TypeId)
    (ho : o.op = .call { callee := .builtin .append, args := #[s, x], argTypes := #[t, t] })
    {base base2 k m : Nat} (hk0 : 0 < k) {e : TypeId} {z : Value} {bytes : Nat} (ht : P.underlying t = some (.slice e)) (hi : (P.info? e).map (fun i => (i.zero, i.size, i.bytes)) = some (some z, k, bytes)) (hzs : z.cells.size = k)
    {v v2 : Value} {n : Nat} {xs xs2 : List Value} (hs : a.eval s = v) (hown : w.ownsRow base e k v n xs) (hx : a.eval x = v2) (hown2 : w.ownsRow base2 e k v2 m xs2) (hu : ∀ u ∈ xs2, u.oneCell' = true)
    (hbase : base ≤ w.heap.size) (h63 : n + m ≤ maxLen) (hbytes : (n + m) * bytes ≤ 140737488355328)
    (h : ∀ v' w', w'.ownsRow base e k v' (n + m) (xs ++ xs2) → w.grownBy w' v.ownBlock → K (a.put o.dst v') w') : o.wp P a w K Q := by
  obtain ⟨v', w', hr, r1, r2⟩ := run_append_row8 (ty := o.type) hk0 ht hi hzs hown hown2 hu hbase h63 hbytes
  unfold Oper.wp execOp
  simp only [ho, resolve, invoke, builtin, Sem.run_bind, Sem.run_pure, Result.andThen_ok, List.map_toArray, List.map_cons, List.map_nil, hs, hx, hr]
  exact h v' w' r1 r2

theorem wpList_append_row8 {P : Program} {w : World} {ops : Array Oper} {rest : List Oper} {o : Oper} {a : Act} {Q : Exit → Act → World → Prop} (hgd : o.guard = none) (s x : Operand) (t : TypeId)
    (ho : o.op = .call { callee := .builtin .append, args := #[s, x], argTypes := #[t, t] })
    {base base2 k m : Nat} (hk0 : 0 < k) {e : TypeId} {z : Value} {bytes : Nat} (ht : P.underlying t = some (.slice e)) (hi : (P.info? e).map (fun i => (i.zero, i.size, i.bytes)) = some (some z, k, bytes)) (hzs : z.cells.size = k)
    {v v2 : Value} {n : Nat} {xs xs2 : List Value} (hs : a.eval s = v) (hown : w.ownsRow base e k v n xs) (hx : a.eval x = v2) (hown2 : w.ownsRow base2 e k v2 m xs2) (hu : ∀ u ∈ xs2, u.oneCell' = true)
    (hbase : base ≤ w.heap.size) (h63 : n + m ≤ maxLen) (hbytes : (n + m) * bytes ≤ 140737488355328)
    (h : ∀ v' w', w'.ownsRow base e k v' (n + m) (xs ++ xs2) → w.grownBy w' v.ownBlock → wpList P ops Q rest (a.put o.dst v') w') : wpList P ops Q (o :: rest) a w :=
  wpList_plain hgd fun _ hK => wp_append_row8 s x t ho hk0 ht hi hzs hs hown hx hown2 hu hbase h63 hbytes fun v' w' h2 h3 => hK _ _ (h v' w' h2 h3)

/-- 'out = append(out, x, y ..)' of m structs of k cells, in a region that does not draw: they lie in a new block. -/
theorem wpList_pushM8 {P : Program} {W0 : World} {ops : Array Oper} {rest : List Oper} {o : Oper} {a : Act} {Q : Exit → Act → World → Prop} (hgd : o.guard = none) (s x : Operand) (t : TypeId)
    (ho : o.op = .call { callee := .builtin .append, args := #[s, x], argTypes := #[t, t] })
    {base k m : Nat} (hk0 : 0 < k) {e : TypeId} {z : Value} {bytes : Nat} (ht : P.underlying t = some (.slice e)) (hi : (P.info? e).map (fun i => (i.zero, i.size, i.bytes)) = some (some z, k, bytes)) (hzs : z.cells.size = k)
    {v : Value} {n : Nat} {xs : List Value} (hs : a.eval s = v) (hown : W0.ownsRow base e k v n xs)
    {cs : Array Value} (hx : a.eval x = .slice (some ⟨W0.heap.size, 0, none⟩) m m) (hm : cs.toList.length = m * k) (hu : ∀ u ∈ cs.toList, u.oneCell' = true)
    (hbase : base ≤ W0.heap.size) (h63 : n + m ≤ maxLen) (hbytes : (n + m) * bytes ≤ 140737488355328)
    (h : ∀ v' w', w'.ownsRow base e k v' (n + m) (xs ++ cs.toList) → W0.grownBy w' v.ownBlock → wpList P ops Q rest (a.put o.dst v') w') : wpList P ops Q (o :: rest) a (W0.alloc (.cells cs e)) := by
  obtain ⟨i, hi, hz, h1, h2⟩ := info_parts hi
  refine wpList_append_own _ hgd s x t ho base e i z k bytes ht hi hz h1 h2 hzs hk0 v n xs hs (hown.alloc _) ⟨W0.heap.size, 0, none⟩ m m cs.toList hx hm (World.news_of_block (heap_alloc_new W0 _)) hu h63 hbytes (by simp; omega) ?_
  intro v' w' hown' hgrow _
  exact h v' w' hown' (grown_trans (World.grownBy_alloc _ _ _) hgrow)

end Go.Proofs.YtpenpbopehbncaaDoor
