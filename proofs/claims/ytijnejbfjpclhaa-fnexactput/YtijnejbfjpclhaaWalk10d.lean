/-
  Walks of chapter 10: Put of the specification.
-/
import Derived.Test.YtijnejbfjpclhaaWalk10b
import Derived.Test.YtijnejbfjpclhaaRowK
import Derived.Test.YtijnejbfjpclhaaRowCat
import Derived.Test.YtijnejbfjpclhaaBox
namespace Go.Proofs.Ytijnejbfjpclhaa
open Go.RowKit P1 P5 P9 P11 P12 P14 K
set_option linter.unusedVariables false
set_option linter.unusedSimpArgs false

theorem icells_one (s : List (Int × Int)) : ∀ u ∈ s.flatMap icells, u.oneCell' = true := by
  intro u hu
  obtain ⟨x, _, hx⟩ := List.mem_flatMap.1 hu
  simp only [icells, List.mem_cons, List.mem_nil_iff, or_false] at hx
  rcases hx with rfl | rfl <;> rfl

theorem news_items {w : World} {b o n cap : Nat} {s : List (Int × Int)} (h : ItemsAt w (some ⟨b, o, none⟩) n cap s) : ∀ j u, (s.flatMap icells)[j]? = some u → w.cell? ((⟨b, o, none⟩ : Addr).add j) = some u := by
  intro j u hu
  have hlt : j < s.length * 2 := by
    have := (List.getElem?_eq_some_iff.1 hu).1
    rwa [flat_length icells 2 icells_length] at this
  have h1 : j / 2 < s.length := by omega
  have e1 : j = j / 2 * 2 + j % 2 := by omega
  have h3 := flat_get icells 2 icells_length s (j / 2) (j % 2) h1 (by omega)
  rw [← e1, hu] at h3
  obtain ⟨b', o', he, hc⟩ := h.at_ (j / 2) s[j / 2] (List.getElem?_eq_getElem h1)
  cases he
  have := hc (j % 2) u h3.symm
  rw [Addr.add_mid]
  rw [show o + j = o + j / 2 * 2 + j % 2 by omega]
  exact this

theorem items_none {w : World} {n cap : Nat} {s : List (Int × Int)} (h : ItemsAt w none n cap s) : s = [] ∧ n = 0 := by
  have : s = [] := by
    cases s with
    | nil => rfl
    | cons x r =>
      obtain ⟨b, o, he, _⟩ := h.at_ 0 x rfl
      cases he
  subst this
  exact ⟨rfl, by have := h.len; simpa using this.symm⟩

theorem drew_trans {a b c : World} (h : Drew a b) (k : Drew b c) : Drew a c := by
  obtain ⟨q, rfl⟩ := h
  obtain ⟨q2, rfl⟩ := k
  exact ⟨q + q2, by simp⟩

/-- A row of Items so far. -/
structure OutI (w wr : World) (v : Value) (t : List (Int × Int)) : Prop where
  own : wr.ownsRow w.heap.size 49 2 v t.length (t.flatMap icells)
  bel : Below w.heap.size w wr

theorem OutI.snoc {w w' : World} {v' : Value} {t : List (Int × Int)} {x : Int × Int} (h : w'.ownsRow w.heap.size 49 2 v' (t.length + 1) (t.flatMap icells ++ [.int .i64 x.1, .int .i64 x.2])) (hb : Below w.heap.size w w') : OutI w w' v' (t ++ [x]) := by
  refine ⟨?_, hb⟩
  rw [List.length_append, List.flatMap_append]
  simpa [icells] using h

theorem filter_snoc {p : Int × Int → Bool} {s : List (Int × Int)} {j : Nat} {x : Int × Int} (h : s[j]? = some x) : (s.take (j + 1)).filter p = (s.take j).filter p ++ (if p x then [x] else []) := by
  rw [List.take_add_one, h, List.filter_append]
  simp [List.filter_cons]

theorem filter_small {p : Int × Int → Bool} (s : List (Int × Int)) (j : Nat) : ((s.take j).filter p).length ≤ s.length :=
  Nat.le_trans (List.length_filter_le _ _) (by rw [List.length_take]; omega)

theorem run_append_nilc {P : Program} {w : World} (t ty e : TypeId) (i : TypeInfo) (ht : P.underlying t = some (.slice e)) (hi : P.info? e = some i) (oa : Option Addr) (n cap c : Nat) (hn : n ≤ cap) :
    (Builtin.append_ #[t, t] ty #[.slice oa n cap, .slice none 0 c]).run P w = .ok (.slice oa n cap) w := by
  have hfc : (Builtin.firstCells i.size 0 (.slice none 0 c)).run P w = .ok #[] w := by simp [Builtin.firstCells]
  cases oa with
  | none => simp [Builtin.append_, run_underlying ht, sizeOf, typeInfo, hi, Builtin.lenOf, hfc, storeCells, hn]
  | some a => simp [Builtin.append_, run_underlying ht, sizeOf, typeInfo, hi, Builtin.lenOf, hfc, storeCells, hn]

/-- 'append(out, s...)' of a slice of Items that lies anywhere, nil too. -/
theorem wpList_append_items {w : World} {ops : Array Oper} {rest : List Oper} {o : Oper} {a : Act} {Q : Exit → Act → World → Prop} (hgd : o.guard = none) (sx x : Operand)
    (ho : o.op = .call { callee := .builtin .append, args := #[sx, x], argTypes := #[25, 25] })
    {base : Nat} {v : Value} {n : Nat} {xs : List Value} (hs : a.eval sx = v) (hown : w.ownsRow base 49 2 v n xs)
    {oa : Option Addr} {m cap : Nat} {s : List (Int × Int)} (hx : a.eval x = .slice oa m cap) (hat : ItemsAt w oa m cap s)
    (hbase : base ≤ w.heap.size) (h63 : n + m ≤ maxLen) (hbytes : (n + m) * 16 ≤ 140737488355328)
    (h : ∀ v' w', w'.ownsRow base 49 2 v' (n + m) (xs ++ s.flatMap icells) → w.grownBy w' v.ownBlock → wpList Try.prog ops Q rest (a.put o.dst v') w') : wpList Try.prog ops Q (o :: rest) a w := by
  cases oa with
  | none =>
    obtain ⟨rfl, rfl⟩ := items_none hat
    obtain ⟨i, hi, hz, h1, h2⟩ := info_parts infoIIz
    refine wpList_plain hgd fun K hK => ?_
    obtain ⟨ov, cv, hv, hnc⟩ : ∃ (oa : Option Addr) (cap : Nat), v = .slice oa n cap ∧ n ≤ cap := by
      rcases hown.2 with ⟨h1, h2⟩ | ⟨g', cap, cur, h1, -, -, h5, -⟩
      · exact ⟨_, _, by rw [h1, h2], by omega⟩
      · exact ⟨_, _, h1, h5⟩
    subst hv
    have hr := run_append_nilc (w := w) 25 o.type 49 i Try.underlying25 hi ov n cv cap hnc
    unfold Oper.wp execOp
    simp only [ho, resolve, invoke, builtin, Sem.run_bind, Sem.run_pure, Result.andThen_ok, List.map_toArray, List.map_cons, List.map_nil, hs, hx, hr]
    exact hK _ _ (h _ _ (by simpa using hown) (World.grownBy.refl _ _))
  | some ad =>
    obtain ⟨i, hi, hz, h1, h2⟩ := info_parts infoIIz
    have hsp : ad.spot = none ∨ s = [] := by
      cases s with
      | nil => exact .inr rfl
      | cons y r =>
        obtain ⟨b, o', he, _⟩ := hat.at_ 0 y rfl
        exact .inl (by cases he; rfl)
    refine wpList_append_own _ hgd sx x 25 ho base 49 i _ 2 16 Try.underlying25 hi hz h1 h2 rfl (by decide) v n xs hs hown ad m cap (s.flatMap icells) hx (by rw [flat_length icells 2 icells_length, hat.len]) ?_ (icells_one s) h63 hbytes hbase (fun v' w' h2 h3 _ => h v' w' h2 h3)
    rcases hsp with hsp | rfl
    · obtain ⟨b, o', sp⟩ := ad
      simp only at hsp
      subst hsp
      exact news_items hat
    · intro j u hu
      simp at hu

/-- What an answer that is a row of Items says. -/
def PutPost (w : World) (t : List (Int × Int)) (e : Ending) (w' : World) : Prop := ∃ v, e = .returned v ∧ w'.ownsRow w.heap.size 49 2 v t.length (t.flatMap icells) ∧ Below w.heap.size w w'

set_option maxHeartbeats 8000000 in
theorem specPut_any (oa : Option Addr) (n cap : Nat) (s : List (Int × Int)) (k i : Int) (hn20 : n ≤ 1048576) (w : World) (hat : ItemsAt w oa n cap s) :
    Calls Try.prog 14 #[.slice oa n cap, .int .i64 k, .int .i64 i] w (PutPost w (stPut s k i)) := by
  have hn := hat.len
  have HN := hide hn
  have HAT := hide hat
  clear hn hat
  go_enter Try.func14, Try.ntmps14
  go_wp2_with fail
  have HO0 := hide (show OutI w (w.alloc (.cells #[] 49)) (.slice (some ⟨w.heap.size, 0, none⟩) 0 0) [] from ⟨World.ownsRow_made (w := w) #[] 0 (Nat.le_refl _) (by decide) rfl, (Below.refl _ _).alloc (Nat.le_refl _) _⟩)
  go_loopw [7, 8] (fun v x wr => ∃ (j : Nat) (oo : Option Addr) (m co : Nat), x = .int .i64 (j : Int) ∧ v = .slice oo m co ∧ j ≤ n ∧ OutI w wr (.slice oo m co) ((s.take j).filter (fun x => decide (x.1 < k)))) (fun _ x _ => n - (intOf x).toNat)
  case atStart => exact ⟨0, _, _, _, rfl, rfl, Nat.zero_le _, by simpa using HO0.out⟩
  case round =>
    obtain ⟨j, oo, m, co, rfl, rfl, hj, hO⟩ := hrel
    have HO := hide hO
    have hbel := hO.bel
    clear hO HO0
    have hsm : ((s.take j).filter (fun x => decide (x.1 < k))).length ≤ 1048576 := Nat.le_trans (filter_small s j) (by rw [HN.out]; exact hn20)
    by_cases hlt : j < n
    · have j0 : (j : Int) < (n : Int) := by omega
      obtain ⟨x, b, q, hx, hidx, hb, c0, c1⟩ := (HAT.out.below hbel).get Try.underlying25 infoII j hlt
      have HF := hide (filter_snoc (p := fun x => decide (x.1 < k)) hx)
      have hsz := hbel.size
      clear hx
      by_cases hk : x.1 < k
      · have HF2 := hide (show (s.take (j + 1)).filter (fun x => decide (x.1 < k)) = (s.take j).filter (fun x => decide (x.1 < k)) ++ [x] by rw [HF.out, if_pos (by simpa using hk)])
        have hown := HO.out.own
        go_wp2_with (at_builtin; refine wpList_pushK (W := w) (cs := #[.int .i64 x.1, .int .i64 x.2]) rfl _ _ 25 rfl (by decide) Try.underlying25 infoIIz rfl rfl hown rfl rfl (by simp [Value.oneCell']) hbel hsz (by unfold maxLen; omega) (by omega) ?_; intro v' w1 hown1 hb1 hs1; obtain ⟨o2, c2, rfl⟩ := row_form hown1)
        have hO2 := OutI.snoc (x := x) hown1 hb1
        rw [← HF2.out] at hO2
        have HO2 := hide hO2
        clear hO2 hown1 hb1 hown
        go_wp2_with fail
        go_roundw
        case rel => exact ⟨j + 1, _, _, _, by go_num, rfl, by omega, HO2.out⟩
        case measure => simp [intOf]; omega
      · have HF2 := hide (show (s.take (j + 1)).filter (fun x => decide (x.1 < k)) = (s.take j).filter (fun x => decide (x.1 < k)) by rw [HF.out, if_neg (by simpa using hk), List.append_nil])
        go_wp2_with fail
        go_roundw
        case rel => exact ⟨j + 1, _, _, _, by go_num, rfl, by omega, by rw [HF2.out]; exact HO.out⟩
        case measure => simp [intOf]; omega
    · have hjn : s.take j = s := List.take_of_length_le (by rw [HN.out]; omega)
      rw [hjn] at HO hsm
      clear hjn
      have hsz := hbel.size
      have hown := HO.out.own
      go_wp2_with (at_builtin; refine wpList_pushK (W := w) (cs := #[.int .i64 k, .int .i64 i]) rfl _ _ 25 rfl (by decide) Try.underlying25 infoIIz rfl rfl hown rfl rfl (by simp [Value.oneCell']) hbel hsz (by unfold maxLen; omega) (by omega) ?_; intro v' w1 hown1 hb1 hs1; obtain ⟨o2, c2, rfl⟩ := row_form hown1)
      have HO1 := hide (OutI.snoc (x := (k, i)) hown1 hb1)
      clear hown1 hb1 hown HO hs1
      go_wp2_with fail
      go_loopw [7, 9] (fun v x wr => ∃ (j : Nat) (oo : Option Addr) (m co : Nat) (L : List (Int × Int)), x = .int .i64 (j : Int) ∧ v = .slice oo m co ∧ j ≤ n ∧ L = s.filter (fun x => decide (x.1 < k)) ++ [(k, i)] ++ (s.take j).filter (fun x => decide (k < x.1)) ∧ OutI w wr (.slice oo m co) L) (fun _ x _ => n - (intOf x).toNat)
      case atStart => exact ⟨0, _, _, _, _, rfl, rfl, Nat.zero_le _, by simp, HO1.out⟩
      case round =>
        obtain ⟨j2, oo2, m2, co2, L, rfl, rfl, hj2, hL, hO⟩ := hrel
        have HO := hide hO
        have hbel2 := hO.bel
        have hsm2 : L.length ≤ 3145728 := by
          have := filter_small (p := fun x => decide (k < x.1)) s j2
          rw [HN.out] at this
          rw [hL]
          simp only [List.length_append, List.length_cons, List.length_nil]
          omega
        have HL := hide hL
        have hsz2 := hbel2.size
        clear hO HO1 hL
        by_cases hlt2 : j2 < n
        · have j0 : (j2 : Int) < (n : Int) := by omega
          obtain ⟨x, b, q, hx, hidx, hb, c0, c1⟩ := (HAT.out.below hbel2).get Try.underlying25 infoII j2 hlt2
          have HF := hide (filter_snoc (p := fun x => decide (k < x.1)) hx)
          clear hx
          by_cases hk : k < x.1
          · have HF2 := hide (show L ++ [x] = s.filter (fun x => decide (x.1 < k)) ++ [(k, i)] ++ (s.take (j2 + 1)).filter (fun x => decide (k < x.1)) by rw [HF.out, if_pos (by simpa using hk), HL.out]; simp only [List.append_assoc])
            have hown := HO.out.own
            go_wp2_with (at_builtin; refine wpList_pushK (W := w) (cs := #[.int .i64 x.1, .int .i64 x.2]) rfl _ _ 25 rfl (by decide) Try.underlying25 infoIIz rfl rfl hown rfl rfl (by simp [Value.oneCell']) hbel2 hsz2 (by unfold maxLen; omega) (by omega) ?_; intro v' w1 hown1 hb1 hs1; obtain ⟨o3, c3, rfl⟩ := row_form hown1)
            have HO2 := hide (OutI.snoc (x := x) hown1 hb1)
            clear hown1 hb1 hown
            go_wp2_with fail
            go_roundw
            case rel => exact ⟨j2 + 1, _, _, _, _, by go_num, rfl, by omega, HF2.out, HO2.out⟩
            case measure => simp [intOf]; omega
          · have HF2 := hide (show L = s.filter (fun x => decide (x.1 < k)) ++ [(k, i)] ++ (s.take (j2 + 1)).filter (fun x => decide (k < x.1)) by rw [HF.out, if_neg (by simpa using hk), List.append_nil, HL.out])
            go_wp2_with fail
            go_roundw
            case rel => exact ⟨j2 + 1, _, _, _, _, by go_num, rfl, by omega, HF2.out, HO.out⟩
            case measure => simp [intOf]; omega
        · have hjn : s.take j2 = s := List.take_of_length_le (by rw [HN.out]; omega)
          have hin : L = stIn s k i := by rw [HL.out, hjn]; simp [stIn]
          subst hin
          have hnl := HO.out.own
          obtain ⟨oa4, c4, he4, hat4⟩ := itemsAt_of_own hnl
          cases he4
          have HA4 := hide hat4
          clear hjn hat4 hnl HL
          have HS1 := hide (fun w hat => specStateOk_any oa n cap s w hat)
          have HS2 := hide (fun w hat => specStateOk_any oo2 (stIn s k i).length co2 (stIn s k i) w hat)
          have HP := hide (show stPut s k i = if stOk s && stOk (stIn s k i) then stIn s k i else s from rfl)
          generalize stOk s = r1 at HS1 HP
          generalize stOk (stIn s k i) = r2 at HS2 HP
          generalize stIn s k i = L at *
          have cop : ∀ wr3 : World, Drew wr wr3 → stPut s k i = s → Below w.heap.size w wr3 ∧ ItemsAt (wr3.alloc (.cells #[] 49)) oa n cap s ∧ (wr3.alloc (.cells #[] 49)).ownsRow w.heap.size 49 2 (.slice (some ⟨wr3.heap.size, 0, none⟩) 0 0) 0 [] := fun wr3 hd _ =>
            have hB := hbel2.trans (hd.below.mono hsz2)
            ⟨hB, HAT.out.below (hB.alloc hB.size _), own_base (World.ownsRow_made (w := wr3) #[] 0 (Nat.le_refl _) (by decide) rfl) hB.size⟩
          have HC := hide cop
          clear cop
          cases r1 with
          | false =>
            have HT := hide (show stPut s k i = s by rw [HP.out]; rfl)
            clear HP HS2
            go_wp2_with (first
              | (go_at_call 8; refine (HS1.out _ (HAT.out.below hbel2)).mono ?_; rintro e w3 ⟨rfl, hd3⟩; obtain ⟨hB3, hA3, hO3⟩ := HC.out w3 hd3 HT.out; have HB3 := hide hB3; have HA3 := hide hA3; have HO3 := hide hO3; clear hB3 hA3 hO3)
              | (at_builtin; refine wpList_append_items rfl _ _ rfl rfl HO3.out rfl HA3.out (by have := HB3.out.size; simp; omega) (by unfold maxLen; omega) (by omega) ?_; intro v4 w4 ho4 hg4; rw [Nat.zero_add, List.nil_append] at ho4; obtain ⟨ov4, cv4, rfl⟩ := row_form ho4; have HO4 := hide ho4; have HG4 := hide hg4; clear ho4 hg4))
            go_ret
            refine ⟨_, rfl, ?_, ?_⟩
            · rw [HT.out, HN.out]; exact HO4.out
            · exact (HB3.out.alloc HB3.out.size _).grown HG4.out (by have := HB3.out.size; simp; omega) (fun q hq => by cases hq; exact HB3.out.size)
          | true =>
            cases r2 with
            | false =>
              have HT := hide (show stPut s k i = s by rw [HP.out]; rfl)
              clear HP
              go_wp2_with (first
                | (go_at_call 8; with_reducible refine (HS1.out _ (HAT.out.below hbel2)).mono ?_; rintro e w30 ⟨rfl, hd30⟩)
                | (go_at_call 8; with_reducible refine (HS2.out _ (HA4.out.below hd30.below)).mono ?_; rintro e w3 ⟨rfl, hd31⟩; have hd3 : Drew wr w3 := drew_trans hd30 hd31; obtain ⟨hB3, hA3, hO3⟩ := HC.out w3 hd3 HT.out; have HB3 := hide hB3; have HA3 := hide hA3; have HO3 := hide hO3; clear hB3 hA3 hO3)
                | (at_builtin; refine wpList_append_items rfl _ _ rfl rfl HO3.out rfl HA3.out (by have := HB3.out.size; simp; omega) (by unfold maxLen; omega) (by omega) ?_; intro v4 w4 ho4 hg4; rw [Nat.zero_add, List.nil_append] at ho4; obtain ⟨ov4, cv4, rfl⟩ := row_form ho4; have HO4 := hide ho4; have HG4 := hide hg4; clear ho4 hg4))
              go_ret
              refine ⟨_, rfl, ?_, ?_⟩
              · rw [HT.out, HN.out]; exact HO4.out
              · exact (HB3.out.alloc HB3.out.size _).grown HG4.out (by have := HB3.out.size; simp; omega) (fun q hq => by cases hq; exact HB3.out.size)
            | true =>
              have HT := hide (show stPut s k i = L by rw [HP.out]; rfl)
              clear HP
              go_wp2_with (first
                | (go_at_call 8; with_reducible refine (HS1.out _ (HAT.out.below hbel2)).mono ?_; rintro e w30 ⟨rfl, hd30⟩)
                | (go_at_call 8; with_reducible refine (HS2.out _ (HA4.out.below hd30.below)).mono ?_; rintro e w3 ⟨rfl, hd31⟩))
              go_ret
              have hd3 : Drew wr w3 := drew_trans hd30 hd31
              refine ⟨_, rfl, ?_, hbel2.trans (hd3.below.mono hsz2)⟩
              rw [HT.out]
              exact own_below HO.out.own hd3.below

end Go.Proofs.Ytijnejbfjpclhaa
