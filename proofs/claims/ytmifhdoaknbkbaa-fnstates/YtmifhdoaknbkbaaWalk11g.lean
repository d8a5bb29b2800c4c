/-
  Walks of chapter 11 of the specification: all events that are ahead of one.
-/
import Derived.Test.YtmifhdoaknbkbaaWalk11f
import Derived.Test.YtmifhdoaknbkbaaWin
namespace Go.Proofs.Ytmifhdoaknbkbaa
open Go.RowKit P1 P3 P5 P9 P11 P12 P14 P15 K
set_option linter.unusedVariables false
set_option linter.unusedSimpArgs false

theorem evKn_of (es : List EvV) (id : Int) : evKn es id = (evOf es id, (evFind es id).isSome) := by
  unfold evOf
  cases h : evFind es id with
  | none => rw [evKn_none h]; rfl
  | some e => rw [evKn_some h]; rfl

def lenS : Value → Nat
  | .slice _ n _ => n
  | _ => 0

/-- What is found so far, and what is still looked at: two rows in two blocks. -/
structure Beh (es : List EvV) (w wr : World) (v : Value) (g o cap : Nat) (out todo : List Int) : Prop where
  own : wr.ownsRow w.heap.size 3 1 v out.length (out.map icell)
  win : WinN wr w.heap.size g o cap todo
  ap : v.ownBlock ≠ some g
  bel : Below w.heap.size w wr
  ok : BehOk es out
  wf : ∀ z ∈ out, (Lit.int .i64 z).wf = true
  few : todo.length ≤ out.length + 1

theorem Beh.below {es : List EvV} {w wr w2 : World} {v : Value} {g o cap : Nat} {out todo : List Int} (h : Beh es w wr v g o cap out todo) (hb : Below wr.heap.size wr w2) : Beh es w w2 v g o cap out todo :=
  ⟨own_below h.own hb, h.win.below hb, h.ap, h.bel.trans (hb.mono h.bel.size), h.ok, h.wf, h.few⟩

theorem Beh.new (es : List EvV) (w : World) (id : Int) (hid : (Lit.int .i64 id).wf = true) : Beh es w ((w.alloc (.cells #[] 3)).alloc (.cells #[.int .i64 id] 3)) (.slice (some ⟨w.heap.size, 0, none⟩) 0 0) (w.heap.size + 1) 0 1 [] [id] := by
  have hw := winN_new (w.alloc (.cells #[] 3)) w.heap.size id (by simp) hid
  rw [World.size_alloc] at hw
  refine ⟨(OutN.new w).own.alloc _, hw, ?_, ((Below.refl _ _).alloc (Nat.le_refl _) _).alloc (by simp) _, ⟨by simp, fun z hz => by simp at hz⟩, fun z hz => by simp at hz, by simp⟩
  intro e
  simp [Value.ownBlock] at e

/-- One more in both. -/
theorem Beh.more {es : List EvV} {w wr w1 w2 : World} {v v1 : Value} {g o cap g2 o2 cap2 : Nat} {out todo : List Int} {z : Int} {ob : Obj} (h : Beh es w wr v g o cap out todo)
    (h1 : w1.ownsRow w.heap.size 3 1 v1 (out.length + 1) (out.map icell ++ [.int .i64 z])) (hg1 : (wr.alloc ob).grownBy w1 v.ownBlock) (hl1 : v1.ownBlock = v.ownBlock ∨ v1.ownBlock = some (wr.heap.size + 1))
    (h2 : WinN w2 w.heap.size g2 o2 cap2 (todo ++ [z])) (hg2 : (w1.alloc ob).grownBy w2 (some g)) (hl2 : g2 = g ∨ g2 = w1.heap.size + 1) (hok : BehOk es (out ++ [z])) (hz : (Lit.int .i64 z).wf = true) : Beh es w w2 v1 g2 o2 cap2 (out ++ [z]) (todo ++ [z]) := by
  have hwin := h.win.lt
  have hs1 : wr.heap.size + 1 ≤ w1.heap.size := by
    have := hg1.size
    rwa [World.size_alloc] at this
  have hv1g : v1.ownBlock ≠ some g := by
    rcases hl1 with e | e
    · rw [e]; exact h.ap
    · rw [e]; intro q; cases q; omega
  refine ⟨?_, h2, ?_, ?_, hok, fun y hy => ?_, by simp; exact h.few⟩
  · rw [len_snoc, map_snoc]
    refine (h1.alloc ob).kept hg2 ?_
    cases hv : v1.ownBlock with
    | none => exact Or.inl rfl
    | some q => exact Or.inr (fun e => hv1g (by rw [hv, e]))
  · rcases hl2 with e | e
    · rw [e]; exact hv1g
    · intro q
      have := (h1.lt _ q).2
      omega
  · exact ((grown_up h.bel h.bel.size h.own (Nat.le_refl _) hg1).alloc (Nat.le_trans h.bel.size (by omega)) ob).grown hg2 (by have := h.bel.size; simp; omega) (fun q hq => by cases hq; exact h.win.lo)
  · rcases List.mem_append.1 hy with hy | hy
    · exact h.wf y hy
    · simp at hy; subst hy; exact hz

theorem behAll_at {es : List EvV} {p : List Int × List Int} {zs : List Int} {j : Nat} {z : Int} (h : zs[j]? = some z) : behAll es p (zs.drop j) = behAll es (behOne es p z) (zs.drop (j + 1)) := by
  obtain ⟨hj, rfl⟩ := List.getElem?_eq_some_iff.1 h
  rw [List.drop_eq_getElem_cons hj]
  rfl

theorem behOne_eq (es : List EvV) (o1 t1 : List Int) (z : Int) : behOne es (o1, t1) z = if (evFind es z).isSome && !inL o1 z then (o1 ++ [z], t1 ++ [z]) else (o1, t1) := rfl

/-- So far, and the event whose Prev are looked at, in a variable. -/
structure Beh2 (es : List EvV) (w wr : World) (v : Value) (g o cap : Nat) (out todo : List Int) (be : Nat) (e : EvV) (xl xp : Value) : Prop where
  b : Beh es w wr v g o cap out todo
  e : EB wr be e.id e.kind e.sender e.user e.member e.depth xl xp e.text
  nv : v.ownBlock ≠ some be
  ng : g ≠ be

section
variable {es : List EvV} {w wr w1 w2 : World} {v v1 : Value} {g o cap g2 o2 cap2 be : Nat} {out todo : List Int} {e : EvV} {xl xp : Value} {z : Int} {ob : Obj}
theorem Beh2.below (h : Beh2 es w wr v g o cap out todo be e xl xp) (hb : Below wr.heap.size wr w2) : Beh2 es w w2 v g o cap out todo be e xl xp :=
  ⟨h.b.below hb, h.e.on hb h.e.lt, h.nv, h.ng⟩

/-- Behind the first push. -/
theorem Beh2.mid (h : Beh2 es w wr v g o cap out todo be e xl xp) (h1 : w1.ownsRow w.heap.size 3 1 v1 (out.length + 1) (out.map icell ++ [.int .i64 z])) (hg1 : (wr.alloc ob).grownBy w1 v.ownBlock) (hl1 : v1.ownBlock = v.ownBlock ∨ v1.ownBlock = some (wr.heap.size + 1)) :
    Below w.heap.size w w1 ∧ EB w1 be e.id e.kind e.sender e.user e.member e.depth xl xp e.text ∧ v1.ownBlock ≠ some be ∧ WinN w1 w.heap.size g o cap todo := by
  refine ⟨grown_up h.b.bel h.b.bel.size h.b.own (Nat.le_refl _) hg1, (h.e.on ((Below.refl _ _).alloc (Nat.le_refl _) ob) h.e.lt).kept hg1 h.nv, ?_, (h.b.win.below ((Below.refl _ _).alloc (Nat.le_refl _) ob)).kept hg1 h.b.ap⟩
  have := h.e.lt
  rcases hl1 with e | e
  · rw [e]; exact h.nv
  · rw [e]; intro q; cases q; omega

theorem Beh2.more (h : Beh2 es w wr v g o cap out todo be e xl xp)
    (h1 : w1.ownsRow w.heap.size 3 1 v1 (out.length + 1) (out.map icell ++ [.int .i64 z])) (hg1 : (wr.alloc ob).grownBy w1 v.ownBlock) (hl1 : v1.ownBlock = v.ownBlock ∨ v1.ownBlock = some (wr.heap.size + 1))
    (h2 : WinN w2 w.heap.size g2 o2 cap2 (todo ++ [z])) (hg2 : (w1.alloc ob).grownBy w2 (some g)) (hl2 : g2 = g ∨ g2 = w1.heap.size + 1) (hok : BehOk es (out ++ [z])) (hz : (Lit.int .i64 z).wf = true) : Beh2 es w w2 v1 g2 o2 cap2 (out ++ [z]) (todo ++ [z]) be e xl xp := by
  obtain ⟨m1, m2, m3, m4⟩ := h.mid h1 hg1 hl1
  refine ⟨h.b.more h1 hg1 hl1 h2 hg2 hl2 hok hz, (m2.on ((Below.refl _ _).alloc (Nat.le_refl _) ob) m2.lt).kept hg2 (fun q => h.ng (Option.some.inj q)), m3, ?_⟩
  have := m2.lt
  rcases hl2 with e | e
  · rw [e]; exact h.ng
  · omega
end

set_option maxRecDepth 100000 in
set_option maxHeartbeats 8000000 in
theorem l11Behind_any (oa : Option Addr) (n cap : Nat) (es : List EvV) (id : Int) (hid : (Lit.int .i64 id).wf = true) (hn20 : n ≤ 1048576) (w : World) (hat : EvsAt w oa n cap es) :
    Calls Try.prog 114 #[.slice oa n cap, .int .i64 id] w fun r w' => IntPost w (behind es id) r w' ∧ ∀ z ∈ behind es id, (Lit.int .i64 z).wf = true := by
  have HN := hide hat.len
  have HAT := hide hat
  have HF := hide (fun z w1 (hb : Below w.heap.size w w1) => specFind_from w oa n cap es z w1 hat hb)
  have HB0 := hide (Beh.new es w id hid)
  obtain ⟨R, hR⟩ : ∃ R, behind es id = R := ⟨_, rfl⟩
  rw [hR]
  have HR0 := hide (show behGo es (es.length + 2) [] [id] = R from hR)
  clear hat hR
  go_enter Try.func114, Try.ntmps114
  go_wp2_with fail
  go_loopw [5, 6] (fun v q wr => ∃ (oo : Option Addr) (m co g o cp : Nat) (out todo : List Int) (f : Nat), v = .slice oo m co ∧ q = .slice (some ⟨g, o, none⟩) todo.length cp ∧ Beh es w wr (.slice oo m co) g o cp out todo ∧ todo.length + es.length ≤ f + out.length ∧ behGo es f out todo = R) (fun v q _ => lenS q + n - lenS v)
  case atStart => exact ⟨_, _, _, _, _, _, [], [id], es.length + 2, rfl, rfl, HB0.out, by simp; omega, HR0.out⟩
  case round =>
    obtain ⟨oo, m, co, g, o, cp, out, todo, f, rfl, rfl, hB, hf, hrest⟩ := hrel
    have HB := hide hB
    have hbel := hB.bel
    have hsz := hbel.size
    have hm : m = out.length := by
      obtain ⟨_, _, e⟩ := row_form hB.own
      injection e
    subst hm
    have hol := hB.ok.len
    clear hB HB0 HR0
    cases todo with
    | nil =>
      have HE := hide (show out = R from by rw [← hrest]; cases f <;> rfl)
      clear hrest
      go_wp2_with fail
      go_ret
      exact ⟨⟨_, rfl, by rw [← HE.out]; exact HB.out.own, HB.out.bel⟩, by rw [← HE.out]; exact HB.out.wf⟩
    | cons h t =>
      have c0 := HB.out.win.head
      have hb := HB.out.win.lt
      obtain ⟨o2, cp2, hsl, hw2⟩ := HB.out.win.tail
      have HW2 := hide hw2
      obtain ⟨f', rfl⟩ : ∃ f', f = f' + 1 := by
        simp only [List.length_cons] at hf
        exact ⟨f - 1, by omega⟩
      have hrest2 : behGo es f' (behAll es (out, t) (evOf es h).prev).1 (behAll es (out, t) (evOf es h).prev).2 = R := hrest
      have HREST := hide hrest2
      have HF1 := hide (HF.out h wr hbel)
      rw [evKn_of] at HF1
      simp only at HF1
      generalize evOf es h = e at HF1 HREST
      generalize (evFind es h).isSome = ok at HF1
      have hfw := HB.out.few
      simp only [List.length_cons] at hf hfw ⊢
      generalize hk : t.length + 1 = k at hf hsl hfw ⊢
      have k0 : (0 : Int) < (k : Int) := by omega
      have HK := hide hk
      clear hrest hrest2 hw2 hk
      go_wp2_with (go_at_call 42; (with_reducible refine HF1.out.mono ?_); rintro r w3 ⟨xa, xc, ya, yc, rfl, hl3, hp3, hb3⟩)
      have hbw : w.heap.size ≤ wr.heap.size := hsz
      have HB4 := hide (show Beh2 es w (w3.alloc (.cells (evcells e.id e.kind e.sender e.user e.member e.depth (.slice xa e.levels.length xc) (.slice ya e.prev.length yc) e.text) 40)) (.slice oo out.length co) g o2 cp2 out t w3.heap.size e (.slice xa e.levels.length xc) (.slice ya e.prev.length yc) from by
        have hb4 : Below wr.heap.size wr (w3.alloc (.cells (evcells e.id e.kind e.sender e.user e.member e.depth (.slice xa e.levels.length xc) (.slice ya e.prev.length yc) e.text) 40)) := hb3.alloc hb3.size _
        have hB4 := HB.out.below hb4
        refine ⟨⟨hB4.own, HW2.out.below hb4, hB4.ap, hB4.bel, hB4.ok, hB4.wf, by have := HK.out; omega⟩, EB.new _ _ _ _ _ _ _ _ _ _, fun q => ?_, ?_⟩
        · have := (HB.out.own.lt _ q).2
          have := hb3.size
          omega
        · have := hb3.size
          omega)
      have HP3 := hide hp3
      have hpl := Nat.le_trans hp3.room hp3.most
      unfold maxLen at hpl
      have hPL : e.prev.length ≤ 9223372036854775807 := hpl
      generalize hbeq : w3.heap.size = be at HB4 ⊢
      generalize hxl : Value.slice xa e.levels.length xc = xl at HB4 ⊢
      obtain ⟨P, hP⟩ : ∃ P, behAll es (out, t) e.prev = P := ⟨_, rfl⟩
      rw [hP] at HREST
      have HP := hide hP
      clear hP hbeq hxl hb3 hl3 hp3 HF1 HW2 c0 hb hsl HB hbel hsz hbw hpl
      go_loopw [5, 6, 9] (fun v q i wx => ∃ (j : Nat) (oo : Option Addr) (m co g o cp : Nat) (o1 t1 : List Int), i = .int .i64 (j : Int) ∧ v = .slice oo m co ∧ q = .slice (some ⟨g, o, none⟩) t1.length cp ∧ Beh2 es w wx (.slice oo m co) g o cp o1 t1 be e xl (.slice ya e.prev.length yc) ∧ j ≤ e.prev.length ∧ behAll es (o1, t1) (e.prev.drop j) = P ∧ t1.length + out.length = o1.length + t.length) (fun _ _ i _ => e.prev.length - (intOf i).toNat)
      case atStart => exact ⟨0, _, _, _, _, _, _, out, t, rfl, rfl, rfl, HB4.out, Nat.zero_le _, HP.out, by omega⟩
      case round =>
        obtain ⟨j, oo, m, co, g, o, cp, o1, t1, rfl, rfl, rfl, hB2, hj, hall, hlen⟩ := hrel
        have HB2 := hide hB2
        have hbel := hB2.b.bel
        have hsz := hbel.size
        have hm : m = o1.length := by
          obtain ⟨_, _, e⟩ := row_form hB2.b.own
          injection e
        subst hm
        have hol1 := hB2.b.ok.len
        have hfew1 := hB2.b.few
        have hnes := HN.out
        obtain ⟨d0, d1, d2, d3, d4, d5, d6, d7, d8⟩ := hB2.e.ev
        have hbe := hB2.e.lt
        clear hB2 HB4 HP d0 d1 d2 d3 d4 d5 d6 d8
        by_cases hlt : j < e.prev.length
        · have j0 : (j : Int) < (e.prev.length : Int) := by omega
          obtain ⟨z, b, q, hz, hidx, hb, c0w, hwz⟩ := HP3.out.get Try.underlying38 infoI j hlt
          have HC := hide (show ∀ w1, Below w.heap.size w w1 → w1.cell? ⟨b, q, none⟩ = some (.int .i64 z) from fun w1 h => (h.cell hb).trans c0w)
          have c0 := HC.out wr hbel
          have hbr := Nat.lt_of_lt_of_le hb hsz
          obtain ⟨_, _, he, hio⟩ := intsAt_of_own HB2.out.b.own HB2.out.b.wf
          cases he
          have HIO := hide hio
          have HL := hide (fun w1 (h : IntsAt w1 oo o1.length co o1) => l05In11_any oo o1.length co o1 z w1 h)
          have HF1 := hide (HF.out z wr hbel)
          rw [behAll_at hz, behOne_eq] at hall
          rw [evKn_of] at HF1
          have HBK := hide (behOne_ok HB2.out.b.ok z (p := (o1, t1))).1
          rw [behOne_eq] at HBK
          simp only at HF1
          generalize evOf es z = e2 at HF1
          generalize hok : (evFind es z).isSome = ok2 at HF1 hall HBK
          generalize hin : inL o1 z = ri at HL hall HBK
          have HALL := hide hall
          clear hall hok hin hio c0w hz
          cases ok2
          · have HE := hide (show behAll es (o1, t1) (e.prev.drop (j + 1)) = P from HALL.out)
            clear HALL HL HBK
            go_wp2_with (first
              | (go_at_call 42; (with_reducible refine HF1.out.mono ?_); rintro r w4 ⟨xa4, xc4, ya4, yc4, rfl, hl4, hp4, hb4⟩; have d74 := (hb4.cell hbe).trans d7; have hbe4 := Nat.lt_of_lt_of_le hbe hb4.size; have c04 := (hb4.cell hbr).trans c0; have hbr4 := Nat.lt_of_lt_of_le hbr hb4.size))
            have HB3 := hide (HB2.out.below (below_var hb4 (.cells (evcells e2.id e2.kind e2.sender e2.user e2.member e2.depth (.slice xa4 e2.levels.length xc4) (.slice ya4 e2.prev.length yc4) e2.text) 40)))
            go_roundw
            case rel => exact ⟨j + 1, _, _, _, _, _, _, o1, t1, by go_num, rfl, rfl, HB3.out, by omega, HE.out, hlen⟩
            case measure => simp [intOf]; omega
          · cases ri
            · have HE := hide (show behAll es (o1 ++ [z], t1 ++ [z]) (e.prev.drop (j + 1)) = P from HALL.out)
              have HBK2 := hide (show BehOk es (o1 ++ [z]) from HBK.out)
              clear HALL HBK
              go_wp2_with (first
                | (go_at_call 42; (with_reducible refine HF1.out.mono ?_); rintro r w4 ⟨xa4, xc4, ya4, yc4, rfl, hl4, hp4, hb4⟩; have d74 := (hb4.cell hbe).trans d7; have hbe4 := Nat.lt_of_lt_of_le hbe hb4.size; have c04 := (hb4.cell hbr).trans c0; have hbr4 := Nat.lt_of_lt_of_le hbr hb4.size)
                | (go_at_call 66; (with_reducible refine (HL.out _ (HIO.out.below (below_var hb4 _))).mono ?_); rintro r w5 ⟨rfl, hw5⟩; have hb5 : Below wr.heap.size wr w5 := (by rw [← hw5]; exact below_var hb4 _); clear hw5; have hB5 := HB2.out.below hb5; have hown5 := hB5.b.own; have hsz5 := hB5.b.bel.size; have d75 := (hb5.cell hbe).trans d7; have hbe5 := Nat.lt_of_lt_of_le hbe hb5.size; have c05 := (hb5.cell hbr).trans c0; have hbr5 := Nat.lt_of_lt_of_le hbr hb5.size)
                | (at_builtin; refine wpList_pushL (cs := #[.int .i64 z]) rfl _ _ 38 rfl (by decide) Try.underlying38 infoIz rfl rfl hown5 rfl rfl (by simp [Value.oneCell']) hsz5 (by unfold maxLen; omega) (by omega) ?_; intro v' w6 hown6 hg6 hl6; obtain ⟨o6, c6, rfl⟩ := row_form hown6; obtain ⟨m1, m2, m3, m4⟩ := hB5.mid hown6 hg6 hl6; have d76 := blk_cell m2 7 rfl; have hbe6 := m2.lt; have c06 := HC.out w6 m1; have hbr6 := Nat.lt_of_lt_of_le hb m1.size)
                | (at_builtin; refine wpList_push_win rfl _ _ rfl m4 z hwz rfl rfl m1.size (by omega) ?_; intro g7 o7 cp7 w7 hw7 hg7 hl7))
              have HB3 := hide (hB5.more hown6 hg6 hl6 hw7 hg7 hl7 HBK2.out hwz)
              go_roundw
              case rel => exact ⟨j + 1, _, _, _, _, _, _, o1 ++ [z], t1 ++ [z], by go_num, rfl, by rw [len_snoc], HB3.out, by omega, HE.out, by rw [len_snoc, len_snoc]; omega⟩
              case measure => simp [intOf]; omega
            · have HE := hide (show behAll es (o1, t1) (e.prev.drop (j + 1)) = P from HALL.out)
              clear HALL HBK
              go_wp2_with (first
                | (go_at_call 42; (with_reducible refine HF1.out.mono ?_); rintro r w4 ⟨xa4, xc4, ya4, yc4, rfl, hl4, hp4, hb4⟩; have d74 := (hb4.cell hbe).trans d7; have hbe4 := Nat.lt_of_lt_of_le hbe hb4.size; have c04 := (hb4.cell hbr).trans c0; have hbr4 := Nat.lt_of_lt_of_le hbr hb4.size)
                | (go_at_call 66; (with_reducible refine (HL.out _ (HIO.out.below (below_var hb4 _))).mono ?_); rintro r w5 ⟨rfl, hw5⟩; have hb5 : Below wr.heap.size wr w5 := (by rw [← hw5]; exact below_var hb4 _); clear hw5; have hB5 := HB2.out.below hb5; have hown5 := hB5.b.own; have hsz5 := hB5.b.bel.size; have d75 := (hb5.cell hbe).trans d7; have hbe5 := Nat.lt_of_lt_of_le hbe hb5.size; have c05 := (hb5.cell hbr).trans c0; have hbr5 := Nat.lt_of_lt_of_le hbr hb5.size))
              go_roundw
              case rel => exact ⟨j + 1, _, _, _, _, _, _, o1, t1, by go_num, rfl, rfl, hB5, by omega, HE.out, hlen⟩
              case measure => simp [intOf]; omega
        · have hdr : e.prev.drop j = [] := List.drop_eq_nil_of_le (by omega)
          rw [hdr] at hall
          have hPP : P = (o1, t1) := hall.symm
          rw [hPP] at HREST
          have HR2 := hide (show behGo es f' o1 t1 = R from HREST.out)
          clear hall hdr hPP HREST
          go_wp2_with fail
          go_roundw
          case rel => exact ⟨_, _, _, _, _, _, o1, t1, f', rfl, rfl, HB2.out.b, by have := HK.out; omega, HR2.out⟩
          case measure =>
            have := HK.out
            simp only [lenS]
            omega

end Go.Proofs.Ytmifhdoaknbkbaa
