/-
  Walks and mathematics of Room3, Room4, Walk10r, Walk10s, Walk10t, Walk10u.
-/
import Derived.Test.YtnkjjbpmdghcbaaGreatQWalk12g
import Derived.Test.YtnkjjbpmdghcbaaGreatQWalk10p
import Derived.Test.YtnkjjbpmdghcbaaGreatQWalk10c
import Derived.Test.YtnkjjbpmdghcbaaGreatQWalk10f
namespace Go.Proofs.YtnkjjbpmdghcbaaGreat.P11
end Go.Proofs.YtnkjjbpmdghcbaaGreat.P11
namespace Go.Proofs.YtnkjjbpmdghcbaaGreat.P3
end Go.Proofs.YtnkjjbpmdghcbaaGreat.P3
namespace Go.Proofs.YtnkjjbpmdghcbaaGreat
open Go.RowKit P1 P3 P5 P9 P11 P12 P14 P15 K
set_option linter.unusedVariables false
set_option linter.unusedSimpArgs false

def Tells (es : List EvV) (s : St) : Prop := ∀ x ∈ s, ∃ e ∈ es, e.id = x.2 ∧ keyE e = x.1 ∧ evOk e = true

theorem Tells.more {es : List EvV} {s : St} (h : Tells es s) (e : EvV) : Tells (es ++ [e]) s := fun x hx => by
 obtain ⟨e', h1, h2⟩ := h x hx
 exact ⟨e', List.mem_append.2 (.inl h1), h2⟩

theorem stAt_in {k : Int} : ∀ {s : St}, (∃ x ∈ s, x.1 = k) → (k, stAt s k) ∈ s
 | [], h => by obtain ⟨x, hx, _⟩ := h; simp at hx
 | y :: r, h => by
  unfold stAt
  by_cases e : y.1 = k
  ·rw [if_pos e]
   refine List.mem_cons.2 (.inl ?_)
   rw [← e]
  ·rw [if_neg e]
   refine List.mem_cons.2 (.inr (stAt_in ?_))
   obtain ⟨x, hx, hk⟩ := h
   rcases List.mem_cons.1 hx with rfl | hx
   ·exact absurd hk e
   ·exact ⟨x, hx, hk⟩

theorem agreed_had {ss : List St} {x : Int × Int} (h : x ∈ agreed ss) : ∃ s ∈ ss, x ∈ s := by
 unfold agreed at h
 obtain ⟨k, hk, rfl⟩ := List.mem_map.1 h
 obtain ⟨h1, h2⟩ := List.mem_filter.1 hk
 obtain ⟨_, _, h3⟩ := keysOf_in h1
 unfold hasKey at h3
 obtain ⟨s, hs, h4⟩ := List.any_eq_true.1 h3
 obtain ⟨y, hy, h5⟩ := List.any_eq_true.1 h4
 have h6 := stAt_in (s := s) (k := k) ⟨y, hy, by simpa using h5⟩
 unfold alike at h2
 have h7 := List.all_eq_true.1 h2 s hs
 simp only [decide_eq_true_eq] at h7
 rw [h7] at h6
 exact ⟨s, hs, h6⟩

theorem agreed_tells {es : List EvV} {ss : List St} (h : ∀ s ∈ ss, Tells es s) : Tells es (agreed ss) := fun x hx => by
 obtain ⟨s, h1, h2⟩ := agreed_had hx
 exact h s h1 x h2

theorem tell_tells {es : List EvV} {s : St} (h : Tells es s) (z : Int) : Tells es (tell es s z) := by
 unfold tell
 split
 ·rename_i hc
  simp only [Bool.and_eq_true] at hc
  have hok : evOk (evOf es z) = true := by
   have h1 := hc.1
   unfold allowed at h1
   simp only [Bool.and_eq_true] at h1
   exact h1.1
  intro x hx
  rcases stIn_mem hx with hx | rfl
  ·exact h x hx
  ·refine ⟨evOf es z, ?_, rfl, rfl, hok⟩
   unfold evOf at hok ⊢
   cases hf : evFind es z with
   | none =>
    rw [hf] at hok
    exact absurd hok (by decide)
   | some e => exact (evFind_mem hf).1
 ·exact h

theorem foldl_tells {es : List EvV} : ∀ (l : List Int) {s : St}, Tells es s → Tells es (l.foldl (tell es) s)
 | [], _, h => h
 | z :: r, _, h => foldl_tells r (tell_tells h z)

theorem resolve_tells {es : List EvV} {ss : List St} (h : ∀ s ∈ ss, Tells es s) : Tells es (P15.resolve es ss) := by
 match ss, h with
 | [], _ => intro x hx; simp [P15.resolve] at hx
 | [s], h => exact h s List.mem_cons_self
 | s :: t :: r, h => exact foldl_tells _ (agreed_tells h)

theorem stFrom_of : ∀ (l : St) (p : Option Int), (∀ x ∈ l, stKey x.1 = true ∧ inR x.2 1 1000000 = true) → (l.map (·.1)).Pairwise (· < ·) → (∀ x ∈ l, after p x.1 = true) → stFrom p l = true
 | [], _, _, _, _ => rfl
 | x :: r, p, h1, h2, h3 => by
  unfold stFrom
  rw [List.map_cons, List.pairwise_cons] at h2
  obtain ⟨a1, a2⟩ := h1 x List.mem_cons_self
  rw [a1, a2, h3 x List.mem_cons_self, stFrom_of r (some x.1) (fun y hy => h1 y (List.mem_cons_of_mem _ hy)) h2.2 (fun y hy => by
   have := h2.1 y.1 (List.mem_map.2 ⟨y, hy, rfl⟩)
   simpa [after] using this)]
  rfl

theorem stFrom_mem : ∀ {s : St} {p : Option Int}, stFrom p s = true → ∀ x ∈ s, stKey x.1 = true ∧ inR x.2 1 1000000 = true
 | y :: r, p, h, x, hx => by
  unfold stFrom at h
  simp only [Bool.and_eq_true] at h
  rcases List.mem_cons.1 hx with rfl | hx
  ·exact ⟨h.1.1, h.1.2.1⟩
  ·exact stFrom_mem h.2 x hx

theorem keys_up (ss : List St) : (keysOf ss).Pairwise (· < ·) := by
 unfold keysOf keysFrom
 refine List.Pairwise.filter _ ?_
 rw [List.pairwise_map]
 exact List.Pairwise.imp (fun h => by omega) (List.pairwise_lt_range (n := 16))

theorem agreed_ok {ss : List St} (h : ∀ s ∈ ss, stOk s = true) : stOk (agreed ss) = true := by
 rw [stOk_eq]
 refine stFrom_of _ none (fun x hx => ?_) ?_ (fun x hx => rfl)
 ·obtain ⟨s, h1, h2⟩ := agreed_had hx
  have h3 := h s h1
  rw [stOk_eq] at h3
  exact stFrom_mem h3 x h2
 ·unfold agreed
  rw [List.map_map]
  have : ((fun x : Int × Int => x.1) ∘ fun k => (k, stAt (ss.headD []) k)) = id := rfl
  rw [this, List.map_id]
  exact List.Pairwise.filter _ (keys_up ss)

theorem tell_ok {es : List EvV} {s : St} (h : stOk s = true) (z : Int) : stOk (tell es s z) = true := by
 unfold tell
 split
 ·exact stPut_ok h
 ·exact h

theorem foldl_ok {es : List EvV} : ∀ (l : List Int) {s : St}, stOk s = true → stOk (l.foldl (tell es) s) = true
 | [], _, h => h
 | z :: r, _, h => foldl_ok r (tell_ok h z)

theorem resolve_ok {es : List EvV} {ss : List St} (h : ∀ s ∈ ss, stOk s = true) : stOk (P15.resolve es ss) = true := by
 match ss, h with
 | [], _ => rfl
 | [s], h => exact h s List.mem_cons_self
 | s :: t :: r, h => exact foldl_ok _ (agreed_ok h)

theorem bef_right {es : List EvV} {sts : List St} (h : ∀ s ∈ sts, Tells es s ∧ stOk s = true) (prev : List Int) : Tells es (befS es sts prev) ∧ stOk (befS es sts prev) = true := by
 unfold befS befOf
 cases hg : befGo es sts prev [] with
 | none => exact ⟨fun x hx => by simp at hx, rfl⟩
 | some l =>
  simp only [Option.map_some, Option.getD_some]
  have hm := befGo_mem prev [] l (fun x hx => by simp at hx) hg
  exact ⟨resolve_tells (fun s hs => (h s (hm s hs)).1), resolve_ok (fun s hs => (h s (hm s hs)).2)⟩

theorem built_right {es : List EvV} {sts : List St} (h : Built es sts) : (∀ e ∈ es, evOk e = true) ∧ ∀ s ∈ sts, Tells es s ∧ stOk s = true := by
 induction h with
 | nil => exact ⟨fun e he => by simp at he, fun s hs => by simp at hs⟩
 | @add es sts e hb hok ih =>
  obtain ⟨he, _, _⟩ := addOk_parts hok
  refine ⟨fun x hx => ?_, fun s hs => ?_⟩
  ·rcases List.mem_append.1 hx with hx | hx
   ·exact ih.1 x hx
   ·simp at hx; subst hx; exact he
  ·rcases List.mem_append.1 hs with hs | hs
   ·exact ⟨(ih.2 s hs).1.more e, (ih.2 s hs).2⟩
   ·simp at hs
    subst hs
    obtain ⟨q1, q2⟩ := bef_right ih.2 e.prev
    unfold addSt
    split
    ·refine ⟨fun x hx => ?_, stPut_ok q2⟩
     rcases stIn_mem hx with hx | rfl
     ·exact (q1.more e) x hx
     ·exact ⟨e, List.mem_append.2 (.inr (by simp)), rfl, rfl, he⟩
    ·exact ⟨q1.more e, q2⟩

end Go.Proofs.YtnkjjbpmdghcbaaGreat

namespace Go.Proofs.YtnkjjbpmdghcbaaGreat
open Go.RowKit P1 P3 P5 P9 P11 P12 P14 P15 K
set_option linter.unusedVariables false
set_option linter.unusedSimpArgs false

def scEv (es : List EvV) (s : St) (k : Int) : Option EvV := match stFind s k with
 | none => none
 | some i => evFind es i

structure Sane (es : List EvV) (s : St) : Prop where
 tells : Tells es s
 ok : stOk s = true
 ids : ∀ e ∈ es, 1 ≤ e.id
 nod : (es.map (·.id)).Nodup

theorem stFind_in {k i : Int} : ∀ {s : St}, stFind s k = some i → (k, i) ∈ s
 | [], h => by cases h
 | y :: r, h => by
  unfold stFind at h
  split at h
  ·rename_i e
   cases h
   refine List.mem_cons.2 (.inl ?_)
   rw [← e]
  ·exact List.mem_cons.2 (.inr (stFind_in h))

theorem evFind_one : ∀ {es : List EvV} {e : EvV}, (es.map (·.id)).Nodup → e ∈ es → evFind es e.id = some e
 | x :: r, e, hn, he => by
  rw [List.map_cons, List.nodup_cons] at hn
  unfold evFind
  rcases List.mem_cons.1 he with rfl | he
  ·rw [if_pos rfl]
  ·rw [if_neg (fun h => hn.1 (by rw [h]; exact List.mem_map.2 ⟨e, he, rfl⟩))]
   exact evFind_one hn.2 he

section
variable {es : List EvV} {s : St}

theorem Sane.told (h : Sane es s) {k i : Int} (hk : stFind s k = some i) : ∃ e, evFind es i = some e ∧ keyE e = k ∧ evOk e = true := by
 obtain ⟨e, h1, h2, h3, h4⟩ := h.tells _ (stFind_in hk)
 simp only at h2 h3
 exact ⟨e, by rw [← h2]; exact evFind_one h.nod h1, h3, h4⟩

theorem Sane.find (h : Sane es s) (k : Int) : evFind es (stAt s k) = scEv es s k := by
 unfold scEv
 rw [stAt_find]
 cases hk : stFind s k with
 | none => exact evFind_none (fun e he => by have := h.ids e he; simp; omega)
 | some i => rfl

theorem Sane.key (h : Sane es s) {k : Int} {e : EvV} (he : scEv es s k = some e) : keyE e = k ∧ evOk e = true := by
 unfold scEv at he
 cases hk : stFind s k with
 | none => rw [hk] at he; cases he
 | some i =>
  rw [hk] at he
  obtain ⟨e', h1, h2, h3⟩ := h.told hk
  have he' : evFind es i = some e := he
  rw [h1] at he'
  cases he'
  exact ⟨h2, h3⟩

theorem keyE_one {e : EvV} (h : keyE e = 1) : e.kind = 1 := by
 unfold keyE at h
 split at h
 ·assumption
 ·split at h
  ·omega
  ·split at h
   ·omega
   ·split at h
    ·rename_i hu
     have := hu.2
     simp [inR] at this
     omega
    ·omega

theorem keyE_two {e : EvV} (h : keyE e = 2) : e.kind = 3 := by
 unfold keyE at h
 split at h
 ·omega
 ·split at h
  ·assumption
  ·split at h
   ·omega
   ·split at h
    ·rename_i hu
     have := hu.2
     simp [inR] at this
     omega
    ·omega

theorem keyE_user {e : EvV} {u : Int} (hu : inR u 1 5 = true) (h : keyE e = 10 + u) : e.kind = 2 ∧ e.user = u := by
 simp [inR] at hu
 unfold keyE at h
 split at h
 ·omega
 ·split at h
  ·omega
  ·split at h
   ·omega
   ·split at h
    ·rename_i hk
     exact ⟨hk.1, by omega⟩
    ·omega

def scMem (es : List EvV) (s : St) (u : Int) : Int := match scEv es s (10 + u) with
 | none => 0
 | some e => e.member
def scMade (es : List EvV) (s : St) (u : Int) : Bool := match scEv es s 1 with
 | none => false
 | some c => decide (c.kind = 1) && decide (c.sender = u)
def scLev (es : List EvV) (s : St) (u : Int) : Int :=
 if inR u 1 5 then
  match scEv es s 2 with
  | none => if scMade es s u then 100 else 0
  | some p => if p.kind = 3 then (if (p.levels.length : Int) < u then 0 else p.levels.getD (u.toNat - 1) 0) else if scMade es s u then 100 else 0
 else 0

theorem Sane.mem (h : Sane es s) {u : Int} (hu : inR u 1 5 = true) : memOf es s u = scMem es s u := by
 unfold memOf scMem
 rw [if_pos hu, h.find]
 cases he : scEv es s (10 + u) with
 | none => rfl
 | some e =>
  obtain ⟨h1, _⟩ := h.key he
  simp only
  rw [if_pos (keyE_user hu h1)]

theorem Sane.made (h : Sane es s) (u : Int) : (match evFind es (stAt s 1) with
  | none => (0 : Int)
  | some c => if c.kind = 1 ∧ c.sender = u then 100 else 0) = if scMade es s u then 100 else 0 := by
 unfold scMade
 rw [h.find]
 cases he : scEv es s 1 with
 | none => rfl
 | some c =>
  simp only
  by_cases h1 : c.kind = 1 ∧ c.sender = u
  ·rw [if_pos h1, if_pos (by simp [h1.1, h1.2])]
  ·rw [if_neg h1, if_neg (by simpa using h1)]

theorem Sane.lev (h : Sane es s) (u : Int) : levOf es s u = scLev es s u := by
 unfold levOf scLev
 by_cases hu : inR u 1 5 = true
 ·rw [if_pos hu, if_pos hu, h.find 2]
  cases he : scEv es s 2 with
  | none => exact h.made u
  | some p =>
   obtain ⟨h1, h2⟩ := h.key he
   have h3 := keyE_two h1
   have h5 := power_five h2 h3
   simp only
   rw [if_pos ⟨h3, h5⟩, if_pos h3, if_neg (by simp [inR] at hu; rw [h5]; omega)]
 ·rw [if_neg hu, if_neg hu]

theorem Sane.bare (h : Sane es s) : stBare s = !(s.any (fun x => inR x.1 11 15)) := by
 have hk := h.ok
 rw [stOk_eq] at hk
 have hm := stFrom_mem hk
 unfold stBare
 clear hk h
 induction s with
 | nil => rfl
 | cons x r ih =>
  have h1 := (hm x List.mem_cons_self).1
  simp only [stKey, inR, Bool.or_eq_true, Bool.and_eq_true, decide_eq_true_eq] at h1
  rw [List.all_cons, List.any_cons, ih (fun y hy => hm y (List.mem_cons_of_mem _ hy)), Bool.not_or]
  congr 1
  by_cases h2 : x.1 ≤ 10
  ·rw [decide_eq_true h2]; simp [inR]; omega
  ·rw [decide_eq_false h2]; simp [inR]; omega
end

theorem built_sane {es : List EvV} {sts : List St} (h : Drawn es sts) {s : St} (hs : Tells es s ∧ stOk s = true) : Sane es s := ⟨hs.1, hs.2, fun e he => (h.inv.ids e he).1, h.inv.nod⟩

end Go.Proofs.YtnkjjbpmdghcbaaGreat

namespace Go.Proofs.YtnkjjbpmdghcbaaGreat
open Go.RowKit P1 P3 P5 P9 P11 P12 P14 P15 K
set_option linter.unusedVariables false
set_option linter.unusedSimpArgs false

abbrev scv (b : Nat) (oa : Option Addr) (n cap : Nat) : Value := .agg #[.map (some b), .slice oa n cap]
structure Scn (w : World) (b : Nat) (oa : Option Addr) (n cap : Nat) (es : List EvV) (s : St) : Prop where
 ids : IdsOk w b s
 evs : EvsAt w oa n cap es

theorem Scn.on {w w' : World} {b : Nat} {oa : Option Addr} {n cap : Nat} {es : List EvV} {s : St} (h : Scn w b oa n cap es s) (hb : Below w.heap.size w w') : Scn w' b oa n cap es s := ⟨h.ids.below hb, h.evs.below hb⟩

def scKn (es : List EvV) (s : St) (k : Int) : EvV × Bool := match stFind s k with
 | none => (noEv, false)
 | some i => evKn es i

theorem scKn_eq (es : List EvV) (s : St) (k : Int) : scKn es s k = match scEv es s k with | none => (noEv, false) | some e => (e, true) := by
 unfold scKn scEv
 cases stFind s k with
 | none => rfl
 | some i =>
  simp only
  unfold evKn
  cases evFind es i <;> rfl

set_option maxHeartbeats 4000000 in
theorem scEvent_from (wv : World) (b : Nat) (oa : Option Addr) (n cap : Nat) (es : List EvV) (s : St) (k : Int) (hk : (Lit.int .i64 k).wf = true) (w : World) (hevv : EvsAt wv oa n cap es) (hbv : Below wv.heap.size wv w) (hS : Scn w b oa n cap es s) :
  Calls Tryz.prog 176 #[scv b oa n cap, .int .i64 k] w (FdFrom wv w (scKn es s k).1 (scKn es s k).2) := by
 obtain ⟨W0, hW0⟩ : ∃ W0, ((w.alloc (.cells #[.map (some b), .slice oa n cap] 125)).alloc (.cells (evcells 0 0 0 0 0 0 (.slice none 0 0) (.slice none 0 0) []) 45)) = W0 := ⟨_, rfl⟩
 have hb0 : Below w.heap.size w W0 := by rw [← hW0]; exact ((Below.refl w.heap.size w).alloc (Nat.le_refl _) _).alloc (by simp) _
 have hR0 : W0.heap[w.heap.size]? = some (.cells #[.map (some b), .slice oa n cap] 125 (0, 0)) := by
  rw [← hW0]
  exact (((Below.refl _ _).alloc (Nat.le_refl _) _ : Below (w.alloc (.cells #[.map (some b), .slice oa n cap] 125)).heap.size _ _).block w.heap.size (by simp)).trans (heap_alloc_new w _)
 have hE0 : EB W0 (w.heap.size + 1) 0 0 0 0 0 0 (.slice none 0 0) (.slice none 0 0) [] := by
  rw [← hW0]
  have := EB.new (w.alloc (.cells #[.map (some b), .slice oa n cap] 125)) 0 0 0 0 0 0 (.slice none 0 0) (.slice none 0 0) []
  rw [World.size_alloc] at this
  exact this
 have HEVW := hide hevv
 have HBV := hide (hbv.trans (hb0.mono hbv.size))
 clear hevv hbv
 have HS0 := hide (hS.on hb0)
 obtain ⟨D, m, hm, hT⟩ := HS0.out.ids
 have hlk := hT.look hk
 have r0 := blk_cell hR0 0 rfl
 have r1 := blk_cell hR0 1 rfl
 have HE1 := hide hE0
 have HB0 := hide hb0
 have HW0 := hide hW0
 have hlR := hE0.lt
 obtain ⟨⟨e, ok⟩, hR⟩ : ∃ R, scKn es s k = R := ⟨_, rfl⟩
 rw [hR]
 have HSC := hide hR
 clear hT hR0 hE0 hb0 hW0 hS hR
 go_enter Tryz.func176, Tryz.ntmps176
 go_upto_region 1 with fail
 rw [HW0.out]
 clear HW0
 cases hF : stFind s k with
 | none =>
  have hsc : (e, ok) = (noEv, false) := by rw [← HSC.out]; unfold scKn; rw [hF]
  cases hsc
  rw [hF] at hlk
  simp only [Option.getD_none, Option.isSome_none] at hlk
  obtain ⟨t0, t1, t2, t3, t4, t5, t6, t7, t8⟩ := HE1.out.ev
  have z0 := HE1.out.free 0
  have z1 := HE1.out.free 1
  have z2 := HE1.out.free 2
  have z3 := HE1.out.free 3
  have z4 := HE1.out.free 4
  have z5 := HE1.out.free 5
  have z6 := HE1.out.free 6
  have z7 := HE1.out.free 7
  have z8 := HE1.out.free 8
  clear hF HSC
  go_wp2_with fail
  obtain ⟨w9, hw9, hE9, hg9⟩ := HE1.out.all 0 0 0 0 0 0 (.slice none 0 0) (.slice none 0 0) []
  try rw [show (.string ⟨#[]⟩ : Value) = .string ⟨([] : List UInt8).toArray⟩ from rfl]
  rw [hw9]
  obtain ⟨q0, q1, q2, q3, q4, q5, q6, q7, q8⟩ := hE9.ev
  refine bodyPost_ret (v := .tuple #[evv noEv (.slice none 0 0) (.slice none 0 0), .bool false]) (by simp [results, Tryz.results176, go_sem, noEv, q0, q1, q2, q3, q4, q5, q6, q7, q8]) rfl ?_
  exact ⟨none, 0, none, 0, rfl, (by unfold noEv; exact ints_nil _), (by unfold noEv; exact ints_nil _), HB0.out.grown hg9 HB0.out.size (fun q hq => by cases hq; omega)⟩
 | some i =>
  have hsc : evKn es i = (e, ok) := by rw [← HSC.out]; unfold scKn; rw [hF]
  rw [hF] at hlk
  simp only [Option.getD_some, Option.isSome_some] at hlk
  have HFD := hide (implFind_from wv oa n cap es i W0 HEVW.out HBV.out)
  rw [hsc] at HFD
  simp only at HFD
  clear hF hsc HSC
  go_upto_region 4 with fail
  go_wp2_with fail
  refine HFD.out.mono ?_
  rintro r w1 ⟨xa, xc, ya, yc, rfl, hx, hy, hb1⟩
  have HE2 := hide (HE1.out.on hb1 hlR)
  have HX := hide hx
  have HY := hide hy
  have HB1 := hide (HB0.out.trans (hb1.mono HB0.out.size))
  obtain ⟨t0, t1, t2, t3, t4, t5, t6, t7, t8⟩ := HE2.out.ev
  have z0 := HE2.out.free 0
  have z1 := HE2.out.free 1
  have z2 := HE2.out.free 2
  have z3 := HE2.out.free 3
  have z4 := HE2.out.free 4
  have z5 := HE2.out.free 5
  have z6 := HE2.out.free 6
  have z7 := HE2.out.free 7
  have z8 := HE2.out.free 8
  clear hx hy hb1
  go_wp2_with fail
  obtain ⟨w9, hw9, hE9, hg9⟩ := HE2.out.all e.id e.kind e.sender e.user e.member e.depth (.slice xa e.levels.length xc) (.slice ya e.prev.length yc) e.text
  rw [hw9]
  obtain ⟨q0, q1, q2, q3, q4, q5, q6, q7, q8⟩ := hE9.ev
  refine bodyPost_ret (v := .tuple #[evv e (.slice xa e.levels.length xc) (.slice ya e.prev.length yc), .bool ok]) (by simp [results, Tryz.results176, go_sem, q0, q1, q2, q3, q4, q5, q6, q7, q8]) rfl ?_
  have hb9 : Below w.heap.size w w9 := HB1.out.grown hg9 HB1.out.size (fun q hq => by cases hq; omega)
  exact ⟨xa, xc, ya, yc, rfl, HX.out, HY.out, hb9⟩

end Go.Proofs.YtnkjjbpmdghcbaaGreat

namespace Go.Proofs.YtnkjjbpmdghcbaaGreat
open Go.RowKit P1 P3 P5 P9 P11 P12 P14 P15 K
set_option linter.unusedVariables false
set_option linter.unusedSimpArgs false

theorem boxes_new {w W0 : World} {b : Nat} {oa : Option Addr} {n cap : Nat} (hW0 : ((w.alloc (.cells #[.map (some b), .slice oa n cap] 125)).alloc (.cells (evcells 0 0 0 0 0 0 (.slice none 0 0) (.slice none 0 0) []) 45)) = W0) :
  Below w.heap.size w W0 ∧ W0.heap[w.heap.size]? = some (.cells #[.map (some b), .slice oa n cap] 125 (0, 0)) ∧ EB W0 (w.heap.size + 1) 0 0 0 0 0 0 (.slice none 0 0) (.slice none 0 0) [] := by
 refine ⟨by rw [← hW0]; exact ((Below.refl w.heap.size w).alloc (Nat.le_refl _) _).alloc (by simp) _, ?_, ?_⟩
 ·rw [← hW0]
  exact (((Below.refl _ _).alloc (Nat.le_refl _) _ : Below (w.alloc (.cells #[.map (some b), .slice oa n cap] 125)).heap.size _ _).block w.heap.size (by simp)).trans (heap_alloc_new w _)
 ·rw [← hW0]
  have := EB.new (w.alloc (.cells #[.map (some b), .slice oa n cap] 125)) 0 0 0 0 0 0 (.slice none 0 0) (.slice none 0 0) []
  rw [World.size_alloc] at this
  exact this

theorem box_new {w W0 : World} {b : Nat} {oa : Option Addr} {n cap : Nat} (hW0 : w.alloc (.cells #[.map (some b), .slice oa n cap] 125) = W0) :
  Below w.heap.size w W0 ∧ W0.heap[w.heap.size]? = some (.cells #[.map (some b), .slice oa n cap] 125 (0, 0)) :=
 ⟨by rw [← hW0]; exact (Below.refl _ _).alloc (Nat.le_refl _) _, by rw [← hW0]; exact heap_alloc_new _ _⟩

end Go.Proofs.YtnkjjbpmdghcbaaGreat

namespace Go.Proofs.YtnkjjbpmdghcbaaGreat
open Go.RowKit P1 P3 P5 P9 P11 P12 P14 P15 K
set_option linter.unusedVariables false
set_option linter.unusedSimpArgs false

theorem wanted_yes {ops : Array Oper} {o p : Oper} {a : Act} {g t : Nat} {x : Bool} (hg : o.guard = some (g, x)) (hp : ops[g]? = some p) (hd : p.dst = some t) (hv : a.eval (.tmp t) = .bool x) : Region.wanted o (yielded ops a.tmps) = true := by
 have h1 : a.tmps[t]? = some (.bool x) := by
  simp only [Act.eval, Array.getD_eq_getD_getElem?] at hv
  cases h : a.tmps[t]? with
  | none => rw [h] at hv; simp [undef] at hv
  | some v => rw [h] at hv; simpa using hv
 simp [Region.wanted, hg, yielded, hp, hd, h1]

theorem wanted_no {ops : Array Oper} {o p : Oper} {a : Act} {g t : Nat} {x y : Bool} (hg : o.guard = some (g, x)) (hp : ops[g]? = some p) (hd : p.dst = some t) (hv : a.eval (.tmp t) = .bool y) (hne : y ≠ x) : Region.wanted o (yielded ops a.tmps) = false := by
 have h1 : a.tmps[t]? = some (.bool y) := by
  simp only [Act.eval, Array.getD_eq_getD_getElem?] at hv
  cases h : a.tmps[t]? with
  | none => rw [h] at hv; simp [undef] at hv
  | some v => rw [h] at hv; simpa using hv
 simp [Region.wanted, hg, yielded, hp, hd, h1, hne]

theorem gop_yes {P : Program} {ops : Array Oper} {Q : Exit → Act → World → Prop} {i : Nat} {o : Oper} {a : Act} {w w' : World} {v : Value} {K : Act → World → Prop} (ho : ops[i]? = some o) (hw : Region.wanted o (yielded ops a.tmps) = true) (hr : (execOp a.eval o).run P w = .ok (.value v) w') (hK : K (a.put o.dst v) w') : wpOp P ops Q i K a w := by
 unfold wpOp
 simp only [ho]
 rw [if_pos hw]
 refine .inl ?_
 unfold Oper.wp
 rw [hr]
 exact hK

theorem gop_no {P : Program} {ops : Array Oper} {Q : Exit → Act → World → Prop} {i : Nat} {o : Oper} {a : Act} {w : World} {K : Act → World → Prop} (ho : ops[i]? = some o) (hw : Region.wanted o (yielded ops a.tmps) = false) (hK : K (a.put o.dst undef) w) : wpOp P ops Q i K a w := by
 unfold wpOp
 simp only [ho]
 rw [if_neg (by rw [hw]; simp)]
 exact hK

def ctS (be : Nat) (ev : Value) (kd c : Int) (ok : Bool) : Nat → Option Value
 | 0 => some ev
 | 1 => some (.bool ok)
 | 2 => some (.bool ok)
 | 3 => some (if ok then .pointer (some ⟨be, 1, none⟩) else undef)
 | 4 => some (if ok then .int .i64 kd else undef)
 | 5 => some (if ok then .bool (kd == c) else undef)
 | 6 => some (.bool (ok && (kd == c)))
 | 8 => some (.bool (ok && (kd == c)))
 | _ => none

structure JS (W : World) (RR : Nat) (ct : Nat → Option Value) (e : EvV) (xl xp : Value) (V : Gh) (w : World) : Prop where
 pt : PT ct V
 gr : W.grownBy w (some RR)
 z : V 7 = none → EB w RR 0 0 0 0 0 0 (.slice none 0 0) (.slice none 0 0) []
 d : V 7 ≠ none → EB w RR e.id e.kind e.sender e.user e.member e.depth xl xp e.text

theorem JS.put {W : World} {RR : Nat} {ct : Nat → Option Value} {e : EvV} {xl xp : Value} {V : Gh} {w : World} (h : JS W RR ct e xl xp V w) {i : Nat} {v : Value} (hc : ct i = some v) (h7 : i ≠ 7) : JS W RR ct e xl xp (V.set i v) w := by
 refine ⟨h.pt.set (fun c hc' => by rw [hc] at hc'; cases hc'; rfl), h.gr, ?_, ?_⟩ <;> rw [Gh.set_ne V v (Ne.symm h7)]
 ·exact h.z
 ·exact h.d

def tabS1 : List (Option Tmp × Op) := [(some 11, .load 45 (.tmp 4)), (some 12, .move (.tmp 5)), (some 13, .move (.tmp 12)), (some 14, .fieldAddr 45 (.tmp 4) 1), (some 15, .load 3 (.tmp 14)), (some 16, .binOp .eql 3 (.tmp 15) (.const (.int .i64 1)) 3), (some 17, .pick (.tmp 13) (.tmp 16) (.const (.bool false))), (none, .store 45 (.tmp 2) (.tmp 11)), (some 3, .assign (.tmp 17))]
def depS1 : List (List Nat) := [[], [], [1], [2], [2, 3], [2, 4], [2, 5], [0, 2], [6, 7]]
def gdS1 : List (Option (Nat × Bool)) := [none, none, none, some (2, true), some (2, true), some (2, true), none, none, none]

set_option maxHeartbeats 4000000 in
theorem creation_region {id : Nat} {ops : Array Oper} {Q : Exit → Act → World → Prop} {a0 : Act} {W : World} (hm : Tryz.prog.follows .mixedOrders = true) (htab : opTab ops = tabS1) (hdp : depHas ops depS1 = true) (hgd : ops.toList.map (·.guard) = gdS1) (hd : dstsOk ops = true) (hl : lowOk2 ops = true) (n2 : noDst ops 2 = true) (n4 : noDst ops 4 = true) (n5 : noDst ops 5 = true)
  {RR be : Nat} {e : EvV} {xa ya : Option Addr} {xc yc : Nat} {ok : Bool}
  (hsz : 18 ≤ a0.tmps.size) (e2 : a0.eval (.tmp 2) = .pointer (some ⟨RR, 0, none⟩)) (e4 : a0.eval (.tmp 4) = .pointer (some ⟨be, 0, none⟩)) (e5 : a0.eval (.tmp 5) = .bool ok) (hne : RR ≠ be)
  (hE : EB W be e.id e.kind e.sender e.user e.member e.depth (.slice xa e.levels.length xc) (.slice ya e.prev.length yc) e.text) (hZ : EB W RR 0 0 0 0 0 0 (.slice none 0 0) (.slice none 0 0) [])
  (hend : ∀ (V : Gh) (w' : World), (∀ k, k < 9 → ∃ v, V k = some v) → V 8 = some (.bool (ok && (e.kind == 1))) → EB w' RR e.id e.kind e.sender e.user e.member e.depth (.slice xa e.levels.length xc) (.slice ya e.prev.length yc) e.text → W.grownBy w' (some RR) → Q .normal (actG ops V a0 ops.size) w') : (Code.region id ops true).wp Tryz.prog Q a0 W := by
 have hops : ops.size = 9 := by
  have := congrArg List.length htab
  simpa [opTab, tabS1] using this
 have hget : ∀ k (hk : k < 9), ops[k]? = some (ops[k]'(by omega)) := fun k hk => Array.getElem?_eq_getElem (by omega)
 have hdst : ∀ k t, (tabS1[k]?).map (·.1) = some (some t) → (hk : k < 9) → (ops[k]'(by omega)).dst = some t := fun k t ht hk => by
  have := opTab_at htab (hget k hk)
  rw [this] at ht
  simpa using ht
 have hbe : ∀ w', W.grownBy w' (some RR) → EB w' be e.id e.kind e.sender e.user e.member e.depth (.slice xa e.levels.length xc) (.slice ya e.prev.length yc) e.text := fun w' h => hE.kept h (fun q => hne (Option.some.inj q))
 refine wp_region_ghost2 hm hd hl (JS W RR (ctS be (evv e (.slice xa e.levels.length xc) (.slice ya e.prev.length yc)) e.kind 1 ok) e (.slice xa e.levels.length xc) (.slice ya e.prev.length yc)) ?_ ?_ ?_
 ·exact ⟨(fun k v c h => by cases h), ⟨rfl, rfl, rfl, Nat.le_refl _, fun _ _ _ => rfl⟩, fun _ => hZ, fun h => absurd rfl h⟩
 ·intro i o V w7 ho hVi hdep0 hcl hJ
  have hi : i < 9 := by have := (Array.getElem?_eq_some_iff.1 ho).1; omega
  have hop0 := opTab_at htab ho
  have hg0 : gdS1[i]? = some o.guard := by rw [← hgd, List.getElem?_map, Array.getElem?_toList, ho]; rfl
  have hdep : ∀ {l : List Nat}, depS1[i]? = some l → ∀ k ∈ l, ∃ v, V k = some v := fun hl => opDep_at hdp ho hdep0 hl
  have hlate : ∀ k, i ∈ (depS1[k]?).getD [] → V k = none := fun k hk => by
   cases hv : V k with
   | none => rfl
   | some v =>
    exfalso
    cases hl : depS1[k]? with
    | none => rw [hl] at hk; simp at hk
    | some l =>
     rw [hl] at hk
     have hk24 : k < 9 := by have := (List.getElem?_eq_some_iff.1 hl).1; simpa [depS1] using this
     obtain ⟨u, hu⟩ := opDep_at hdp (hget k hk24) (hcl k _ (hget k hk24) (by rw [hv]; rfl)) hl i (by simpa using hk)
     rw [hVi] at hu
     cases hu
  clear hdep0 hcl
  have hcases : i = 0 ∨ i = 1 ∨ i = 2 ∨ i = 3 ∨ i = 4 ∨ i = 5 ∨ i = 6 ∨ i = 7 ∨ i = 8 := by omega
  rcases hcases with rfl | rfl | rfl | rfl | rfl | rfl | rfl | rfl | rfl
  ·have hop : o.op = .load 45 (.tmp 4) := by (have h := hop0; simp only [tabS1, List.getElem?_cons_zero, List.getElem?_cons_succ, Option.some.injEq, Prod.mk.injEq] at h; exact h.2.symm)
   have hg : o.guard = _ := (Option.some.inj hg0).symm
   replace hdep := hdep (l := depS1.getD 0 []) (by rfl)
   have E4 := (eval_other (V := V) (a := a0) ops.size (noDst_of n4)).trans e4
   obtain ⟨t0, t1, t2, t3, t4, t5, t6, t7, t8⟩ := (hbe _ hJ.gr).ev
   refine gop ho hg ?_ ⟨_, rfl, hJ.put rfl (by decide)⟩
   obtain ⟨dst, op, ty, pos, after, guard⟩ := o
   simp only at hop
   subst hop
   generalize actG ops V a0 ops.size = A at E4 ⊢
   clear hJ hget hdst hend hdep hlate hbe
   simp only [Act.eval, Array.getD_eq_getD_getElem?] at E4
   go_simp
  ·have hop : o.op = .move (.tmp 5) := by (have h := hop0; simp only [tabS1, List.getElem?_cons_zero, List.getElem?_cons_succ, Option.some.injEq, Prod.mk.injEq] at h; exact h.2.symm)
   have hg : o.guard = _ := (Option.some.inj hg0).symm
   replace hdep := hdep (l := depS1.getD 1 []) (by rfl)
   have E5 := (eval_other (V := V) (a := a0) ops.size (noDst_of n5)).trans e5
   refine gop ho hg ?_ ⟨_, rfl, hJ.put rfl (by decide)⟩
   obtain ⟨dst, op, ty, pos, after, guard⟩ := o
   simp only at hop
   subst hop
   generalize actG ops V a0 ops.size = A at E5 ⊢
   clear hJ hget hdst hend hdep hlate hbe
   simp only [Act.eval, Array.getD_eq_getD_getElem?] at E5
   go_simp
  ·have hop : o.op = .move (.tmp 12) := by (have h := hop0; simp only [tabS1, List.getElem?_cons_zero, List.getElem?_cons_succ, Option.some.injEq, Prod.mk.injEq] at h; exact h.2.symm)
   have hg : o.guard = _ := (Option.some.inj hg0).symm
   replace hdep := hdep (l := depS1.getD 2 []) (by rfl)
   obtain ⟨v1, g1⟩ := hdep 1 (by simp [depS1])
   have E12 : (actG ops V a0 ops.size).eval (.tmp 12) = v1 := eval_done hd (hget 1 (by omega)) (hdst 1 12 (by simp [tabS1]) (by omega)) g1 (by omega) _ (by omega)
   obtain rfl : v1 = _ := hJ.pt 1 v1 _ g1 rfl
   refine gop ho hg ?_ ⟨_, rfl, hJ.put rfl (by decide)⟩
   obtain ⟨dst, op, ty, pos, after, guard⟩ := o
   simp only at hop
   subst hop
   generalize actG ops V a0 ops.size = A at E12 ⊢
   clear hJ hget hdst hend hdep hlate hbe
   simp only [Act.eval, Array.getD_eq_getD_getElem?] at E12
   go_simp
  ·have hop : o.op = .fieldAddr 45 (.tmp 4) 1 := by (have h := hop0; simp only [tabS1, List.getElem?_cons_zero, List.getElem?_cons_succ, Option.some.injEq, Prod.mk.injEq] at h; exact h.2.symm)
   have hg : o.guard = _ := (Option.some.inj hg0).symm
   replace hdep := hdep (l := depS1.getD 3 []) (by rfl)
   obtain ⟨v2, g2⟩ := hdep 2 (by simp [depS1])
   have E4 := (eval_other (V := V) (a := a0) ops.size (noDst_of n4)).trans e4
   obtain rfl : v2 = _ := hJ.pt 2 v2 _ g2 rfl
   have E13 : (actG ops V a0 ops.size).eval (.tmp 13) = .bool ok := eval_done hd (hget 2 (by omega)) (hdst 2 13 (by simp [tabS1]) (by omega)) g2 (by omega) _ (by omega)
   cases ok
   ·refine gop_no ho (wanted_no hg (hget 2 (by omega)) (hdst 2 13 (by simp [tabS1]) (by omega)) E13 (by decide)) ⟨_, rfl, hJ.put rfl (by decide)⟩
   ·have HW := hide (wanted_yes hg (hget 2 (by omega)) (hdst 2 13 (by simp [tabS1]) (by omega)) E13)
    refine gop_yes ho HW.out ?_ ⟨_, rfl, hJ.put rfl (by decide)⟩
    clear E13 HW
    obtain ⟨dst, op, ty, pos, after, guard⟩ := o
    simp only at hop
    subst hop
    generalize actG ops V a0 ops.size = A at E4 ⊢
    clear hJ hget hdst hend hdep hlate hbe
    simp only [Act.eval, Array.getD_eq_getD_getElem?] at E4
    skip
    go_simp
  ·have hop : o.op = .load 3 (.tmp 14) := by (have h := hop0; simp only [tabS1, List.getElem?_cons_zero, List.getElem?_cons_succ, Option.some.injEq, Prod.mk.injEq] at h; exact h.2.symm)
   have hg : o.guard = _ := (Option.some.inj hg0).symm
   replace hdep := hdep (l := depS1.getD 4 []) (by rfl)
   obtain ⟨v2, g2⟩ := hdep 2 (by simp [depS1])
   obtain ⟨v3, g3⟩ := hdep 3 (by simp [depS1])
   have E14 : (actG ops V a0 ops.size).eval (.tmp 14) = v3 := eval_done hd (hget 3 (by omega)) (hdst 3 14 (by simp [tabS1]) (by omega)) g3 (by omega) _ (by omega)
   obtain rfl : v2 = _ := hJ.pt 2 v2 _ g2 rfl
   obtain rfl : v3 = _ := hJ.pt 3 v3 _ g3 rfl
   have E13 : (actG ops V a0 ops.size).eval (.tmp 13) = .bool ok := eval_done hd (hget 2 (by omega)) (hdst 2 13 (by simp [tabS1]) (by omega)) g2 (by omega) _ (by omega)
   cases ok
   ·refine gop_no ho (wanted_no hg (hget 2 (by omega)) (hdst 2 13 (by simp [tabS1]) (by omega)) E13 (by decide)) ⟨_, rfl, hJ.put rfl (by decide)⟩
   ·have HW := hide (wanted_yes hg (hget 2 (by omega)) (hdst 2 13 (by simp [tabS1]) (by omega)) E13)
    obtain ⟨t0, t1, t2, t3, t4, t5, t6, t7, t8⟩ := (hbe _ hJ.gr).ev
    refine gop_yes ho HW.out ?_ ⟨_, rfl, hJ.put rfl (by decide)⟩
    clear E13 HW
    obtain ⟨dst, op, ty, pos, after, guard⟩ := o
    simp only at hop
    subst hop
    generalize actG ops V a0 ops.size = A at E14 ⊢
    clear hJ hget hdst hend hdep hlate hbe
    simp only [Act.eval, Array.getD_eq_getD_getElem?] at E14
    skip
    go_simp
  ·have hop : o.op = .binOp .eql 3 (.tmp 15) (.const (.int .i64 1)) 3 := by (have h := hop0; simp only [tabS1, List.getElem?_cons_zero, List.getElem?_cons_succ, Option.some.injEq, Prod.mk.injEq] at h; exact h.2.symm)
   have hg : o.guard = _ := (Option.some.inj hg0).symm
   replace hdep := hdep (l := depS1.getD 5 []) (by rfl)
   obtain ⟨v2, g2⟩ := hdep 2 (by simp [depS1])
   obtain ⟨v4, g4⟩ := hdep 4 (by simp [depS1])
   have E15 : (actG ops V a0 ops.size).eval (.tmp 15) = v4 := eval_done hd (hget 4 (by omega)) (hdst 4 15 (by simp [tabS1]) (by omega)) g4 (by omega) _ (by omega)
   obtain rfl : v2 = _ := hJ.pt 2 v2 _ g2 rfl
   obtain rfl : v4 = _ := hJ.pt 4 v4 _ g4 rfl
   have E13 : (actG ops V a0 ops.size).eval (.tmp 13) = .bool ok := eval_done hd (hget 2 (by omega)) (hdst 2 13 (by simp [tabS1]) (by omega)) g2 (by omega) _ (by omega)
   cases ok
   ·refine gop_no ho (wanted_no hg (hget 2 (by omega)) (hdst 2 13 (by simp [tabS1]) (by omega)) E13 (by decide)) ⟨_, rfl, hJ.put rfl (by decide)⟩
   ·have HW := hide (wanted_yes hg (hget 2 (by omega)) (hdst 2 13 (by simp [tabS1]) (by omega)) E13)
    refine gop_yes ho HW.out ?_ ⟨_, rfl, hJ.put rfl (by decide)⟩
    clear E13 HW
    obtain ⟨dst, op, ty, pos, after, guard⟩ := o
    simp only at hop
    subst hop
    generalize actG ops V a0 ops.size = A at E15 ⊢
    clear hJ hget hdst hend hdep hlate hbe
    simp only [Act.eval, Array.getD_eq_getD_getElem?] at E15
    skip
    go_simp
  ·have hop : o.op = .pick (.tmp 13) (.tmp 16) (.const (.bool false)) := by (have h := hop0; simp only [tabS1, List.getElem?_cons_zero, List.getElem?_cons_succ, Option.some.injEq, Prod.mk.injEq] at h; exact h.2.symm)
   have hg : o.guard = _ := (Option.some.inj hg0).symm
   replace hdep := hdep (l := depS1.getD 6 []) (by rfl)
   obtain ⟨v2, g2⟩ := hdep 2 (by simp [depS1])
   obtain ⟨v5, g5⟩ := hdep 5 (by simp [depS1])
   have E13 : (actG ops V a0 ops.size).eval (.tmp 13) = v2 := eval_done hd (hget 2 (by omega)) (hdst 2 13 (by simp [tabS1]) (by omega)) g2 (by omega) _ (by omega)
   have E16 : (actG ops V a0 ops.size).eval (.tmp 16) = v5 := eval_done hd (hget 5 (by omega)) (hdst 5 16 (by simp [tabS1]) (by omega)) g5 (by omega) _ (by omega)
   obtain rfl : v2 = _ := hJ.pt 2 v2 _ g2 rfl
   obtain rfl : v5 = _ := hJ.pt 5 v5 _ g5 rfl
   refine gop ho hg (v := .bool (ok && (e.kind == 1))) ?_ ⟨_, rfl, hJ.put rfl (by decide)⟩
   cases ok
   ·obtain ⟨dst, op, ty, pos, after, guard⟩ := o
    simp only at hop
    subst hop
    generalize actG ops V a0 ops.size = A at E13 E16 ⊢
    clear hJ hget hdst hend hdep hlate hbe
    simp only [Act.eval, Array.getD_eq_getD_getElem?] at E13 E16
    skip
    go_simp
   ·obtain ⟨dst, op, ty, pos, after, guard⟩ := o
    simp only at hop
    subst hop
    generalize actG ops V a0 ops.size = A at E13 E16 ⊢
    clear hJ hget hdst hend hdep hlate hbe
    simp only [Act.eval, Array.getD_eq_getD_getElem?] at E13 E16
    skip
    go_simp
  ·have hop : o.op = .store 45 (.tmp 2) (.tmp 11) := by (have h := hop0; simp only [tabS1, List.getElem?_cons_zero, List.getElem?_cons_succ, Option.some.injEq, Prod.mk.injEq] at h; exact h.2.symm)
   have hg : o.guard = _ := (Option.some.inj hg0).symm
   replace hdep := hdep (l := depS1.getD 7 []) (by rfl)
   obtain ⟨v0, g0⟩ := hdep 0 (by simp [depS1])
   obtain ⟨v2, g2⟩ := hdep 2 (by simp [depS1])
   have E2 := (eval_other (V := V) (a := a0) ops.size (noDst_of n2)).trans e2
   have E11 : (actG ops V a0 ops.size).eval (.tmp 11) = v0 := eval_done hd (hget 0 (by omega)) (hdst 0 11 (by simp [tabS1]) (by omega)) g0 (by omega) _ (by omega)
   obtain rfl : v0 = _ := hJ.pt 0 v0 _ g0 rfl
   obtain rfl : v2 = _ := hJ.pt 2 v2 _ g2 rfl
   have hz := hJ.z hVi
   obtain ⟨w8, hw8, hE8, hg8⟩ := hz.all e.id e.kind e.sender e.user e.member e.depth (.slice xa e.levels.length xc) (.slice ya e.prev.length yc) e.text
   refine gop_skip ho hg (w' := w8) ?_ ⟨_, rfl, ?_⟩
   ·obtain ⟨k0, k1, k2, k3, k4, k5, k6, k7, k8⟩ := hz.ev
    have y0 := hz.free 0
    have y1 := hz.free 1
    have y2 := hz.free 2
    have y3 := hz.free 3
    have y4 := hz.free 4
    have y5 := hz.free 5
    have y6 := hz.free 6
    have y7 := hz.free 7
    have y8 := hz.free 8
    clear hE8 hg8 hz
    obtain ⟨dst, op, ty, pos, after, guard⟩ := o
    simp only at hop
    subst hop
    generalize actG ops V a0 ops.size = A at E2 E11 ⊢
    clear hJ hget hdst hend hdep hlate hbe
    simp only [Act.eval, Array.getD_eq_getD_getElem?] at E2 E11
    skip
    go_simp
    try exact hw8
   ·refine ⟨hJ.pt.set (fun c hc => by cases hc), grown_trans hJ.gr hg8, fun h => ?_, fun _ => hE8⟩
    rw [Gh.set_self] at h
    cases h
  ·have hop : o.op = .assign (.tmp 17) := by (have h := hop0; simp only [tabS1, List.getElem?_cons_zero, List.getElem?_cons_succ, Option.some.injEq, Prod.mk.injEq] at h; exact h.2.symm)
   have hg : o.guard = _ := (Option.some.inj hg0).symm
   replace hdep := hdep (l := depS1.getD 8 []) (by rfl)
   obtain ⟨v6, g6⟩ := hdep 6 (by simp [depS1])
   have E17 : (actG ops V a0 ops.size).eval (.tmp 17) = v6 := eval_done hd (hget 6 (by omega)) (hdst 6 17 (by simp [tabS1]) (by omega)) g6 (by omega) _ (by omega)
   obtain rfl : v6 = _ := hJ.pt 6 v6 _ g6 rfl
   refine gop ho hg ?_ ⟨_, rfl, hJ.put rfl (by decide)⟩
   obtain ⟨dst, op, ty, pos, after, guard⟩ := o
   simp only at hop
   subst hop
   generalize actG ops V a0 ops.size = A at E17 ⊢
   clear hJ hget hdst hend hdep hlate hbe
   simp only [Act.eval, Array.getD_eq_getD_getElem?] at E17
   go_simp
 ·intro V w7 hall hJ
  have hall' : ∀ k, k < 9 → ∃ v, V k = some v := fun k hk => Option.isSome_iff_exists.1 (hall k (by omega))
  obtain ⟨v7, g7⟩ := hall' 7 (by omega)
  obtain ⟨v8, g8⟩ := hall' 8 (by omega)
  obtain rfl : v8 = _ := hJ.pt 8 v8 _ g8 rfl
  exact hend V w7 hall' g8 (hJ.d (by rw [g7]; simp)) hJ.gr

def tabS3 : List (Option Tmp × Op) := [(some 11, .load 45 (.tmp 4)), (some 12, .move (.tmp 5)), (some 13, .move (.tmp 12)), (some 14, .fieldAddr 45 (.tmp 4) 1), (some 15, .load 3 (.tmp 14)), (some 16, .binOp .eql 3 (.tmp 15) (.const (.int .i64 3)) 3), (some 17, .pick (.tmp 13) (.tmp 16) (.const (.bool false))), (none, .store 45 (.tmp 2) (.tmp 11)), (some 3, .assign (.tmp 17))]
def depS3 : List (List Nat) := [[], [], [1], [2], [2, 3], [2, 4], [2, 5], [0, 2], [6, 7]]
def gdS3 : List (Option (Nat × Bool)) := [none, none, none, some (2, true), some (2, true), some (2, true), none, none, none]

set_option maxHeartbeats 4000000 in
theorem power_region {id : Nat} {ops : Array Oper} {Q : Exit → Act → World → Prop} {a0 : Act} {W : World} (hm : Tryz.prog.follows .mixedOrders = true) (htab : opTab ops = tabS3) (hdp : depHas ops depS3 = true) (hgd : ops.toList.map (·.guard) = gdS3) (hd : dstsOk ops = true) (hl : lowOk2 ops = true) (n2 : noDst ops 2 = true) (n4 : noDst ops 4 = true) (n5 : noDst ops 5 = true)
  {RR be : Nat} {e : EvV} {xa ya : Option Addr} {xc yc : Nat} {ok : Bool}
  (hsz : 18 ≤ a0.tmps.size) (e2 : a0.eval (.tmp 2) = .pointer (some ⟨RR, 0, none⟩)) (e4 : a0.eval (.tmp 4) = .pointer (some ⟨be, 0, none⟩)) (e5 : a0.eval (.tmp 5) = .bool ok) (hne : RR ≠ be)
  (hE : EB W be e.id e.kind e.sender e.user e.member e.depth (.slice xa e.levels.length xc) (.slice ya e.prev.length yc) e.text) (hZ : EB W RR 0 0 0 0 0 0 (.slice none 0 0) (.slice none 0 0) [])
  (hend : ∀ (V : Gh) (w' : World), (∀ k, k < 9 → ∃ v, V k = some v) → V 8 = some (.bool (ok && (e.kind == 3))) → EB w' RR e.id e.kind e.sender e.user e.member e.depth (.slice xa e.levels.length xc) (.slice ya e.prev.length yc) e.text → W.grownBy w' (some RR) → Q .normal (actG ops V a0 ops.size) w') : (Code.region id ops true).wp Tryz.prog Q a0 W := by
 have hops : ops.size = 9 := by
  have := congrArg List.length htab
  simpa [opTab, tabS3] using this
 have hget : ∀ k (hk : k < 9), ops[k]? = some (ops[k]'(by omega)) := fun k hk => Array.getElem?_eq_getElem (by omega)
 have hdst : ∀ k t, (tabS3[k]?).map (·.1) = some (some t) → (hk : k < 9) → (ops[k]'(by omega)).dst = some t := fun k t ht hk => by
  have := opTab_at htab (hget k hk)
  rw [this] at ht
  simpa using ht
 have hbe : ∀ w', W.grownBy w' (some RR) → EB w' be e.id e.kind e.sender e.user e.member e.depth (.slice xa e.levels.length xc) (.slice ya e.prev.length yc) e.text := fun w' h => hE.kept h (fun q => hne (Option.some.inj q))
 refine wp_region_ghost2 hm hd hl (JS W RR (ctS be (evv e (.slice xa e.levels.length xc) (.slice ya e.prev.length yc)) e.kind 3 ok) e (.slice xa e.levels.length xc) (.slice ya e.prev.length yc)) ?_ ?_ ?_
 ·exact ⟨(fun k v c h => by cases h), ⟨rfl, rfl, rfl, Nat.le_refl _, fun _ _ _ => rfl⟩, fun _ => hZ, fun h => absurd rfl h⟩
 ·intro i o V w7 ho hVi hdep0 hcl hJ
  have hi : i < 9 := by have := (Array.getElem?_eq_some_iff.1 ho).1; omega
  have hop0 := opTab_at htab ho
  have hg0 : gdS3[i]? = some o.guard := by rw [← hgd, List.getElem?_map, Array.getElem?_toList, ho]; rfl
  have hdep : ∀ {l : List Nat}, depS3[i]? = some l → ∀ k ∈ l, ∃ v, V k = some v := fun hl => opDep_at hdp ho hdep0 hl
  have hlate : ∀ k, i ∈ (depS3[k]?).getD [] → V k = none := fun k hk => by
   cases hv : V k with
   | none => rfl
   | some v =>
    exfalso
    cases hl : depS3[k]? with
    | none => rw [hl] at hk; simp at hk
    | some l =>
     rw [hl] at hk
     have hk24 : k < 9 := by have := (List.getElem?_eq_some_iff.1 hl).1; simpa [depS3] using this
     obtain ⟨u, hu⟩ := opDep_at hdp (hget k hk24) (hcl k _ (hget k hk24) (by rw [hv]; rfl)) hl i (by simpa using hk)
     rw [hVi] at hu
     cases hu
  clear hdep0 hcl
  have hcases : i = 0 ∨ i = 1 ∨ i = 2 ∨ i = 3 ∨ i = 4 ∨ i = 5 ∨ i = 6 ∨ i = 7 ∨ i = 8 := by omega
  rcases hcases with rfl | rfl | rfl | rfl | rfl | rfl | rfl | rfl | rfl
  ·have hop : o.op = .load 45 (.tmp 4) := by (have h := hop0; simp only [tabS3, List.getElem?_cons_zero, List.getElem?_cons_succ, Option.some.injEq, Prod.mk.injEq] at h; exact h.2.symm)
   have hg : o.guard = _ := (Option.some.inj hg0).symm
   replace hdep := hdep (l := depS3.getD 0 []) (by rfl)
   have E4 := (eval_other (V := V) (a := a0) ops.size (noDst_of n4)).trans e4
   obtain ⟨t0, t1, t2, t3, t4, t5, t6, t7, t8⟩ := (hbe _ hJ.gr).ev
   refine gop ho hg ?_ ⟨_, rfl, hJ.put rfl (by decide)⟩
   obtain ⟨dst, op, ty, pos, after, guard⟩ := o
   simp only at hop
   subst hop
   generalize actG ops V a0 ops.size = A at E4 ⊢
   clear hJ hget hdst hend hdep hlate hbe
   simp only [Act.eval, Array.getD_eq_getD_getElem?] at E4
   go_simp
  ·have hop : o.op = .move (.tmp 5) := by (have h := hop0; simp only [tabS3, List.getElem?_cons_zero, List.getElem?_cons_succ, Option.some.injEq, Prod.mk.injEq] at h; exact h.2.symm)
   have hg : o.guard = _ := (Option.some.inj hg0).symm
   replace hdep := hdep (l := depS3.getD 1 []) (by rfl)
   have E5 := (eval_other (V := V) (a := a0) ops.size (noDst_of n5)).trans e5
   refine gop ho hg ?_ ⟨_, rfl, hJ.put rfl (by decide)⟩
   obtain ⟨dst, op, ty, pos, after, guard⟩ := o
   simp only at hop
   subst hop
   generalize actG ops V a0 ops.size = A at E5 ⊢
   clear hJ hget hdst hend hdep hlate hbe
   simp only [Act.eval, Array.getD_eq_getD_getElem?] at E5
   go_simp
  ·have hop : o.op = .move (.tmp 12) := by (have h := hop0; simp only [tabS3, List.getElem?_cons_zero, List.getElem?_cons_succ, Option.some.injEq, Prod.mk.injEq] at h; exact h.2.symm)
   have hg : o.guard = _ := (Option.some.inj hg0).symm
   replace hdep := hdep (l := depS3.getD 2 []) (by rfl)
   obtain ⟨v1, g1⟩ := hdep 1 (by simp [depS3])
   have E12 : (actG ops V a0 ops.size).eval (.tmp 12) = v1 := eval_done hd (hget 1 (by omega)) (hdst 1 12 (by simp [tabS3]) (by omega)) g1 (by omega) _ (by omega)
   obtain rfl : v1 = _ := hJ.pt 1 v1 _ g1 rfl
   refine gop ho hg ?_ ⟨_, rfl, hJ.put rfl (by decide)⟩
   obtain ⟨dst, op, ty, pos, after, guard⟩ := o
   simp only at hop
   subst hop
   generalize actG ops V a0 ops.size = A at E12 ⊢
   clear hJ hget hdst hend hdep hlate hbe
   simp only [Act.eval, Array.getD_eq_getD_getElem?] at E12
   go_simp
  ·have hop : o.op = .fieldAddr 45 (.tmp 4) 1 := by (have h := hop0; simp only [tabS3, List.getElem?_cons_zero, List.getElem?_cons_succ, Option.some.injEq, Prod.mk.injEq] at h; exact h.2.symm)
   have hg : o.guard = _ := (Option.some.inj hg0).symm
   replace hdep := hdep (l := depS3.getD 3 []) (by rfl)
   obtain ⟨v2, g2⟩ := hdep 2 (by simp [depS3])
   have E4 := (eval_other (V := V) (a := a0) ops.size (noDst_of n4)).trans e4
   obtain rfl : v2 = _ := hJ.pt 2 v2 _ g2 rfl
   have E13 : (actG ops V a0 ops.size).eval (.tmp 13) = .bool ok := eval_done hd (hget 2 (by omega)) (hdst 2 13 (by simp [tabS3]) (by omega)) g2 (by omega) _ (by omega)
   cases ok
   ·refine gop_no ho (wanted_no hg (hget 2 (by omega)) (hdst 2 13 (by simp [tabS3]) (by omega)) E13 (by decide)) ⟨_, rfl, hJ.put rfl (by decide)⟩
   ·have HW := hide (wanted_yes hg (hget 2 (by omega)) (hdst 2 13 (by simp [tabS3]) (by omega)) E13)
    refine gop_yes ho HW.out ?_ ⟨_, rfl, hJ.put rfl (by decide)⟩
    clear E13 HW
    obtain ⟨dst, op, ty, pos, after, guard⟩ := o
    simp only at hop
    subst hop
    generalize actG ops V a0 ops.size = A at E4 ⊢
    clear hJ hget hdst hend hdep hlate hbe
    simp only [Act.eval, Array.getD_eq_getD_getElem?] at E4
    skip
    go_simp
  ·have hop : o.op = .load 3 (.tmp 14) := by (have h := hop0; simp only [tabS3, List.getElem?_cons_zero, List.getElem?_cons_succ, Option.some.injEq, Prod.mk.injEq] at h; exact h.2.symm)
   have hg : o.guard = _ := (Option.some.inj hg0).symm
   replace hdep := hdep (l := depS3.getD 4 []) (by rfl)
   obtain ⟨v2, g2⟩ := hdep 2 (by simp [depS3])
   obtain ⟨v3, g3⟩ := hdep 3 (by simp [depS3])
   have E14 : (actG ops V a0 ops.size).eval (.tmp 14) = v3 := eval_done hd (hget 3 (by omega)) (hdst 3 14 (by simp [tabS3]) (by omega)) g3 (by omega) _ (by omega)
   obtain rfl : v2 = _ := hJ.pt 2 v2 _ g2 rfl
   obtain rfl : v3 = _ := hJ.pt 3 v3 _ g3 rfl
   have E13 : (actG ops V a0 ops.size).eval (.tmp 13) = .bool ok := eval_done hd (hget 2 (by omega)) (hdst 2 13 (by simp [tabS3]) (by omega)) g2 (by omega) _ (by omega)
   cases ok
   ·refine gop_no ho (wanted_no hg (hget 2 (by omega)) (hdst 2 13 (by simp [tabS3]) (by omega)) E13 (by decide)) ⟨_, rfl, hJ.put rfl (by decide)⟩
   ·have HW := hide (wanted_yes hg (hget 2 (by omega)) (hdst 2 13 (by simp [tabS3]) (by omega)) E13)
    obtain ⟨t0, t1, t2, t3, t4, t5, t6, t7, t8⟩ := (hbe _ hJ.gr).ev
    refine gop_yes ho HW.out ?_ ⟨_, rfl, hJ.put rfl (by decide)⟩
    clear E13 HW
    obtain ⟨dst, op, ty, pos, after, guard⟩ := o
    simp only at hop
    subst hop
    generalize actG ops V a0 ops.size = A at E14 ⊢
    clear hJ hget hdst hend hdep hlate hbe
    simp only [Act.eval, Array.getD_eq_getD_getElem?] at E14
    skip
    go_simp
  ·have hop : o.op = .binOp .eql 3 (.tmp 15) (.const (.int .i64 3)) 3 := by (have h := hop0; simp only [tabS3, List.getElem?_cons_zero, List.getElem?_cons_succ, Option.some.injEq, Prod.mk.injEq] at h; exact h.2.symm)
   have hg : o.guard = _ := (Option.some.inj hg0).symm
   replace hdep := hdep (l := depS3.getD 5 []) (by rfl)
   obtain ⟨v2, g2⟩ := hdep 2 (by simp [depS3])
   obtain ⟨v4, g4⟩ := hdep 4 (by simp [depS3])
   have E15 : (actG ops V a0 ops.size).eval (.tmp 15) = v4 := eval_done hd (hget 4 (by omega)) (hdst 4 15 (by simp [tabS3]) (by omega)) g4 (by omega) _ (by omega)
   obtain rfl : v2 = _ := hJ.pt 2 v2 _ g2 rfl
   obtain rfl : v4 = _ := hJ.pt 4 v4 _ g4 rfl
   have E13 : (actG ops V a0 ops.size).eval (.tmp 13) = .bool ok := eval_done hd (hget 2 (by omega)) (hdst 2 13 (by simp [tabS3]) (by omega)) g2 (by omega) _ (by omega)
   cases ok
   ·refine gop_no ho (wanted_no hg (hget 2 (by omega)) (hdst 2 13 (by simp [tabS3]) (by omega)) E13 (by decide)) ⟨_, rfl, hJ.put rfl (by decide)⟩
   ·have HW := hide (wanted_yes hg (hget 2 (by omega)) (hdst 2 13 (by simp [tabS3]) (by omega)) E13)
    refine gop_yes ho HW.out ?_ ⟨_, rfl, hJ.put rfl (by decide)⟩
    clear E13 HW
    obtain ⟨dst, op, ty, pos, after, guard⟩ := o
    simp only at hop
    subst hop
    generalize actG ops V a0 ops.size = A at E15 ⊢
    clear hJ hget hdst hend hdep hlate hbe
    simp only [Act.eval, Array.getD_eq_getD_getElem?] at E15
    skip
    go_simp
  ·have hop : o.op = .pick (.tmp 13) (.tmp 16) (.const (.bool false)) := by (have h := hop0; simp only [tabS3, List.getElem?_cons_zero, List.getElem?_cons_succ, Option.some.injEq, Prod.mk.injEq] at h; exact h.2.symm)
   have hg : o.guard = _ := (Option.some.inj hg0).symm
   replace hdep := hdep (l := depS3.getD 6 []) (by rfl)
   obtain ⟨v2, g2⟩ := hdep 2 (by simp [depS3])
   obtain ⟨v5, g5⟩ := hdep 5 (by simp [depS3])
   have E13 : (actG ops V a0 ops.size).eval (.tmp 13) = v2 := eval_done hd (hget 2 (by omega)) (hdst 2 13 (by simp [tabS3]) (by omega)) g2 (by omega) _ (by omega)
   have E16 : (actG ops V a0 ops.size).eval (.tmp 16) = v5 := eval_done hd (hget 5 (by omega)) (hdst 5 16 (by simp [tabS3]) (by omega)) g5 (by omega) _ (by omega)
   obtain rfl : v2 = _ := hJ.pt 2 v2 _ g2 rfl
   obtain rfl : v5 = _ := hJ.pt 5 v5 _ g5 rfl
   refine gop ho hg (v := .bool (ok && (e.kind == 3))) ?_ ⟨_, rfl, hJ.put rfl (by decide)⟩
   cases ok
   ·obtain ⟨dst, op, ty, pos, after, guard⟩ := o
    simp only at hop
    subst hop
    generalize actG ops V a0 ops.size = A at E13 E16 ⊢
    clear hJ hget hdst hend hdep hlate hbe
    simp only [Act.eval, Array.getD_eq_getD_getElem?] at E13 E16
    skip
    go_simp
   ·obtain ⟨dst, op, ty, pos, after, guard⟩ := o
    simp only at hop
    subst hop
    generalize actG ops V a0 ops.size = A at E13 E16 ⊢
    clear hJ hget hdst hend hdep hlate hbe
    simp only [Act.eval, Array.getD_eq_getD_getElem?] at E13 E16
    skip
    go_simp
  ·have hop : o.op = .store 45 (.tmp 2) (.tmp 11) := by (have h := hop0; simp only [tabS3, List.getElem?_cons_zero, List.getElem?_cons_succ, Option.some.injEq, Prod.mk.injEq] at h; exact h.2.symm)
   have hg : o.guard = _ := (Option.some.inj hg0).symm
   replace hdep := hdep (l := depS3.getD 7 []) (by rfl)
   obtain ⟨v0, g0⟩ := hdep 0 (by simp [depS3])
   obtain ⟨v2, g2⟩ := hdep 2 (by simp [depS3])
   have E2 := (eval_other (V := V) (a := a0) ops.size (noDst_of n2)).trans e2
   have E11 : (actG ops V a0 ops.size).eval (.tmp 11) = v0 := eval_done hd (hget 0 (by omega)) (hdst 0 11 (by simp [tabS3]) (by omega)) g0 (by omega) _ (by omega)
   obtain rfl : v0 = _ := hJ.pt 0 v0 _ g0 rfl
   obtain rfl : v2 = _ := hJ.pt 2 v2 _ g2 rfl
   have hz := hJ.z hVi
   obtain ⟨w8, hw8, hE8, hg8⟩ := hz.all e.id e.kind e.sender e.user e.member e.depth (.slice xa e.levels.length xc) (.slice ya e.prev.length yc) e.text
   refine gop_skip ho hg (w' := w8) ?_ ⟨_, rfl, ?_⟩
   ·obtain ⟨k0, k1, k2, k3, k4, k5, k6, k7, k8⟩ := hz.ev
    have y0 := hz.free 0
    have y1 := hz.free 1
    have y2 := hz.free 2
    have y3 := hz.free 3
    have y4 := hz.free 4
    have y5 := hz.free 5
    have y6 := hz.free 6
    have y7 := hz.free 7
    have y8 := hz.free 8
    clear hE8 hg8 hz
    obtain ⟨dst, op, ty, pos, after, guard⟩ := o
    simp only at hop
    subst hop
    generalize actG ops V a0 ops.size = A at E2 E11 ⊢
    clear hJ hget hdst hend hdep hlate hbe
    simp only [Act.eval, Array.getD_eq_getD_getElem?] at E2 E11
    skip
    go_simp
    try exact hw8
   ·refine ⟨hJ.pt.set (fun c hc => by cases hc), grown_trans hJ.gr hg8, fun h => ?_, fun _ => hE8⟩
    rw [Gh.set_self] at h
    cases h
  ·have hop : o.op = .assign (.tmp 17) := by (have h := hop0; simp only [tabS3, List.getElem?_cons_zero, List.getElem?_cons_succ, Option.some.injEq, Prod.mk.injEq] at h; exact h.2.symm)
   have hg : o.guard = _ := (Option.some.inj hg0).symm
   replace hdep := hdep (l := depS3.getD 8 []) (by rfl)
   obtain ⟨v6, g6⟩ := hdep 6 (by simp [depS3])
   have E17 : (actG ops V a0 ops.size).eval (.tmp 17) = v6 := eval_done hd (hget 6 (by omega)) (hdst 6 17 (by simp [tabS3]) (by omega)) g6 (by omega) _ (by omega)
   obtain rfl : v6 = _ := hJ.pt 6 v6 _ g6 rfl
   refine gop ho hg ?_ ⟨_, rfl, hJ.put rfl (by decide)⟩
   obtain ⟨dst, op, ty, pos, after, guard⟩ := o
   simp only at hop
   subst hop
   generalize actG ops V a0 ops.size = A at E17 ⊢
   clear hJ hget hdst hend hdep hlate hbe
   simp only [Act.eval, Array.getD_eq_getD_getElem?] at E17
   go_simp
 ·intro V w7 hall hJ
  have hall' : ∀ k, k < 9 → ∃ v, V k = some v := fun k hk => Option.isSome_iff_exists.1 (hall k (by omega))
  obtain ⟨v7, g7⟩ := hall' 7 (by omega)
  obtain ⟨v8, g8⟩ := hall' 8 (by omega)
  obtain rfl : v8 = _ := hJ.pt 8 v8 _ g8 rfl
  exact hend V w7 hall' g8 (hJ.d (by rw [g7]; simp)) hJ.gr

set_option maxHeartbeats 4000000 in
theorem scCreation_any (b : Nat) (oa : Option Addr) (n cap : Nat) (es : List EvV) (s : St) (w : World) (hS : Scn w b oa n cap es s) :
  Calls Tryz.prog 154 #[scv b oa n cap] w (FdPost w (scKn es s 1).1 ((scKn es s 1).2 && ((scKn es s 1).1.kind == 1))) := by
 obtain ⟨W0, hW0⟩ : ∃ W0, ((w.alloc (.cells #[.map (some b), .slice oa n cap] 125)).alloc (.cells (evcells 0 0 0 0 0 0 (.slice none 0 0) (.slice none 0 0) []) 45)) = W0 := ⟨_, rfl⟩
 obtain ⟨hb0, hR0, hE0⟩ := boxes_new (b := b) (oa := oa) (n := n) (cap := cap) hW0
 have HEVT := hide (scEvent_from w b oa n cap es s 1 (by decide) W0 hS.evs hb0 (hS.on hb0))
 have r0 := blk_cell hR0 0 rfl
 have r1 := blk_cell hR0 1 rfl
 have HE0 := hide hE0
 have HB0 := hide hb0
 have HW0 := hide hW0
 have hlR := hE0.lt
 generalize scKn es s 1 = R at HEVT ⊢
 obtain ⟨e, ok⟩ := R
 simp only at HEVT ⊢
 clear hR0 hE0 hb0 hW0 hS
 go_enter Tryz.func154, Tryz.ntmps154
 go_upto_region 1 with fail
 rw [HW0.out]
 clear HW0
 go_upto_region 2 with (go_at_call 176; (with_reducible refine HEVT.out.mono ?_); rintro r w1 ⟨xa, xc, ya, yc, rfl, hx, hy, hb1⟩)
 obtain ⟨w2, hw2⟩ : ∃ w2, w1.alloc (.cells (evcells e.id e.kind e.sender e.user e.member e.depth (.slice xa e.levels.length xc) (.slice ya e.prev.length yc) e.text) 45) = w2 := ⟨_, rfl⟩
 have hb2 : Below w1.heap.size w1 w2 := by rw [← hw2]; exact (Below.refl _ _).alloc (Nat.le_refl _) _
 have hE2 : EB w2 w1.heap.size e.id e.kind e.sender e.user e.member e.depth (.slice xa e.levels.length xc) (.slice ya e.prev.length yc) e.text := by rw [← hw2]; exact EB.new _ _ _ _ _ _ _ _ _ _
 try rw [show w1.alloc (.cells #[.int .i64 e.id, .int .i64 e.kind, .int .i64 e.sender, .int .i64 e.user, .int .i64 e.member, .slice xa e.levels.length xc, .string ⟨e.text.toArray⟩, .slice ya e.prev.length yc, .int .i64 e.depth] 45) = w2 from hw2]
 have hs1 := hb1.size
 have HRR := hide ((HE0.out.on hb1 hlR).on hb2 (by omega))
 have HX := hide hx
 have HY := hide hy
 have HB2 := hide (HB0.out.trans ((hb1.trans (hb2.mono hs1)).mono HB0.out.size))
 have hbe : w.heap.size + 1 ≠ w1.heap.size := by omega
 generalize w1.heap.size = be at hE2 hbe ⊢
 have HE2 := hide hE2
 clear hx hy hb1 hb2 hw2 hE2
 refine creation_region (RR := w.heap.size + 1) (be := be) (e := e) (xa := xa) (ya := ya) (xc := xc) (yc := yc) (ok := ok) (by kernel_rfl) (by kernel_rfl) (by kernel_rfl) (by kernel_rfl) (by kernel_rfl) (by kernel_rfl) (by kernel_rfl) (by kernel_rfl) (by kernel_rfl) (by simp) rfl rfl rfl hbe HE2.out HRR.out ?_
 intro V w3 hall g8 hE3 hg3
 have HE3 := hide hE3
 have HG3 := hide hg3
 obtain ⟨v0, g0'⟩ := hall 0 (by omega)
 obtain ⟨v1, g1'⟩ := hall 1 (by omega)
 obtain ⟨v2, g2'⟩ := hall 2 (by omega)
 obtain ⟨v3, g3'⟩ := hall 3 (by omega)
 obtain ⟨v4, g4'⟩ := hall 4 (by omega)
 obtain ⟨v5, g5'⟩ := hall 5 (by omega)
 obtain ⟨v6, g6'⟩ := hall 6 (by omega)
 obtain ⟨v7, g7'⟩ := hall 7 (by omega)
 simp only [actG, List.size_toArray, List.length_cons, List.length_nil, List.getElem?_toArray, List.getElem?_cons_zero, List.getElem?_cons_succ, g0', g1', g2', g3', g4', g5', g6', g7', g8, Act.put, List.setIfInBounds_toArray, List.set_cons_zero, List.set_cons_succ]
 clear g0' g1' g2' g3' g4' g5' g6' g7'
 clear hall hE3 hg3
 obtain ⟨q0, q1, q2, q3, q4, q5, q6, q7, q8⟩ := HE3.out.ev
 go_wp2_with fail
 refine bodyPost_ret (v := .tuple #[evv e (.slice xa e.levels.length xc) (.slice ya e.prev.length yc), .bool (ok && (e.kind == 1))]) (by simp [results, Tryz.results154, go_sem, q0, q1, q2, q3, q4, q5, q6, q7, q8]) rfl ?_
 have hb9 : Below w.heap.size w w3 := HB2.out.grown HG3.out HB2.out.size (fun q hq => by cases hq; omega)
 exact ⟨xa, xc, ya, yc, rfl, HX.out.below hb9, HY.out.below hb9, hb9⟩

set_option maxHeartbeats 4000000 in
theorem scPower_any (b : Nat) (oa : Option Addr) (n cap : Nat) (es : List EvV) (s : St) (w : World) (hS : Scn w b oa n cap es s) :
  Calls Tryz.prog 205 #[scv b oa n cap] w (FdPost w (scKn es s 2).1 ((scKn es s 2).2 && ((scKn es s 2).1.kind == 3))) := by
 obtain ⟨W0, hW0⟩ : ∃ W0, ((w.alloc (.cells #[.map (some b), .slice oa n cap] 125)).alloc (.cells (evcells 0 0 0 0 0 0 (.slice none 0 0) (.slice none 0 0) []) 45)) = W0 := ⟨_, rfl⟩
 obtain ⟨hb0, hR0, hE0⟩ := boxes_new (b := b) (oa := oa) (n := n) (cap := cap) hW0
 have HEVT := hide (scEvent_from w b oa n cap es s 2 (by decide) W0 hS.evs hb0 (hS.on hb0))
 have r0 := blk_cell hR0 0 rfl
 have r1 := blk_cell hR0 1 rfl
 have HE0 := hide hE0
 have HB0 := hide hb0
 have HW0 := hide hW0
 have hlR := hE0.lt
 generalize scKn es s 2 = R at HEVT ⊢
 obtain ⟨e, ok⟩ := R
 simp only at HEVT ⊢
 clear hR0 hE0 hb0 hW0 hS
 go_enter Tryz.func205, Tryz.ntmps205
 go_upto_region 1 with fail
 rw [HW0.out]
 clear HW0
 go_upto_region 2 with (go_at_call 176; (with_reducible refine HEVT.out.mono ?_); rintro r w1 ⟨xa, xc, ya, yc, rfl, hx, hy, hb1⟩)
 obtain ⟨w2, hw2⟩ : ∃ w2, w1.alloc (.cells (evcells e.id e.kind e.sender e.user e.member e.depth (.slice xa e.levels.length xc) (.slice ya e.prev.length yc) e.text) 45) = w2 := ⟨_, rfl⟩
 have hb2 : Below w1.heap.size w1 w2 := by rw [← hw2]; exact (Below.refl _ _).alloc (Nat.le_refl _) _
 have hE2 : EB w2 w1.heap.size e.id e.kind e.sender e.user e.member e.depth (.slice xa e.levels.length xc) (.slice ya e.prev.length yc) e.text := by rw [← hw2]; exact EB.new _ _ _ _ _ _ _ _ _ _
 try rw [show w1.alloc (.cells #[.int .i64 e.id, .int .i64 e.kind, .int .i64 e.sender, .int .i64 e.user, .int .i64 e.member, .slice xa e.levels.length xc, .string ⟨e.text.toArray⟩, .slice ya e.prev.length yc, .int .i64 e.depth] 45) = w2 from hw2]
 have hs1 := hb1.size
 have HRR := hide ((HE0.out.on hb1 hlR).on hb2 (by omega))
 have HX := hide hx
 have HY := hide hy
 have HB2 := hide (HB0.out.trans ((hb1.trans (hb2.mono hs1)).mono HB0.out.size))
 have hbe : w.heap.size + 1 ≠ w1.heap.size := by omega
 generalize w1.heap.size = be at hE2 hbe ⊢
 have HE2 := hide hE2
 clear hx hy hb1 hb2 hw2 hE2
 refine power_region (RR := w.heap.size + 1) (be := be) (e := e) (xa := xa) (ya := ya) (xc := xc) (yc := yc) (ok := ok) (by kernel_rfl) (by kernel_rfl) (by kernel_rfl) (by kernel_rfl) (by kernel_rfl) (by kernel_rfl) (by kernel_rfl) (by kernel_rfl) (by kernel_rfl) (by simp) rfl rfl rfl hbe HE2.out HRR.out ?_
 intro V w3 hall g8 hE3 hg3
 have HE3 := hide hE3
 have HG3 := hide hg3
 obtain ⟨v0, g0'⟩ := hall 0 (by omega)
 obtain ⟨v1, g1'⟩ := hall 1 (by omega)
 obtain ⟨v2, g2'⟩ := hall 2 (by omega)
 obtain ⟨v3, g3'⟩ := hall 3 (by omega)
 obtain ⟨v4, g4'⟩ := hall 4 (by omega)
 obtain ⟨v5, g5'⟩ := hall 5 (by omega)
 obtain ⟨v6, g6'⟩ := hall 6 (by omega)
 obtain ⟨v7, g7'⟩ := hall 7 (by omega)
 simp only [actG, List.size_toArray, List.length_cons, List.length_nil, List.getElem?_toArray, List.getElem?_cons_zero, List.getElem?_cons_succ, g0', g1', g2', g3', g4', g5', g6', g7', g8, Act.put, List.setIfInBounds_toArray, List.set_cons_zero, List.set_cons_succ]
 clear g0' g1' g2' g3' g4' g5' g6' g7'
 clear hall hE3 hg3
 obtain ⟨q0, q1, q2, q3, q4, q5, q6, q7, q8⟩ := HE3.out.ev
 go_wp2_with fail
 refine bodyPost_ret (v := .tuple #[evv e (.slice xa e.levels.length xc) (.slice ya e.prev.length yc), .bool (ok && (e.kind == 3))]) (by simp [results, Tryz.results205, go_sem, q0, q1, q2, q3, q4, q5, q6, q7, q8]) rfl ?_
 have hb9 : Below w.heap.size w w3 := HB2.out.grown HG3.out HB2.out.size (fun q hq => by cases hq; omega)
 exact ⟨xa, xc, ya, yc, rfl, HX.out.below hb9, HY.out.below hb9, hb9⟩

end Go.Proofs.YtnkjjbpmdghcbaaGreat

namespace Go.Proofs.YtnkjjbpmdghcbaaGreat
open Go.RowKit P1 P3 P5 P9 P11 P12 P14 P15 K
set_option linter.unusedVariables false
set_option linter.unusedSimpArgs false

theorem scMade_kn (es : List EvV) (s : St) (u : Int) : scMade es s u = (((scKn es s 1).2 && ((scKn es s 1).1.kind == 1)) && ((scKn es s 1).1.sender == u)) := by
 unfold scMade
 rw [scKn_eq]
 cases scEv es s 1 with
 | none => rfl
 | some c => rfl

theorem scLev_kn (es : List EvV) (s : St) (u : Int) : scLev es s u = if inR u 1 5 then (if ((scKn es s 2).2 && ((scKn es s 2).1.kind == 3)) then (if ((scKn es s 2).1.levels.length : Int) < u then 0 else (scKn es s 2).1.levels.getD (u.toNat - 1) 0) else if scMade es s u then 100 else 0) else 0 := by
 unfold scLev
 rw [scKn_eq]
 cases scEv es s 2 with
 | none => rfl
 | some c =>
  by_cases h : c.kind = 3
  ·simp [h]
  ·simp [h]

set_option maxHeartbeats 2000000 in
theorem scMadeBy_any (b : Nat) (oa : Option Addr) (n cap : Nat) (es : List EvV) (s : St) (u : Int) (w : World) (hS : Scn w b oa n cap es s) :
  Calls Tryz.prog 206 #[scv b oa n cap, .int .i64 u] w fun r w' => r = .returned (.bool (scMade es s u)) ∧ Below w.heap.size w w' := by
 obtain ⟨W0, hW0⟩ : ∃ W0, w.alloc (.cells #[.map (some b), .slice oa n cap] 125) = W0 := ⟨_, rfl⟩
 obtain ⟨hb0, hR0⟩ := box_new hW0
 have HC := hide (scCreation_any b oa n cap es s W0 (hS.on hb0))
 have r0 := blk_cell hR0 0 rfl
 have r1 := blk_cell hR0 1 rfl
 have HB0 := hide hb0
 have HW0 := hide hW0
 rw [scMade_kn]
 generalize ((scKn es s 1).2 && ((scKn es s 1).1.kind == 1)) = ok at HC ⊢
 generalize (scKn es s 1).1 = e at HC ⊢
 clear hR0 hb0 hW0 hS
 go_enter Tryz.func206, Tryz.ntmps206
 go_upto_region 1 with fail
 rw [HW0.out]
 clear HW0
 cases ok
 all_goals
  go_wp2_with (go_at_call 154; (with_reducible refine HC.out.mono ?_); rintro r w1 ⟨xa, xc, ya, yc, rfl, hx, hy, hb1⟩)
  go_ret
  exact ⟨by first | rfl | simp, below_var (HB0.out.trans (hb1.mono HB0.out.size)) (.cells (evcells e.id e.kind e.sender e.user e.member e.depth (.slice xa e.levels.length xc) (.slice ya e.prev.length yc) e.text) 45)⟩

set_option maxHeartbeats 4000000 in
theorem scLevel_any (b : Nat) (oa : Option Addr) (n cap : Nat) (es : List EvV) (s : St) (u : Int) (w : World) (hS : Scn w b oa n cap es s) :
  Calls Tryz.prog 171 #[scv b oa n cap, .int .i64 u] w fun r w' => r = .returned (.int .i64 (scLev es s u)) ∧ Below w.heap.size w w' := by
 obtain ⟨W0, hW0⟩ : ∃ W0, w.alloc (.cells #[.map (some b), .slice oa n cap] 125) = W0 := ⟨_, rfl⟩
 obtain ⟨hb0, hR0⟩ := box_new hW0
 have HP := hide (scPower_any b oa n cap es s W0 (hS.on hb0))
 have HMB := hide (fun W (h : Below W0.heap.size W0 W) => scMadeBy_any b oa n cap es s u W ((hS.on hb0).on h))
 have HW := hide (fun w => within_any u 1 5 w)
 have r0 := blk_cell hR0 0 rfl
 have r1 := blk_cell hR0 1 rfl
 have hlr := blk_lt hR0
 have HB0 := hide hb0
 have HW0 := hide hW0
 rw [scLev_kn]
 generalize ((scKn es s 2).2 && ((scKn es s 2).1.kind == 3)) = ok at HP ⊢
 generalize (scKn es s 2).1 = e at HP ⊢
 generalize scMade es s u = md at HMB ⊢
 clear hR0 hb0 hW0 hS
 have HIN := hide (show inR u 1 5 = true → 1 ≤ u ∧ u ≤ 5 by intro h; simpa [inR] using h)
 rw [show (decide (1 ≤ u) && decide (u ≤ 5)) = inR u 1 5 from rfl] at HW
 cases hin : inR u 1 5
 ·rw [hin] at HW
  go_enter Tryz.func171, Tryz.ntmps171
  go_upto_region 1 with fail
  rw [HW0.out]
  go_wp2_with (go_at_call 162; (with_reducible refine (HW.out _).mono ?_); rintro r w9 ⟨rfl, rfl⟩)
  go_ret
  exact ⟨rfl, HB0.out⟩
 ·rw [hin] at HW
  obtain ⟨h1, h5⟩ := HIN.out hin
  cases ok
  ·cases md
   all_goals
    go_enter Tryz.func171, Tryz.ntmps171
    go_upto_region 1 with fail
    rw [HW0.out]
    go_upto_region 8 with (first
     | (go_at_call 162; (with_reducible refine (HW.out _).mono ?_); rintro r w9 ⟨rfl, rfl⟩)
     | (go_at_call 205; (with_reducible refine HP.out.mono ?_); rintro r w1 ⟨xa, xc, ya, yc, rfl, hx, hy, hb1⟩; have hlr1 := Nat.lt_of_lt_of_le hlr hb1.size; have s0 := (hb1.cell hlr).trans r0; have s1 := (hb1.cell hlr).trans r1))
    have hbv : Below W0.heap.size W0 (w1.alloc (.cells (evcells e.id e.kind e.sender e.user e.member e.depth (.slice xa e.levels.length xc) (.slice ya e.prev.length yc) e.text) 45)) := below_var hb1 _
    have HMB1 := hide (HMB.out _ hbv)
    have HBV := hide (HB0.out.trans (hbv.mono HB0.out.size))
    clear hx hy hb1 hbv
    go_wp2_with (go_at_call 206; (with_reducible refine HMB1.out.mono ?_); rintro r w3 ⟨rfl, hb3⟩)
    go_ret
    exact ⟨by first | rfl | simp, HBV.out.trans (hb3.mono HBV.out.size)⟩
  ·by_cases hlen : (e.levels.length : Int) < u
   ·rw [if_pos rfl, if_pos rfl, if_pos hlen]
    go_enter Tryz.func171, Tryz.ntmps171
    go_upto_region 1 with fail
    rw [HW0.out]
    go_wp2_with (first
     | (go_at_call 162; (with_reducible refine (HW.out _).mono ?_); rintro r w9 ⟨rfl, rfl⟩)
     | (go_at_call 205; (with_reducible refine HP.out.mono ?_); rintro r w1 ⟨xa, xc, ya, yc, rfl, hx, hy, hb1⟩; have hlr1 := Nat.lt_of_lt_of_le hlr hb1.size; have s0 := (hb1.cell hlr).trans r0; have s1 := (hb1.cell hlr).trans r1))
    go_ret
    exact ⟨rfl, below_var (HB0.out.trans (hb1.mono HB0.out.size)) (.cells (evcells e.id e.kind e.sender e.user e.member e.depth (.slice xa e.levels.length xc) (.slice ya e.prev.length yc) e.text) 45)⟩
   ·rw [if_pos rfl, if_pos rfl, if_neg hlen]
    obtain ⟨j, rfl⟩ : ∃ j : Nat, u = (j : Int) + 1 := ⟨u.toNat - 1, by omega⟩
    have hjl : j < e.levels.length := by omega
    have HGD := hide (show e.levels.getD (((j : Int) + 1).toNat - 1) 0 = e.levels[j] by
     rw [show ((j : Int) + 1).toNat - 1 = j by omega, List.getD_eq_getElem?_getD, List.getElem?_eq_getElem hjl]
     rfl)
    go_enter Tryz.func171, Tryz.ntmps171
    go_upto_region 1 with fail
    rw [HW0.out]
    go_upto_region 7 with (first
     | (go_at_call 162; (with_reducible refine (HW.out _).mono ?_); rintro r w9 ⟨rfl, rfl⟩)
     | (go_at_call 205; (with_reducible refine HP.out.mono ?_); rintro r w1 ⟨xa, xc, ya, yc, rfl, hx, hy, hb1⟩; have hlr1 := Nat.lt_of_lt_of_le hlr hb1.size; have s0 := (hb1.cell hlr).trans r0; have s1 := (hb1.cell hlr).trans r1))
    have hbA : Below w1.heap.size w1 (w1.alloc (.cells (evcells e.id e.kind e.sender e.user e.member e.depth (.slice xa e.levels.length xc) (.slice ya e.prev.length yc) e.text) 45)) := (Below.refl _ _).alloc (Nat.le_refl _) _
    obtain ⟨z, b2, q2, hz, hidx, hb2, c0, hwz⟩ := (hx.below hbA).get Tryz.underlying32 infoI j hjl
    have hze : z = e.levels[j] := by
     rw [List.getElem?_eq_getElem hjl] at hz
     exact (Option.some.inj hz).symm
    have HBV := hide (below_var (HB0.out.trans (hb1.mono HB0.out.size)) (.cells (evcells e.id e.kind e.sender e.user e.member e.depth (.slice xa e.levels.length xc) (.slice ya e.prev.length yc) e.text) 45))
    have HZE := hide hze
    clear hze hz hbA
    go_wp2_with fail
    go_ret
    exact ⟨by rw [HGD.out, ← HZE.out]; rfl, HBV.out⟩

end Go.Proofs.YtnkjjbpmdghcbaaGreat
