/-
  Walks and mathematics of MsgW.
-/
import Derived.Test.YtmllcomppjkhhaaDoorQbLit15
import Derived.Test.YtmllcomppjkhhaaDoorQbWalk9g
import Derived.Test.YtmllcomppjkhhaaDoorQbWalk1e
import Derived.Test.YtmllcomppjkhhaaDoorQbHeldMore
import Derived.Lib.AppendStr
import Derived.BigRegion
namespace Go.Proofs.YtmllcomppjkhhaaDoor.P18
end Go.Proofs.YtmllcomppjkhhaaDoor.P18
namespace Go.Proofs.YtmllcomppjkhhaaDoor.P3
end Go.Proofs.YtmllcomppjkhhaaDoor.P3
namespace Go.Proofs.YtmllcomppjkhhaaDoor
open Go.RowKit P1 P3 P9 P11 P12 P18 K
set_option linter.unusedVariables false
set_option linter.unusedSimpArgs false

theorem implShortText_list (l : List UInt8) (hl : l.length ≤ 20000) (w : World) :
    Calls Tryd.prog 75 #[.string ⟨l.toArray⟩] w fun e w' => e = .returned (.tuple #[.string ⟨(shortB l).toArray⟩, .bool true]) ∧ Below w.heap.size w w' := by
  have := implShortText_yes ⟨l.toArray⟩ hl w
  rw [size_mk8, cat_two8] at this
  exact this

theorem strCells_B8 (l : List UInt8) : Lib.strCells ⟨l.toArray⟩ = B8 l := by
  simp [Lib.strCells, B8]

theorem step_append_str {P : Program} {w : World} {ops : Array Oper} {o : Oper} {a : Act} {K : Act → World → Prop} {Q : Exit → Act → World → Prop} {E : Prop} (hgd : o.guard = none) (s x : Operand) (t u : TypeId)
    (ho : o.op = .call { callee := .builtin .append, args := #[s, x], argTypes := #[t, u] })
    {base : Nat} {e : TypeId} (ht : P.underlying t = some (.slice e)) (hu : P.underlying u = some .string) (hi : (P.info? e).map (fun i => (i.zero, i.size, i.bytes)) = some (some (.int .u8 0), 1, 1))
    {v : Value} {n : Nat} {xs : List Value} (hs : a.eval s = v) (hown : w.ownsRow base e 1 v n xs)
    {l : List UInt8} (hx : a.eval x = .string ⟨l.toArray⟩) (h63 : n + l.length ≤ 1000000000) (hbase : base ≤ w.heap.size)
    (h : ∀ v' w', w'.ownsRow base e 1 v' (n + l.length) (xs ++ B8 l) → w.grownBy w' v.ownBlock → K (a.put o.dst v') w') :
    if Region.wanted o (yielded ops a.tmps) = true then Oper.wp P o a w K Q else E := by
  obtain ⟨i, hi, hz, h1, h2⟩ := info_parts hi
  have hw : Region.wanted o (yielded ops a.tmps) = true := by simp [Region.wanted, hgd]
  rw [if_pos hw]
  have hsz : (⟨l.toArray⟩ : ByteArray).size = l.length := rfl
  obtain ⟨v', w', hr, r1, r2, -⟩ := Lib.run_append_own_string (P := P) w base t u o.type e i ht hu hi hz h1 h2 v n xs hown ⟨l.toArray⟩ (by unfold maxLen; rw [hsz]; omega) (by rw [hsz]; omega) hbase
  rw [hsz, strCells_B8] at r1
  unfold Oper.wp execOp
  simp only [ho, resolve, invoke, builtin, Sem.run_bind, Sem.run_pure, Result.andThen_ok, List.map_toArray, List.map_cons, List.map_nil, hs, hx, hr]
  exact h v' w' r1 r2

structure Tw (base g : Nat) (l : List UInt8) (w : World) : Prop where
  lo : base ≤ g
  blk : ∃ oa cap, w.heap[g]? = some (.cells #[.slice oa l.length cap] 68 (0, 0)) ∧ w.ownsRow base 5 1 (.slice oa l.length cap) l.length (B8 l)

structure TwFr (base g : Nat) (w w' : World) : Prop where
  bel : Below base w w'
  keep : ∀ (b : Nat) (cs : Array Value) (T : TypeId), b ≠ g → w.heap[b]? = some (.cells cs T (0, 0)) → T ≠ 5 → w'.heap[b]? = w.heap[b]?

theorem TwFr.trans {base g : Nat} {a b c : World} (h : TwFr base g a b) (k : TwFr base g b c) : TwFr base g a c :=
  ⟨h.bel.trans (k.bel), fun p cs T hp hb hT => by
    have h1 := h.keep p cs T hp hb hT
    exact (k.keep p cs T hp (h1.trans hb) hT).trans h1⟩

theorem TwFr.low {base g : Nat} {a b : World} (hB : base ≤ a.heap.size) (h : Below a.heap.size a b) : TwFr base g a b :=
  ⟨h.mono hB, fun p cs T _ hb _ => h.block p (blk_lt hb)⟩

theorem Tw.glt {base g : Nat} {l : List UInt8} {w : World} (h : Tw base g l w) : g < w.heap.size := by
  obtain ⟨_, _, hb, _⟩ := h.blk
  exact blk_lt hb

theorem Tw.bsz {base g : Nat} {l : List UInt8} {w : World} (h : Tw base g l w) : base ≤ w.heap.size := Nat.le_of_lt (Nat.lt_of_le_of_lt h.lo h.glt)

theorem Tw.on {base g : Nat} {l : List UInt8} {w w' : World} (h : Tw base g l w) (hb : Below w.heap.size w w') : Tw base g l w' := by
  obtain ⟨oa, cap, h1, h2⟩ := h.blk
  exact ⟨h.lo, oa, cap, (hb.block g (blk_lt h1)).trans h1, own_below h2 hb⟩

theorem Tw.drew {base g : Nat} {l : List UInt8} {w : World} (h : Tw base g l w) : Tw base g l w.drew := h.on (Below.refl _ _).drew

theorem Tw.alloc {base g : Nat} {l : List UInt8} {w : World} (h : Tw base g l w) (o : Obj) : Tw base g l (w.alloc o) := h.on ((Below.refl _ _).alloc (Nat.le_refl _) _)

theorem Tw.new (w : World) : Tw w.heap.size w.heap.size [] (w.alloc (.cells #[.slice none 0 0] 68)) :=
  ⟨Nat.le_refl _, none, 0, heap_alloc_new _ _, World.ownsRow_nil _ _ _ _⟩

theorem own_apart14 {w : World} {B : Nat} {e : TypeId} {k : Nat} {v : Value} {n : Nat} {xs : List Value} (h : w.ownsRow B e k v n xs) {g : Nat} {cs : Array Value} {e' : TypeId} {fz : Nat × Nat} (hb : w.heap[g]? = some (.cells cs e' fz)) (hne : e' ≠ e) : v.ownBlock ≠ some g := by
  intro hg
  rcases h.2 with ⟨rfl, _⟩ | ⟨g', cap, cur, rfl, _, hg', _⟩
  · cases hg
  · simp only [Value.ownBlock, Option.some.injEq] at hg
    subst hg
    rw [hg'] at hb
    cases hb
    exact hne rfl

theorem Tw.app {base g : Nat} {l k : List UInt8} {w w1 w2 : World} {oa : Option Addr} {cap : Nat} {oa' : Option Addr} {cap' : Nat} (hlo : base ≤ g)
    (hb : w.heap[g]? = some (.cells #[.slice oa l.length cap] 68 (0, 0))) (ho : w.ownsRow base 5 1 (.slice oa l.length cap) l.length (B8 l))
    (h1 : Below w.heap.size w w1) (h2 : w2.ownsRow base 5 1 (.slice oa' (l.length + k.length) cap') (l.length + k.length) (B8 l ++ B8 k)) (hg : w1.grownBy w2 (Value.slice oa l.length cap).ownBlock) :
    Tw base g (l ++ k) (w2.setCell ⟨g, 0, none⟩ (.slice oa' (l.length + k.length) cap')) ∧ TwFr base g w (w2.setCell ⟨g, 0, none⟩ (.slice oa' (l.length + k.length) cap')) := by
  have hlt := blk_lt hb
  have hb1 := (h1.block g hlt).trans hb
  have ho1 := own_below ho h1
  have hne := own_apart14 ho1 hb1 (by decide)
  have hb2 := (hg.block g (blk_lt hb1) (fun e => hne e.symm)).trans hb1
  have hset := blk_set (k := 0) (.slice oa' (l.length + k.length) cap') hb2
  refine ⟨⟨hlo, oa', cap', ?_, ?_⟩, ?_, ?_⟩
  · rw [List.length_append]
    exact hset
  · rw [List.length_append, B8_append]
    exact h2.kept (blk_grown w2 g 0 _) (Or.inr (fun e => own_apart14 h2 hb2 (by decide) e))
  · refine ((h1.mono (by omega)).grown hg (by have := h1.size; omega) (fun j hj => (ho1.lt j hj).1)).setCell (by simpa using hlo) _
  · intro b cs T hne' hbb hT
    have c1 := (h1.block b (blk_lt hbb)).trans hbb
    have c2 := (hg.block b (blk_lt c1) (fun e => own_apart14 ho1 c1 hT e.symm)).trans c1
    rw [(blk_grown w2 g 0 _).block b (blk_lt c2) (fun e => hne' (Option.some.inj e)), c2, hbb]

theorem XS.tw {h base g : Nat} {cs : Array Value} {T : TypeId} {w w' : World} (k : XS h cs T w) (hf : TwFr base g w w') (hne : h ≠ g) (hT : T ≠ 5) : XS h cs T w' := (hf.keep h cs T hne k hT).trans k

set_option maxRecDepth 100000 in
set_option maxHeartbeats 2000000 in
theorem numbers_any14 (base g : Nat) (l : List UInt8) (oa : Option Addr) (n cap : Nat) (zs : List Int) (hn : n ≤ 1000) (hz : ∀ z ∈ zs, 0 ≤ z ∧ z ≤ 1000000000) (hl : l.length ≤ 1000000) (w : World) (hT : Tw base g l w) (hat : IntsAt w oa n cap zs) :
    Calls Tryd.prog 59 #[.pointer (some ⟨g, 0, none⟩), .slice oa n cap] w fun e w' => e = .returned (.tuple #[]) ∧ Tw base g (l ++ zs.flatMap varZ) w' ∧ TwFr base g w w' := by
  have hsz := hT.bsz
  obtain ⟨ob, cp, hb, ho⟩ := hT.blk
  have hlo := hT.lo
  have hglt := blk_lt hb
  have c0 : w.cell? ⟨g, 0, none⟩ = some (.slice ob l.length cp) := blk_cell hb 0 rfl
  have f0 := blk_free hb 0
  have hlv := vars_len zs
  have hzl := hat.len
  have HV := hide (fun w hat => varsText_any oa n cap zs (by omega) hz w hat)
  have HA := hide hat
  have HB := hide hb
  have HO := hide ho
  have hkl : (zs.flatMap varZ).length ≤ 10000 := by omega
  clear hat hb ho hz hT hlv hzl
  generalize zs.flatMap varZ = k at HV hkl ⊢
  go_enter Tryd.func59, Tryd.ntmps59
  go_wp2_with fail
  go_region_law (first
    | (refine step_append_str (by rfl) _ _ 59 9 (by rfl) Tryd.underlying59 Tryd.underlying9 infoByte (by rfl) (by exact own_below HO.out hbd1) (by rfl) (by omega) (by have := hbd1.size; omega) ?_; intro v' w2 ho2 hg2; obtain ⟨ov, cv, rfl⟩ := row_form ho2; have c2 : w2.cell? ⟨g, 0, none⟩ = some (.slice ob l.length cp) := blk_cell ((hg2.block g (by have := hbd1.size; omega) (fun e => own_apart14 (own_below HO.out hbd1) ((hbd1.block g hglt).trans HB.out) (by decide) e.symm)).trans ((hbd1.block g hglt).trans HB.out)) 0 rfl; have f2 : w2.frozen? ⟨g, 0, none⟩ = false := blk_free ((hg2.block g (by have := hbd1.size; omega) (fun e => own_apart14 (own_below HO.out hbd1) ((hbd1.block g hglt).trans HB.out) (by decide) e.symm)).trans ((hbd1.block g hglt).trans HB.out)) 0)
    | (rw [if_pos (by rfl)]; go_simp; go_at_call 73; refine (HV.out _ (HA.out.below (Below.refl _ _).drew)).mono ?_; rintro e w1 ⟨rfl, hb1⟩; have hbd1 := (Below.refl w.heap.size w).drew.trans (hb1.mono (by simp)); have c1 := (hbd1.cell (p := ⟨g, 0, none⟩) hglt).trans c0))
  all_goals
    refine bodyPost_end (results_none rfl _ _ _) rfl ?_
    exact ⟨rfl, Tw.app hlo HB.out HO.out hbd1 ho2 hg2⟩

set_option maxRecDepth 100000 in
set_option maxHeartbeats 2000000 in
theorem oneBytes_any14 (base g : Nat) (l : List UInt8) (oa : Option Addr) (n cap : Nat) (zs : List Int) (hn : n ≤ 1000) (hz : ∀ z ∈ zs, 0 ≤ z ∧ z ≤ 255) (hl : l.length ≤ 1000000) (w : World) (hT : Tw base g l w) (hat : IntsAt w oa n cap zs) :
    Calls Tryd.prog 58 #[.pointer (some ⟨g, 0, none⟩), .slice oa n cap] w fun e w' => e = .returned (.tuple #[]) ∧ Tw base g (l ++ zs.map byB) w' ∧ TwFr base g w w' := by
  have hsz := hT.bsz
  obtain ⟨ob, cp, hb, ho⟩ := hT.blk
  have hlo := hT.lo
  have hglt := blk_lt hb
  have c0 : w.cell? ⟨g, 0, none⟩ = some (.slice ob l.length cp) := blk_cell hb 0 rfl
  have f0 := blk_free hb 0
  have hzl := hat.len
  have HV := hide (fun w hat => bytesText_any oa n cap zs (by omega) hz w hat)
  have HA := hide hat
  have HB := hide hb
  have HO := hide ho
  have hkl : (zs.map byB).length ≤ 10000 := by rw [List.length_map]; omega
  clear hat hb ho hz hT hzl
  generalize zs.map byB = k at HV hkl ⊢
  go_enter Tryd.func58, Tryd.ntmps58
  go_wp2_with fail
  go_region_law (first
    | (refine step_append_str (by rfl) _ _ 59 9 (by rfl) Tryd.underlying59 Tryd.underlying9 infoByte (by rfl) (by exact own_below HO.out hbd1) (by rfl) (by omega) (by have := hbd1.size; omega) ?_; intro v' w2 ho2 hg2; obtain ⟨ov, cv, rfl⟩ := row_form ho2; have c2 : w2.cell? ⟨g, 0, none⟩ = some (.slice ob l.length cp) := blk_cell ((hg2.block g (by have := hbd1.size; omega) (fun e => own_apart14 (own_below HO.out hbd1) ((hbd1.block g hglt).trans HB.out) (by decide) e.symm)).trans ((hbd1.block g hglt).trans HB.out)) 0 rfl; have f2 : w2.frozen? ⟨g, 0, none⟩ = false := blk_free ((hg2.block g (by have := hbd1.size; omega) (fun e => own_apart14 (own_below HO.out hbd1) ((hbd1.block g hglt).trans HB.out) (by decide) e.symm)).trans ((hbd1.block g hglt).trans HB.out)) 0)
    | (rw [if_pos (by rfl)]; go_simp; go_at_call 63; refine (HV.out _ (HA.out.below (Below.refl _ _).drew)).mono ?_; rintro e w1 ⟨rfl, hb1⟩; have hbd1 := (Below.refl w.heap.size w).drew.trans (hb1.mono (by simp)); have c1 := (hbd1.cell (p := ⟨g, 0, none⟩) hglt).trans c0))
  all_goals
    refine bodyPost_end (results_none rfl _ _ _) rfl ?_
    exact ⟨rfl, Tw.app hlo HB.out HO.out hbd1 ho2 hg2⟩

set_option maxRecDepth 100000 in
set_option maxHeartbeats 2000000 in
theorem short_any14 (base g : Nat) (l : List UInt8) (x : List UInt8) (hx : x.length ≤ 20000) (hl : l.length ≤ 1000000) (w : World) (hT : Tw base g l w) :
    Calls Tryd.prog 62 #[.pointer (some ⟨g, 0, none⟩), .string ⟨x.toArray⟩] w fun e w' => e = .returned (.tuple #[]) ∧ Tw base g (l ++ shortB x) w' ∧ TwFr base g w w' := by
  have hsz := hT.bsz
  obtain ⟨ob, cp, hb, ho⟩ := hT.blk
  have hlo := hT.lo
  have hglt := blk_lt hb
  have c0 : w.cell? ⟨g, 0, none⟩ = some (.slice ob l.length cp) := blk_cell hb 0 rfl
  have f0 := blk_free hb 0
  have HV := hide (fun w => implShortText_list x hx w)
  have hkl : (shortB x).length ≤ 20100 := by have := (shortB_length x).1; omega
  have HB := hide hb
  have HO := hide ho
  clear hb ho hT
  generalize shortB x = k at HV hkl ⊢
  obtain ⟨i0, hi, hz0, hz1, hz2⟩ := info_parts (P := Tryd.prog) infoByte
  go_enter Tryd.func62, Tryd.ntmps62
  go_wp2_with fail
  refine (HV.out _).mono ?_
  rintro e w1 ⟨rfl, hb1⟩
  have c1 := (hb1.cell (p := ⟨g, 0, none⟩) hglt).trans c0
  have hk0 : (⟨k.toArray⟩ : ByteArray).size = k.length := rfl
  go_wp2_with (at_builtin; refine Lib.wpList_append_own_string _ rfl _ _ 59 9 rfl base 5 i0 Tryd.underlying59 Tryd.underlying9 hi hz0 hz1 hz2 _ _ _ rfl (own_below HO.out hb1) ⟨k.toArray⟩ rfl ?c3 ?c4 ?c5 ?_)
  case c3 => unfold maxLen; rw [hk0]; omega
  case c4 => rw [hk0]; omega
  case c5 => have := hb1.size; omega
  intro v' w2 ho2 hg2 _
  rw [strCells_B8] at ho2
  obtain ⟨ov, cv, rfl⟩ := row_form ho2
  have hbb := (hg2.block g (by have := hb1.size; omega) (fun e => own_apart14 (own_below HO.out hb1) ((hb1.block g hglt).trans HB.out) (by decide) e.symm)).trans ((hb1.block g hglt).trans HB.out)
  have c2 : w2.cell? ⟨g, 0, none⟩ = some (.slice ob l.length cp) := blk_cell hbb 0 rfl
  have f2 := blk_free hbb 0
  clear hbb
  go_wp2_with fail
  refine bodyPost_end (results_none rfl _ _ _) rfl ?_
  exact ⟨rfl, Tw.app hlo HB.out HO.out hb1 ho2 hg2⟩

set_option maxHeartbeats 1000000 in
theorem written_any14 (base g : Nat) (l : List UInt8) (w : World) (hT : Tw base g l w) :
    Calls Tryd.prog 38 #[.pointer (some ⟨g, 0, none⟩)] w fun e w' => e = .returned (.string ⟨l.toArray⟩) ∧ w = w' := by
  obtain ⟨ob, cp, hb, ho⟩ := hT.blk
  have c0 : w.cell? ⟨g, 0, none⟩ = some (.slice ob l.length cp) := blk_cell hb 0 rfl
  have hconv := run_string_own (P := Tryd.prog) (src := 59) (dst := 9) Tryd.underlying59 Tryd.underlying5 Tryd.underlying9 ho
  clear hb ho hT
  go_enter Tryd.func38, Tryd.ntmps38
  go_wp2_with fail
  go_ret
  exact ⟨rfl, rfl⟩

end Go.Proofs.YtmllcomppjkhhaaDoor
