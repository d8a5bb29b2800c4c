/-
  Walks and mathematics of Msg20.
-/
import Derived.Test.YtmllcomppjkhhaaGreatDoorRDraw8
import Derived.Test.YtmllcomppjkhhaaGreatDoorRHeldMore
import Derived.Test.YtmllcomppjkhhaaGreatDoorRMsgA
namespace Go.Proofs.YtmllcomppjkhhaaGreatDoor.P18
end Go.Proofs.YtmllcomppjkhhaaGreatDoor.P18
namespace Go.Proofs.YtmllcomppjkhhaaGreatDoor.P3
end Go.Proofs.YtmllcomppjkhhaaGreatDoor.P3
namespace Go.Proofs.YtmllcomppjkhhaaGreatDoor
open Go.RowKit P1 P3 P9 P11 P12 P18 K
attribute [local go_sem ↓] Go.wp_at_zero Go.wp_at_succ
set_option linter.unusedVariables false
set_option linter.unusedSimpArgs false

theorem own_set15 {w : World} {base : Nat} {e : TypeId} {size : Nat} {v : Value} {n : Nat} {xs : List Value} (h : w.ownsRow base e size v n xs) {p k : Nat} {u : Value} (hne : ∀ g, v.ownBlock = some g → g ≠ p) : (w.setCell ⟨p, k, none⟩ u).ownsRow base e size v n xs := by
  refine h.kept (blk_grown w p k u) ?_
  cases hv : v.ownBlock with
  | none => exact Or.inl rfl
  | some g => exact Or.inr (fun e => hne g hv (Option.some.inj e))

theorem wp_append_ent15 {w : World} {o : Oper} {a : Act} {K : Act → World → Prop} {Q : Exit → Act → World → Prop} (s x : Operand)
    (ho : o.op = .call { callee := .builtin .append, args := #[s, x], argTypes := #[24, 24] }) (base : Nat) (v : Value) (m : Nat) (xs : List EntV) (hs : a.eval s = v) (hown : w.ownsRow base 56 3 v m (xs.flatMap ecells)) (hm : m ≤ 1048576) (hbase : base ≤ w.heap.size) (b c : Nat) (e : EntV) (hx : a.eval x = .slice (some ⟨b, 0, none⟩) 1 c) (hbk : w.heap[b]? = some (.cells #[.int .i64 e.term, .int .i64 e.kind, .string e.data] 56 (0, 0)))
    (h : ∀ v' w', w'.ownsRow base 56 3 v' (m + 1) ((xs ++ [e]).flatMap ecells) → w.grownBy w' v.ownBlock → K (a.put o.dst v') w') : o.wp Tryz.prog a w K Q := by
  obtain ⟨i0, hi, hz0, hz1, hz2⟩ := info_parts infoIEz
  refine wp_append_own w s x 24 ho base 56 i0 _ 3 32 Tryz.underlying24 hi hz0 hz1 hz2 rfl (by decide) v m _ hs hown ⟨b, 0, none⟩ 1 c (ecells e) hx rfl (World.news_of_block hbk) (ecells_one e) (by unfold maxLen; omega) (by omega) hbase ?_
  intro v' w' h1 h2 _
  refine h v' w' ?_ h2
  have hflat : (xs ++ [e]).flatMap ecells = xs.flatMap ecells ++ ecells e := by simp
  rw [hflat]
  exact h1

abbrev ZM15 : Array Value := #[.int .i64 0, .int .i64 0, .int .i64 0, .int .i64 0, .int .i64 0, .int .i64 0, .int .i64 0, .bool false, .slice none 0 0, .slice none 0 0, .string ⟨#[]⟩, .bool false]

structure MgD (B p : Nat) (a : Option Addr) (len cap : Nat) (w : World) (b : Nat) (X : Array Value) (v vp : Value) (es : List EntV) (zs : List Int) (wr : World) : Prop where
  rv : RvV B p a len cap w ZM15 27 b X 27 wr
  own : wr.ownsRow (w.heap.size + 1) 56 3 v es.length (es.flatMap ecells)
  con : wr.ownsRow (w.heap.size + 1) 3 1 vp zs.length (zs.map icell)

theorem row_off {w : World} {base : Nat} {e : TypeId} {size : Nat} {v : Value} {n : Nat} {xs : List Value} (h : w.ownsRow base e size v n xs) {b : Nat} {X : Array Value} {T : TypeId} (hb : w.heap[b]? = some (.cells X T (0, 0))) (hT : T ≠ e) : ∀ g, v.ownBlock = some g → g ≠ b := by
  rcases h.2 with ⟨rfl, -⟩ | ⟨g, cap, cur, rfl, -, hgb, -⟩
  · intro g hg; cases hg
  · intro q hq e1
    cases hq
    subst e1
    rw [hgb] at hb
    cases hb
    exact hT rfl

theorem rows_off {w : World} {base base' : Nat} {e e' : TypeId} {k k' : Nat} {v v' : Value} {n n' : Nat} {xs xs' : List Value} (h : w.ownsRow base e k v n xs) (h' : w.ownsRow base' e' k' v' n' xs') (he : e ≠ e') : ∀ g, v.ownBlock = some g → v'.ownBlock ≠ some g := by
  rcases h.2 with ⟨rfl, -⟩ | ⟨g, cap, cur, rfl, -, hgb, -⟩
  · intro g hg; cases hg
  · intro q hq e1
    cases hq
    rcases h'.2 with ⟨rfl, -⟩ | ⟨g', cap', cur', rfl, -, hgb', -⟩
    · cases e1
    · cases e1
      rw [hgb] at hgb'
      cases hgb'
      exact he rfl

section
variable {B p : Nat} {a : Option Addr} {len cap : Nat} {w : World} {b : Nat} {X : Array Value} {v vp v' vp' : Value} {es fs : List EntV} {zs ys : List Int} {w1 w2 : World}

theorem MgD.size (h : MgD B p a len cap w b X v vp es zs w1) : B ≤ w1.heap.size ∧ w.heap.size + 1 ≤ w1.heap.size := by
  have h1 := h.rv.rs.hB
  have h2 := h.rv.rs.size
  omega

theorem own_drawn15 {e : TypeId} {k n : Nat} {xs : List Value} (ho : w1.ownsRow (w.heap.size + 1) e k v n xs) (hp : p < w.heap.size) (hg : w1.grownBy w2 (some p)) : w2.ownsRow (w.heap.size + 1) e k v n xs :=
  ho.kept hg (by
    cases hv : v.ownBlock with
    | none => exact Or.inl rfl
    | some g =>
      right
      intro e1
      cases e1
      have := (ho.lt _ hv).1
      omega)

theorem MgD.drawn (h : MgD B p a len cap w b X v vp es zs w1) (hc : CurAt B w2 p a len cap) (hg : w1.grownBy w2 (some p)) : MgD B p a len cap w b X v vp es zs w2 :=
  ⟨h.rv.drawn hc hg, own_drawn15 h.own h.rv.rs.hp hg, own_drawn15 h.con h.rv.rs.hp hg⟩

theorem MgD.on (h : MgD B p a len cap w b X v vp es zs w1) (hb : Below w1.heap.size w1 w2) : MgD B p a len cap w b X v vp es zs w2 := ⟨h.rv.on hb, own_below h.own hb, own_below h.con hb⟩

theorem MgD.put (h : MgD B p a len cap w b X v vp es zs w1) (k : Nat) (x : Value) : MgD B p a len cap w b (X.setIfInBounds k x) v vp es zs (w1.setCell ⟨b, k, none⟩ x) :=
  ⟨h.rv.put k [x], own_set15 h.own (row_off h.own h.rv.xb (by decide)), own_set15 h.con (row_off h.con h.rv.xb (by decide))⟩

theorem MgD.row (h : MgD B p a len cap w b X v vp es zs w1) (ho : w2.ownsRow (w.heap.size + 1) 56 3 v' fs.length (fs.flatMap ecells)) (hg : w1.grownBy w2 v.ownBlock) : MgD B p a len cap w b X v' vp fs zs w2 := by
  have hp := h.rv.rs.hp
  have hB := h.rv.rs.hB
  have hs := h.rv.rs.size
  have hlo : ∀ g, v.ownBlock = some g → w.heap.size + 1 ≤ g := fun g hq => (h.own.lt g hq).1
  have hno : ∀ i, i ≤ w.heap.size → some i ≠ v.ownBlock := fun i hi e1 => by have := hlo i e1.symm; omega
  have hbel : Below B w1 w2 := (Below.refl B w1).grown hg (by omega) (fun k hk => by have := hlo k hk; omega)
  refine ⟨⟨⟨h.rv.rs.cur.kept hbel (hg.block p (by omega) (hno p (by omega))), ?_, (hg.block _ hs (hno _ (Nat.le_refl _))).trans h.rv.rs.rb, hp, hB⟩, (hg.block _ (blk_lt h.rv.xb) (fun e1 => ?_)).trans h.rv.xb, h.rv.hb⟩, ho, h.con.kept hg ?_⟩
  · exact ⟨hg.os.trans h.rv.rs.gr.os, hg.tape.trans h.rv.rs.gr.tape, hg.output.trans h.rv.rs.gr.output, Nat.le_trans h.rv.rs.gr.size hg.size, fun i hi hne => (hg.block i (by omega) (hno i (by omega))).trans (h.rv.rs.gr.block i hi hne)⟩
  · exact row_off h.own h.rv.xb (by decide) b e1.symm rfl
  · cases hq : vp.ownBlock with
    | none => exact Or.inl rfl
    | some g => exact Or.inr (fun e1 => rows_off h.con h.own (by decide) g hq e1.symm)

theorem MgD.conf (h : MgD B p a len cap w b X v vp es zs w1) (hd : Drawing B p a len cap w1 3 vp' ys.length (ys.map icell) w2) : MgD B p a len cap w b X v vp' es ys w2 :=
  let k := h.drawn hd.cur hd.grown
  ⟨k.rv, k.own, own_base hd.own h.size.2⟩

theorem MgD.lt (h : MgD B p a len cap w b X v vp es zs w1) : b < w1.heap.size := blk_lt h.rv.xb

theorem MgD.free (h : MgD B p a len cap w b X v vp es zs w1) (k : Nat) : w1.frozen? ⟨b, k, none⟩ = false := blk_free h.rv.xb k

theorem MgD.c12 {v0 v1 v2 v3 v4 v5 v6 v7 v8 v9 v10 v11 : Value} (h : MgD B p a len cap w b #[v0, v1, v2, v3, v4, v5, v6, v7, v8, v9, v10, v11] v vp es zs w1) : w1.cell? ⟨b, 0, none⟩ = some (v0) ∧ w1.cell? ⟨b, 1, none⟩ = some (v1) ∧ w1.cell? ⟨b, 2, none⟩ = some (v2) ∧ w1.cell? ⟨b, 3, none⟩ = some (v3) ∧ w1.cell? ⟨b, 4, none⟩ = some (v4) ∧ w1.cell? ⟨b, 5, none⟩ = some (v5) ∧ w1.cell? ⟨b, 6, none⟩ = some (v6) ∧ w1.cell? ⟨b, 7, none⟩ = some (v7) ∧ w1.cell? ⟨b, 8, none⟩ = some (v8) ∧ w1.cell? ⟨b, 9, none⟩ = some (v9) ∧ w1.cell? ⟨b, 10, none⟩ = some (v10) ∧ w1.cell? ⟨b, 11, none⟩ = some (v11) := xs12 (T := 27) h.rv.xb

theorem MgD.r12 (h : MgD B p a len cap w b X v vp es zs w1) : w1.cell? ⟨w.heap.size, 0, none⟩ = some (.int .i64 0) ∧ w1.cell? ⟨w.heap.size, 1, none⟩ = some (.int .i64 0) ∧ w1.cell? ⟨w.heap.size, 2, none⟩ = some (.int .i64 0) ∧ w1.cell? ⟨w.heap.size, 3, none⟩ = some (.int .i64 0) ∧ w1.cell? ⟨w.heap.size, 4, none⟩ = some (.int .i64 0) ∧ w1.cell? ⟨w.heap.size, 5, none⟩ = some (.int .i64 0) ∧ w1.cell? ⟨w.heap.size, 6, none⟩ = some (.int .i64 0) ∧ w1.cell? ⟨w.heap.size, 7, none⟩ = some (.bool false) ∧ w1.cell? ⟨w.heap.size, 8, none⟩ = some (.slice none 0 0) ∧ w1.cell? ⟨w.heap.size, 9, none⟩ = some (.slice none 0 0) ∧ w1.cell? ⟨w.heap.size, 10, none⟩ = some (.string ⟨#[]⟩) ∧ w1.cell? ⟨w.heap.size, 11, none⟩ = some (.bool false) := xs12 (T := 27) h.rv.rs.rb

theorem MgD.rf (h : MgD B p a len cap w b X v vp es zs w1) (k : Nat) : w1.frozen? ⟨w.heap.size, k, none⟩ = false := blk_free h.rv.rs.rb k

theorem own_setAll15 {e : TypeId} {k n : Nat} {u : Value} {xs : List Value} {q : Nat} (hne : ∀ g, u.ownBlock = some g → g ≠ q) : ∀ (vs : List Value) (o : Nat) (x : World), x.ownsRow (w.heap.size + 1) e k u n xs → (x.setCells q o vs).ownsRow (w.heap.size + 1) e k u n xs
  | [], _, _, h => h
  | _ :: r, o, x, h => own_setAll15 hne r (o + 1) _ (own_set15 h hne)

theorem setM15 (v0 v1 v2 v3 v4 v5 v6 v7 v8 v9 v10 v11 : Value) : setArr ZM15 0 [v0, v1, v2, v3, v4, v5, v6, v7, v8, v9, v10, v11] = #[v0, v1, v2, v3, v4, v5, v6, v7, v8, v9, v10, v11] := by
  simp [setArr, ZM15]

theorem MgD.ret {v0 v1 v2 v3 v4 v5 v6 v7 v8 v9 v10 v11 : Value} (h : MgD B p a len cap w b #[v0, v1, v2, v3, v4, v5, v6, v7, v8, v9, v10, v11] v vp es zs w1) (w9 : World) (hw : w9 = w1.setCells w.heap.size 0 [v0, v1, v2, v3, v4, v5, v6, v7, v8, v9, v10, v11]) :
    w9.heap[w.heap.size]? = some (.cells #[v0, v1, v2, v3, v4, v5, v6, v7, v8, v9, v10, v11] 27 (0, 0)) ∧ CurAt B w9 p a len cap ∧ w.grownBy w9 (some p) ∧ w9.ownsRow (w.heap.size + 1) 56 3 v es.length (es.flatMap ecells) ∧ w9.ownsRow (w.heap.size + 1) 3 1 vp zs.length (zs.map icell) := by
  subst hw
  obtain ⟨h1, h2, h3⟩ := h.rv.rs.ret [v0, v1, v2, v3, v4, v5, v6, v7, v8, v9, v10, v11]
  rw [setM15] at h1
  have hne : ∀ g, v.ownBlock = some g → g ≠ w.heap.size := fun g hg e1 => by have := (h.own.lt g hg).1; omega
  have hnc : ∀ g, vp.ownBlock = some g → g ≠ w.heap.size := fun g hg e1 => by have := (h.con.lt g hg).1; omega
  exact ⟨h1, h2, h3, own_setAll15 hne _ _ _ h.own, own_setAll15 hnc _ _ _ h.con⟩
end

def MgDr (B p : Nat) (a : Option Addr) (len cap N : Nat) (w : World) (e : Ending) (w' : World) : Prop :=
  ∃ (kd fr to tm ix lt cm : Int) (ok : Bool) (v vp : Value) (da : List UInt8) (la : Bool) (es : List EntV) (zs : List Int), es.length ≤ N ∧ (∀ f ∈ es, f.data.size ≤ 1000) ∧ ConfIn 5 0 5 zs ∧ da.length ≤ 100 ∧ e = .returned (mgval kd fr to tm ix lt cm ok v vp da la) ∧ CurAt B w' p a len cap ∧ w.grownBy w' (some p) ∧ w'.ownsRow (w.heap.size + 1) 56 3 v es.length (es.flatMap ecells) ∧ w'.ownsRow (w.heap.size + 1) 3 1 vp zs.length (zs.map icell)

theorem wrap15 {n : Int} (h : -1000000000 ≤ n ∧ n ≤ 1000000000) : IntKind.i64.wrap n = n ∧ wrap64 n = n := by
  constructor
  · rw [IntKind.wrap_i64]; omega
  · unfold wrap64; omega

end Go.Proofs.YtmllcomppjkhhaaGreatDoor
