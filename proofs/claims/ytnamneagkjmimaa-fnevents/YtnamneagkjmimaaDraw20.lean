/-
  Draws of chapter 9: an event that is drawn field by field: what is kept of it.
-/
import Derived.Test.YtnamneagkjmimaaDraw4
import Derived.Test.YtnamneagkjmimaaEv7
import Derived.Maps.AppendAt
namespace Go.Proofs.Ytnamneagkjmimaa
open Go.RowKit P1 P3 P9 P11 P12 K
set_option linter.unusedVariables false
set_option linter.unusedSimpArgs false

/-- 'out = append(out, x)' at a step of a region that draws its order: where the new row lies is told. -/
theorem step_push_at {P : Program} {w : World} {ops : Array Oper} {o : Oper} {a : Act} {K : Act → World → Prop} {Q : Exit → Act → World → Prop} {E : Prop} (hgd : o.guard = none) (s x : Operand) (t : TypeId)
    (ho : o.op = .call { callee := .builtin .append, args := #[s, x], argTypes := #[t, t] })
    {base : Nat} {e : TypeId} {z : Value} {bytes : Nat} (ht : P.underlying t = some (.slice e)) (hi : (P.info? e).map (fun i => (i.zero, i.size, i.bytes)) = some (some z, 1, bytes)) (hzs : z.cells.size = 1)
    {v : Value} {n : Nat} {xs : List Value} (hs : a.eval s = v) (hown : w.ownsRow base e 1 v n xs)
    {b m c : Nat} {cs : Array Value} (hx : a.eval x = .slice (some ⟨b, 0, none⟩) m c) (hm : cs.toList.length = m) (hb : w.heap[b]? = some (.cells cs e (0, 0))) (hu : ∀ u ∈ cs.toList, u.oneCell' = true)
    (hbase : base ≤ w.heap.size) (h63 : n + m ≤ maxLen) (hbytes : (n + m) * bytes ≤ 140737488355328)
    (h : ∀ v' w', w'.ownsRow base e 1 v' (n + m) (xs ++ cs.toList) → w.grownBy w' v.ownBlock → (v'.ownBlock = v.ownBlock ∨ v'.ownBlock = some w.heap.size) → K (a.put o.dst v') w') :
    if Region.wanted o (yielded ops a.tmps) = true then Oper.wp P o a w K Q else E := by
  obtain ⟨i, hi, hz, h1, h2⟩ := info_parts hi
  have hw : Region.wanted o (yielded ops a.tmps) = true := by simp [Region.wanted, hgd]
  rw [if_pos hw]
  obtain ⟨v', w', hr, k2, k3, k4, k5⟩ := run_append_own_at (P := P) w base t o.type e i z 1 bytes ht hi hz h1 h2 hzs (by decide) v n xs hown ⟨b, 0, none⟩ m c cs.toList (by rw [hm]; omega) (World.news_of_block hb) hu h63 hbytes hbase
  unfold Oper.wp execOp
  simp only [ho, resolve, invoke, builtin, Sem.run_bind, Sem.run_pure, Result.andThen_ok, List.map_toArray, List.map_cons, List.map_nil, hs, hx, hr]
  exact h v' w' k2 k3 k5

/-- A drawn event in a variable at block b beside a cursor at p; a result at block R; the rows of its lists. -/
structure DE (B p : Nat) (a : Option Addr) (len cap : Nat) (w W : World) (R b : Nat) (id kd sn us mb dp : Int) (xl xp : Value) (tx : List UInt8) (vl vp : Value) (n m : Nat) (zl zp : List Int) : Prop where
  cur : CurAt B W p a len cap
  r : EB W R 0 0 0 0 0 0 (.slice none 0 0) (.slice none 0 0) []
  e : EB W b id kd sn us mb dp xl xp tx
  gr : w.grownBy W (some p)
  l : W.ownsRow w.heap.size 3 1 vl n (zl.map icell)
  q : W.ownsRow w.heap.size 3 1 vp m (zp.map icell)
  ne : ∀ k, vl.ownBlock = some k → vp.ownBlock ≠ some k
  hp : p < w.heap.size
  hB : B ≤ w.heap.size
  hR : w.heap.size ≤ R
  hb : w.heap.size ≤ b
  hne : R ≠ b
  fl : ∀ z ∈ zl, (Lit.int .i64 z).wf = true
  fp : ∀ z ∈ zp, (Lit.int .i64 z).wf = true

section
variable {B p : Nat} {a : Option Addr} {len cap : Nat} {w W W' : World} {R b : Nat} {id kd sn us mb dp : Int} {xl xp : Value} {tx : List UInt8} {vl vp : Value} {n m : Nat} {zl zp : List Int}
theorem DE.drawn (h : DE B p a len cap w W R b id kd sn us mb dp xl xp tx vl vp n m zl zp) (hc : CurAt B W' p a len cap) (hg : W.grownBy W' (some p)) : DE B p a len cap w W' R b id kd sn us mb dp xl xp tx vl vp n m zl zp :=
  ⟨hc, h.r.kept hg (fun q => by have := Option.some.inj q; have := h.hp; have := h.hR; omega), h.e.kept hg (fun q => by have := Option.some.inj q; have := h.hp; have := h.hb; omega), grown_trans h.gr hg,
    h.l.kept hg (Or.inr (fun q => by have := h.l.lt p q; have := h.hp; omega)), h.q.kept hg (Or.inr (fun q => by have := h.q.lt p q; have := h.hp; omega)), h.ne, h.hp, h.hB, h.hR, h.hb, h.hne, h.fl, h.fp⟩
theorem DE.on (h : DE B p a len cap w W R b id kd sn us mb dp xl xp tx vl vp n m zl zp) (hb : Below W.heap.size W W') : DE B p a len cap w W' R b id kd sn us mb dp xl xp tx vl vp n m zl zp :=
  ⟨h.cur.kept (hb.mono (Nat.le_trans h.hB h.gr.size)) (hb.block p h.cur.lt), h.r.on hb h.r.lt, h.e.on hb h.e.lt, grown_trans h.gr (grown_below hb), own_below h.l hb, own_below h.q hb, h.ne, h.hp, h.hB, h.hR, h.hb, h.hne, h.fl, h.fp⟩
theorem DE.grow (h : DE B p a len cap w W R b id kd sn us mb dp xl xp tx vl vp n m zl zp) (o : Obj) : DE B p a len cap w (W.alloc o) R b id kd sn us mb dp xl xp tx vl vp n m zl zp := h.on ((Below.refl _ _).alloc (Nat.le_refl _) o)
theorem DE.drew (h : DE B p a len cap w W R b id kd sn us mb dp xl xp tx vl vp n m zl zp) : DE B p a len cap w W.drew R b id kd sn us mb dp xl xp tx vl vp n m zl zp := h.on (Below.refl _ _).drew
theorem DE.put (h : DE B p a len cap w W R b id kd sn us mb dp xl xp tx vl vp n m zl zp) {id' kd' sn' us' mb' dp' : Int} {xl' xp' : Value} {tx' : List UInt8} {k : Nat} {v : Value}
    (he : EB (W.setCell ⟨b, k, none⟩ v) b id' kd' sn' us' mb' dp' xl' xp' tx') : DE B p a len cap w (W.setCell ⟨b, k, none⟩ v) R b id' kd' sn' us' mb' dp' xl' xp' tx' vl vp n m zl zp := by
  have hg := blk_grown W b k v
  have hlow : Below w.heap.size W (W.setCell ⟨b, k, none⟩ v) := (Below.refl _ _).setCell h.hb v
  exact ⟨h.cur.kept (hlow.mono h.hB) (hlow.block p h.hp), h.r.kept hg (fun q => h.hne (Option.some.inj q).symm), he, grown_low h.gr hlow, h.l.kept hg (Or.inr (ev_row h.e h.l (by decide))), h.q.kept hg (Or.inr (ev_row h.e h.q (by decide))), h.ne, h.hp, h.hB, h.hR, h.hb, h.hne, h.fl, h.fp⟩
theorem DE.pushL (h : DE B p a len cap w W R b id kd sn us mb dp xl xp tx vl vp n m zl zp) {vl' : Value} {n' : Nat} {zl' : List Int} (ho : W'.ownsRow w.heap.size 3 1 vl' n' (zl'.map icell)) (hg : W.grownBy W' vl.ownBlock) (hor : vl'.ownBlock = vl.ownBlock ∨ vl'.ownBlock = some W.heap.size) (hf : ∀ z ∈ zl', (Lit.int .i64 z).wf = true) :
    DE B p a len cap w W' R b id kd sn us mb dp xl xp tx vl' vp n' m zl' zp := by
  have hlow : Below w.heap.size W W' := (Below.refl _ _).grown hg h.gr.size (fun k hk => (h.l.lt k hk).1)
  refine ⟨h.cur.kept (hlow.mono h.hB) (hlow.block p h.hp), h.r.kept hg (ev_row h.r h.l (by decide)), h.e.kept hg (ev_row h.e h.l (by decide)), grown_low h.gr hlow, ho, h.q.kept hg ?_, ?_, h.hp, h.hB, h.hR, h.hb, h.hne, hf, h.fp⟩
  · cases hq : vp.ownBlock with
    | none => exact Or.inl rfl
    | some j => exact Or.inr (fun q => h.ne j q.symm hq)
  · intro k hk hq
    rcases hor with hor | hor
    · exact h.ne k (hor ▸ hk) hq
    · have := (h.q.lt k hq).2
      rw [hor] at hk
      have := Option.some.inj hk
      omega
theorem DE.pushP (h : DE B p a len cap w W R b id kd sn us mb dp xl xp tx vl vp n m zl zp) {vp' : Value} {m' : Nat} {zp' : List Int} (ho : W'.ownsRow w.heap.size 3 1 vp' m' (zp'.map icell)) (hg : W.grownBy W' vp.ownBlock) (hor : vp'.ownBlock = vp.ownBlock ∨ vp'.ownBlock = some W.heap.size) (hf : ∀ z ∈ zp', (Lit.int .i64 z).wf = true) :
    DE B p a len cap w W' R b id kd sn us mb dp xl xp tx vl vp' n m' zl zp' := by
  have hlow : Below w.heap.size W W' := (Below.refl _ _).grown hg h.gr.size (fun k hk => (h.q.lt k hk).1)
  refine ⟨h.cur.kept (hlow.mono h.hB) (hlow.block p h.hp), h.r.kept hg (ev_row h.r h.q (by decide)), h.e.kept hg (ev_row h.e h.q (by decide)), grown_low h.gr hlow, h.l.kept hg ?_, ho, ?_, h.hp, h.hB, h.hR, h.hb, h.hne, h.fl, hf⟩
  · cases hq : vl.ownBlock with
    | none => exact Or.inl rfl
    | some j => exact Or.inr (fun q => h.ne j hq q.symm)
  · intro k hk hq
    rcases hor with hor | hor
    · exact h.ne k hk (hor ▸ hq)
    · have := (h.l.lt k hk).2
      rw [hor] at hq
      have := Option.some.inj hq
      omega
end

/-- A drawn event, handed back. -/
def EvD (N M : Nat) (B p : Nat) (a : Option Addr) (len cap : Nat) (w : World) (e : Ending) (w' : World) : Prop :=
  ∃ (id kd sn us mb dp : Int) (vl vp : Value) (tx : List UInt8) (n m : Nat) (zl zp : List Int), e = .returned (evval id kd sn us mb dp vl vp tx) ∧ n ≤ N ∧ m ≤ M ∧ tx.length ≤ 30 ∧ EvOwn w' w.heap.size vl vp n m zl zp ∧ (∀ z ∈ zl, (Lit.int .i64 z).wf = true) ∧ (∀ z ∈ zp, (Lit.int .i64 z).wf = true) ∧ CurAt B w' p a len cap ∧ w.grownBy w' (some p)

theorem icells_snoc (l : List Int) (n : Int) : l.map icell ++ [.int .i64 n] = (l ++ [n]).map icell := by simp [icell]
theorem wf_snoc {l : List Int} {z : Int} (h : ∀ y ∈ l, (Lit.int .i64 y).wf = true) (hz : -1000000000 ≤ z ∧ z ≤ 1000000000000) : ∀ y ∈ l ++ [z], (Lit.int .i64 y).wf = true := by
  intro y hy
  rcases List.mem_append.1 hy with hy | hy
  · exact h y hy
  · simp at hy; subst hy; exact wf_small hz.1 hz.2

theorem infoSt9 : (Try.prog.info? 9).map (·.size) = some 1 := by kernel_rfl

set_option maxHeartbeats 1000000 in
theorem l01Pick_e (B p : Nat) (a : Option Addr) (len cap : Nat) (g k : Nat) (ns : List (List UInt8)) (w : World) (hc : CurAt B w p a len cap) (h0 : 0 < k) (h1 : k ≤ 1000) (hgp : g ≠ p) (hns : ∀ j, j < k → ∃ l, ns[j]? = some l ∧ w.cell? ⟨g, j, none⟩ = some (.string ⟨l.toArray⟩)) :
    Calls Try.prog 69 #[.pointer (some ⟨p, 0, none⟩), .slice (some ⟨g, 0, none⟩) k k] w fun e w' => ∃ l : List UInt8, l ∈ ns ∧ e = .returned (.string ⟨l.toArray⟩) ∧ CurAt B w' p a len cap ∧ w.grownBy w' (some p) := by
  have HC := hide hc
  have HNS := hide hns
  clear hc hns
  go_enter Try.func69, Try.ntmps69
  go_wp2_with fail
  refine (l01Below_any B p a len cap k h0 (by omega) _ HC.out).mono ?_
  rintro e w1 ⟨x, hx, rfl, hc1, hg1⟩
  obtain ⟨l, hl, hcell⟩ := HNS.out x hx
  have c1 := hg1.cell hcell (fun e => hgp (Option.some.inj e))
  have hidx : ∀ wx, (Instr.indexAt 93 (.slice (some ⟨g, 0, none⟩) k k) (.int .i64 (x : Int))).run Try.prog wx = .ok (.pointer (some ⟨g, x, none⟩)) wx := fun wx => by
    have := run_indexAt_slice wx 93 9 1 Try.underlying93 infoSt9 g 0 k k x hx
    rwa [Nat.zero_add, Nat.mul_one] at this
  have HM := hide (List.mem_of_getElem? hl)
  have HC1 := hide hc1
  have HG1 := hide hg1
  clear hl hcell hc1 hg1 HC HNS
  go_wp2_with fail
  go_ret
  exact ⟨l, HM.out, rfl, HC1.out, HG1.out⟩

end Go.Proofs.Ytnamneagkjmimaa
