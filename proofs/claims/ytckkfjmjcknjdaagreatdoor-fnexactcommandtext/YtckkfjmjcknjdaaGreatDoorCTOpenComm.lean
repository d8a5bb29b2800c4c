/-
  Walks and mathematics of OpenComm.
-/
import Derived.Test.YtckkfjmjcknjdaaGreatDoorCTEv2
namespace Go.Proofs.YtckkfjmjcknjdaaGreatDoor.P5
end Go.Proofs.YtckkfjmjcknjdaaGreatDoor.P5
namespace Go.Proofs.YtckkfjmjcknjdaaGreatDoor
open Go.RowKit Go.Deep Go.ChangeShapes Go.WideShapes P5 K
set_option linter.unusedVariables false

abbrev cmval (op tk sq id kd sn us mb dp : Int) (xl xp : Value) (tx : List UInt8) (ds up : Int) : Value := .agg #[.int .i64 op, .int .i64 tk, .int .i64 sq, .int .i64 id, .int .i64 kd, .int .i64 sn, .int .i64 us, .int .i64 mb, xl, .string ⟨tx.toArray⟩, xp, .int .i64 dp, .int .i64 ds, .int .i64 up]

set_option maxRecDepth 100000 in
theorem event_cells_in {H : Type} {enc : TypeId × Value → H} {W : World} {c0 c1 c2 c3 c4 c5 c6 c7 c8 : Value} {fuel : Nat} {x : DataW H × List MemPlace} (hf : DataW.trod enc Tryz.prog W 0 (fun _ => true) true fuel 24 [c0, c1, c2, c3, c4, c5, c6, c7, c8] = some x) :
    ∃ (id kd sn us mb dp : Int) (oa : Option Addr) (n cl : Nat) (tx : List UInt8) (ob : Option Addr) (m cp : Nat) (zl zp : List Int), c0 = .int .i64 id ∧ c1 = .int .i64 kd ∧ c2 = .int .i64 sn ∧ c3 = .int .i64 us ∧ c4 = .int .i64 mb ∧ c5 = .slice oa n cl ∧ c6 = .string ⟨tx.toArray⟩ ∧ c7 = .slice ob m cp ∧ c8 = .int .i64 dp ∧ IntsAt W oa n cl zl ∧ IntsAt W ob m cp zp ∧ tx.length ≤ maxLen := by
  obtain ⟨xs, n, _, _, _, hxl, hff⟩ := DataW.trod_struct Tryz.underlying24 hf
  have g0 := hff 0 _ rfl
  have g1 := hff 1 _ rfl
  have g2 := hff 2 _ rfl
  have g3 := hff 3 _ rfl
  have g4 := hff 4 _ rfl
  have g5 := hff 5 _ rfl
  have g6 := hff 6 _ rfl
  have g7 := hff 7 _ rfl
  have g8 := hff 8 _ rfl
  have cI : Tryz.prog.cellsOf 3 = 1 := by kernel_rfl
  have cL : Tryz.prog.cellsOf 22 = 1 := by kernel_rfl
  have cS : Tryz.prog.cellsOf 9 = 1 := by kernel_rfl
  match xs, hxl with
  | [y0, y1, y2, y3, y4, y5, y6, y7, y8], _ =>
    simp [cI, cL, cS] at g0 g1 g2 g3 g4 g5 g6 g7 g8
    obtain ⟨k0, e0, _, m0⟩ := DataW.trod_int Tryz.underlying3 g0
    obtain ⟨k1, e1, _, m1⟩ := DataW.trod_int Tryz.underlying3 g1
    obtain ⟨k2, e2, _, m2⟩ := DataW.trod_int Tryz.underlying3 g2
    obtain ⟨k3, e3, _, m3⟩ := DataW.trod_int Tryz.underlying3 g3
    obtain ⟨k4, e4, _, m4⟩ := DataW.trod_int Tryz.underlying3 g4
    obtain ⟨k8, e8, _, m8⟩ := DataW.trod_int Tryz.underlying3 g8
    obtain ⟨s6, e6, _, m6⟩ := DataW.trod_string Tryz.underlying9 g6
    cases e0; cases e1; cases e2; cases e3; cases e4; cases e8; cases e6
    rcases open_ints Tryz.underlying22 Tryz.underlying3 (by kernel_rfl) g5 with ⟨hcs, _⟩ | ⟨x, l, c, zs, hcs, _, hl, hm, hz, _, hcell, hwz⟩
    · cases hcs
      rcases open_ints Tryz.underlying22 Tryz.underlying3 (by kernel_rfl) g7 with ⟨hcs, _⟩ | ⟨x', l', c', zs', hcs, _, hl', hm', hz', _, hcell', hwz'⟩
      · cases hcs
        exact ⟨k0, k1, k2, k3, k4, k8, none, 0, 0, s6.data.toList, none, 0, 0, [], [], rfl, rfl, rfl, rfl, rfl, rfl, rfl, rfl, rfl, ints_nil W, ints_nil W, by simpa using m6⟩
      · cases hcs
        exact ⟨k0, k1, k2, k3, k4, k8, none, 0, 0, s6.data.toList, some x', l', c', [], zs'.take l', rfl, rfl, rfl, rfl, rfl, rfl, rfl, rfl, rfl, ints_nil W, ints_of hl' hm' (by simpa using hz') hcell' hwz', by simpa using m6⟩
    · cases hcs
      rcases open_ints Tryz.underlying22 Tryz.underlying3 (by kernel_rfl) g7 with ⟨hcs, _⟩ | ⟨x', l', c', zs', hcs, _, hl', hm', hz', _, hcell', hwz'⟩
      · cases hcs
        exact ⟨k0, k1, k2, k3, k4, k8, some x, l, c, s6.data.toList, none, 0, 0, zs.take l, [], rfl, rfl, rfl, rfl, rfl, rfl, rfl, rfl, rfl, ints_of hl hm (by simpa using hz) hcell hwz, ints_nil W, by simpa using m6⟩
      · cases hcs
        exact ⟨k0, k1, k2, k3, k4, k8, some x, l, c, s6.data.toList, some x', l', c', zs.take l, zs'.take l', rfl, rfl, rfl, rfl, rfl, rfl, rfl, rfl, rfl, ints_of hl hm (by simpa using hz) hcell hwz, ints_of hl' hm' (by simpa using hz') hcell' hwz', by simpa using m6⟩

set_option maxRecDepth 100000 in
theorem command_in {H : Type} {enc : TypeId × Value → H} {W : World} {r : Reach} {b0 : Nat} {v : Value} {d : DataW H} {p : List MemPlace} (hv : Value.okWide Tryz.prog W r b0 26 v) (h : DataW.Trod enc Tryz.prog W 0 (fun _ => true) true 26 v d p) :
    ∃ (op tk sq id kd sn us mb dp : Int) (oa : Option Addr) (n cl : Nat) (tx : List UInt8) (ob : Option Addr) (m cp : Nat) (zl zp : List Int) (ds up : Int), v = cmval op tk sq id kd sn us mb dp (.slice oa n cl) (.slice ob m cp) tx ds up ∧ IntsAt W oa n cl zl ∧ IntsAt W ob m cp zp ∧ tx.length ≤ maxLen := by
  obtain ⟨cs, rfl, hsz⟩ := okWide_struct Tryz.underlying26 hv
  have cJ : Tryz.prog.cellsOf 26 = 14 := by kernel_rfl
  rw [cJ] at hsz
  obtain ⟨d0, d1, d2, c0, c1, c2, c3, c4, c5, c6, c7, c8, d3, d4, rfl⟩ : ∃ d0 d1 d2 c0 c1 c2 c3 c4 c5 c6 c7 c8 d3 d4, cs = #[d0, d1, d2, c0, c1, c2, c3, c4, c5, c6, c7, c8, d3, d4] := by
    obtain ⟨l⟩ := cs
    match l, hsz with
    | [d0, d1, d2, c0, c1, c2, c3, c4, c5, c6, c7, c8, d3, d4], _ => exact ⟨d0, d1, d2, c0, c1, c2, c3, c4, c5, c6, c7, c8, d3, d4, rfl⟩
  obtain ⟨fuel, hf⟩ := h
  obtain ⟨xs, n, _, _, _, hxl, hff⟩ := DataW.trod_struct Tryz.underlying26 hf
  have g0 := hff 0 _ rfl
  have g1 := hff 1 _ rfl
  have g2 := hff 2 _ rfl
  have g3 := hff 3 _ rfl
  have g4 := hff 4 _ rfl
  have g5 := hff 5 _ rfl
  have cI : Tryz.prog.cellsOf 3 = 1 := by kernel_rfl
  have cE : Tryz.prog.cellsOf 24 = 9 := by kernel_rfl
  match xs, hxl with
  | [y0, y1, y2, y3, y4, y5], _ =>
    simp [cI, cE, Value.cells] at g0 g1 g2 g3 g4 g5
    obtain ⟨k0, e0, _, m0⟩ := DataW.trod_int Tryz.underlying3 g0
    obtain ⟨k1, e1, _, m1⟩ := DataW.trod_int Tryz.underlying3 g1
    obtain ⟨k2, e2, _, m2⟩ := DataW.trod_int Tryz.underlying3 g2
    obtain ⟨k4, e4, _, m4⟩ := DataW.trod_int Tryz.underlying3 g4
    obtain ⟨k5, e5, _, m5⟩ := DataW.trod_int Tryz.underlying3 g5
    cases e0; cases e1; cases e2; cases e4; cases e5
    obtain ⟨id, kd, sn, us, mb, dp, oa, n', cl, tx, ob, m, cp, zl, zp, rfl, rfl, rfl, rfl, rfl, rfl, rfl, rfl, rfl, h1, h2, h3⟩ := event_cells_in g3
    exact ⟨k0, k1, k2, id, kd, sn, us, mb, dp, oa, n', cl, tx, ob, m, cp, zl, zp, k4, k5, rfl, h1, h2, h3⟩

end Go.Proofs.YtckkfjmjcknjdaaGreatDoor
