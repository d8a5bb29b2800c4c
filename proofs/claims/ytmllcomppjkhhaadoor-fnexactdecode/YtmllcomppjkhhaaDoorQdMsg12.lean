/-
  Walks and mathematics of Msg12.
-/
import Derived.Test.YtmllcomppjkhhaaDoorQdMsg11
namespace Go.Proofs.YtmllcomppjkhhaaDoor.P18
end Go.Proofs.YtmllcomppjkhhaaDoor.P18
namespace Go.Proofs.YtmllcomppjkhhaaDoor.P3
end Go.Proofs.YtmllcomppjkhhaaDoor.P3
namespace Go.Proofs.YtmllcomppjkhhaaDoor
open Go.RowKit P1 P3 P9 P11 P12 P18 K
set_option linter.unusedVariables false
set_option linter.unusedSimpArgs false

set_option maxRecDepth 100000 in
set_option maxHeartbeats 4000000 in
theorem conv_any15 (k f t tm ix lt cm : Int) (w : World) :
    Calls Tryd.prog 66 #[nv7 k f t tm ix lt cm] w fun e w' => e = .returned (mgval k f t tm ix lt cm false (.slice none 0 0) (.slice none 0 0) [] false) ∧ Below w.heap.size w w' := by
  have HB := hide (((Below.refl w.heap.size w).alloc (Nat.le_refl _) (.cells #[.int .i64 k, .int .i64 f, .int .i64 t, .int .i64 tm, .int .i64 ix, .int .i64 lt, .int .i64 cm] 50)).alloc (by simp) (.cells #[.int .i64 k, .int .i64 f, .int .i64 t, .int .i64 tm, .int .i64 ix, .int .i64 lt, .int .i64 cm, .bool false, .slice none 0 0, .slice none 0 0, .string ⟨#[]⟩, .bool false] 30))
  go_enter Tryd.func66, Tryd.ntmps66
  go_wp2_with fail
  refine bodyPost_ret (v := mgval k f t tm ix lt cm false (.slice none 0 0) (.slice none 0 0) [] false) (by simp [results, Tryd.results66, go_sem]) rfl ⟨rfl, ?_⟩
  repeat (refine Below.setCell ?_ (by simp) _)
  exact HB.out

structure MrS (w W : World) (g p : Nat) (s : ByteArray) (r : Lf) (cs : Array Value) : Prop where
  c : FRL W g s r
  x : XS p cs 30 W
  z : XS w.heap.size #[.int .i64 0, .int .i64 0, .int .i64 0, .int .i64 0, .int .i64 0, .int .i64 0, .int .i64 0, .bool false, .slice none 0 0, .slice none 0 0, .string ⟨#[]⟩, .bool false] 30 W
  gr : w.grownBy W (some g)
  hp : w.heap.size < p
  hg : g < w.heap.size

theorem MrS.step {w W W' : World} {g p : Nat} {s : ByteArray} {r r' : Lf} {cs : Array Value} (h : MrS w W g p s r cs) (hc : FRL W' g s r') (hg : W.grownBy W' (some g)) : MrS w W' g p s r' cs :=
  ⟨hc, h.x.kept hg (fun q => by have := Option.some.inj q; have := h.hg; have := h.hp; omega), h.z.kept hg (fun q => by have := Option.some.inj q; have := h.hg; omega), grown_trans h.gr hg, h.hp, h.hg⟩

theorem MrS.put {w W W' : World} {g p : Nat} {s : ByteArray} {r : Lf} {cs cs' : Array Value} (h : MrS w W g p s r cs) (hx : XS p cs' 30 W') (hg : W.grownBy W' (some p)) : MrS w W' g p s r cs' := by
  have h1 := h.hg
  have h2 := h.hp
  exact ⟨h.c.kept (hg.block g h.c.lt (fun q => by have := Option.some.inj q; omega)), hx, h.z.kept hg (fun q => by have := Option.some.inj q; omega), grown_low15 h.gr ((Below.refl _ _).grown hg h.gr.size (fun j hj => by cases hj; omega)), h2, h1⟩

theorem own_put15 {W W' : World} {B : Nat} {e : TypeId} {k n : Nat} {v : Value} {xs : List Value} {b : Nat} (h : W.ownsRow B e k v n xs) (hg : W.grownBy W' (some b)) (hlt : b < B) : W'.ownsRow B e k v n xs := h.kept hg (Or.inr (fun q => by have := h.lt b q; omega))

def MmPost (k f t tm ix lt cm : Nat) (ok : Bool) (es : List EntV) (zs : List Int) (da : List UInt8) (la : Bool) (r : Lf) (g : Nat) (s : ByteArray) (w : World) (e : Ending) (w' : World) : Prop :=
  ∃ ve vc, e = .returned (mgval k f t tm ix lt cm ok ve vc da la) ∧ FRL w' g s r ∧ MgOwn w' w.heap.size ve vc es.length zs.length es zs ∧ w.grownBy w' (some g)

set_option maxRecDepth 100000 in
set_option maxHeartbeats 8000000 in
theorem messageR_any15 (g : Nat) (s : ByteArray) (hs : s.size ≤ 1048576) (r : Lf) {k f t tm ix lt cm : Nat} {r1 r2 r3 r4 r5 r6 r7 r8 r9 r10 r11 r12 : Lf} {ok la : Bool} {es : List EntV} {zs : List Int} {da : List UInt8} (h1 : byteL r = (k, r1)) (h2 : byteL r1 = (f, r2)) (h3 : byteL r2 = (t, r3)) (h4 : numL r3 = (tm, r4)) (h5 : numL r4 = (ix, r5)) (h6 : numL r5 = (lt, r6)) (h7 : numL r6 = (cm, r7)) (h8 : flagI r7 = (ok, r8)) (h9 : flagI r8 = (la, r9)) (h10 : entriesI r9 = (es, r10)) (h11 : confI r10 = (zs, r11)) (h12 : shL 20000 r11 = (da, r12)) (w : World) (h : FRL w g s r) :
    Calls Tryd.prog 44 #[.pointer (some ⟨g, 0, none⟩)] w fun e w' => MmPost k f t tm ix lt cm ok es zs da la r12 g s w e w' := by
  have hgl := h.lt
  have HTD := hide (fun w h => told_any15 g s hs r h1 h2 h3 h4 h5 h6 h7 w h)
  have HF8 := hide (fun w h => flagR_any15 g s hs r7 w h)
  have HF9 := hide (fun w h => flagR_any15 g s hs r8 w h)
  have HE10 := hide (fun w h => entriesR_any15 g s hs r9 w h)
  have HC11 := hide (fun w h => confR_any15 g s hs r10 w h)
  have HS12 := hide (fun w h => short_any g s hs r11 w h)
  rw [h8] at HF8
  rw [h9] at HF9
  rw [h10] at HE10
  rw [h11] at HC11
  rw [h12] at HS12
  simp only at HF8 HF9 HE10 HC11 HS12
  have hbz := (Below.refl w.heap.size w).alloc (Nat.le_refl _) (.cells #[.int .i64 0, .int .i64 0, .int .i64 0, .int .i64 0, .int .i64 0, .int .i64 0, .int .i64 0, .bool false, .slice none 0 0, .slice none 0 0, .string ⟨#[]⟩, .bool false] 30)
  have HC0 := hide (h.kept (hbz.block g hgl))
  have HZ0 := hide (XS.new w #[.int .i64 0, .int .i64 0, .int .i64 0, .int .i64 0, .int .i64 0, .int .i64 0, .int .i64 0, .bool false, .slice none 0 0, .slice none 0 0, .string ⟨#[]⟩, .bool false] 30)
  have HG0 := hide (grown_below (row := some g) hbz)
  clear h h1 h2 h3 h4 h5 h6 h7 h8 h9 h10 h11 h12 hbz
  go_enter Tryd.func44, Tryd.ntmps44
  go_wp2_with fail
  generalize w.alloc (.cells #[.int .i64 0, .int .i64 0, .int .i64 0, .int .i64 0, .int .i64 0, .int .i64 0, .int .i64 0, .bool false, .slice none 0 0, .slice none 0 0, .string ⟨#[]⟩, .bool false] 30) = w0 at HC0 HZ0 HG0 ⊢
  refine (HTD.out _ HC0.out).mono ?_
  rintro e w1 ⟨rfl, hc1, hg1⟩
  have HC1 := hide hc1
  have HZ1 := hide (HZ0.out.kept hg1 (fun q => by have := Option.some.inj q; omega))
  have HG1 := hide (grown_trans HG0.out hg1)
  clear hc1 hg1 HC0 HZ0 HG0
  go_wp2_with fail
  refine (conv_any15 _ _ _ _ _ _ _ _).mono ?_
  rintro e w2 ⟨rfl, hb2⟩
  have HC2 := hide (HC1.out.kept (hb2.block g HC1.out.lt))
  have HZ2 := hide (HZ1.out.on hb2)
  have HG2 := hide (grown_low15 HG1.out (hb2.mono HG1.out.size))
  have hz2 := HZ2.out.lt
  clear hb2 HC1 HZ1 HG1
  have hbn := (Below.refl w2.heap.size w2).alloc (Nat.le_refl _) (.cells #[.int .i64 (k : Int), .int .i64 (f : Int), .int .i64 (t : Int), .int .i64 (tm : Int), .int .i64 (ix : Int), .int .i64 (lt : Int), .int .i64 (cm : Int), .bool false, .slice none 0 0, .slice none 0 0, .string ⟨#[]⟩, .bool false] 30)
  have HK0 := hide (show MrS w (w2.alloc (.cells #[.int .i64 (k : Int), .int .i64 (f : Int), .int .i64 (t : Int), .int .i64 (tm : Int), .int .i64 (ix : Int), .int .i64 (lt : Int), .int .i64 (cm : Int), .bool false, .slice none 0 0, .slice none 0 0, .string ⟨#[]⟩, .bool false] 30)) g w2.heap.size s r7 #[.int .i64 (k : Int), .int .i64 (f : Int), .int .i64 (t : Int), .int .i64 (tm : Int), .int .i64 (ix : Int), .int .i64 (lt : Int), .int .i64 (cm : Int), .bool false, .slice none 0 0, .slice none 0 0, .string ⟨#[]⟩, .bool false] from ⟨HC2.out.kept (hbn.block g HC2.out.lt), XS.new _ _ _, HZ2.out.alloc _, grown_low15 HG2.out (hbn.mono HG2.out.size), hz2, hgl⟩)
  clear hbn HC2 HZ2 HG2
  go_upto_region 2 with fail
  generalize w2.alloc (.cells #[.int .i64 (k : Int), .int .i64 (f : Int), .int .i64 (t : Int), .int .i64 (tm : Int), .int .i64 (ix : Int), .int .i64 (lt : Int), .int .i64 (cm : Int), .bool false, .slice none 0 0, .slice none 0 0, .string ⟨#[]⟩, .bool false] 30) = v0 at HK0 ⊢
  generalize w2.heap.size = p at HK0 hz2 ⊢
  go_wp2_with fail
  refine (HF8.out _ HK0.out.c).mono ?_
  rintro e x1 ⟨rfl, hc, hg⟩
  have G1 := hide (HK0.out.step hc hg)
  have HK1 := hide (show MrS w (x1.setCell ⟨p, 7, none⟩ (.bool ok)) g p s r8 #[.int .i64 (k : Int), .int .i64 (f : Int), .int .i64 (t : Int), .int .i64 (tm : Int), .int .i64 (ix : Int), .int .i64 (lt : Int), .int .i64 (cm : Int), .bool ok, .slice none 0 0, .slice none 0 0, .string ⟨#[]⟩, .bool false] from G1.out.put (G1.out.x.set 7 (.bool ok)) (blk_grown _ _ _ _))
  clear hc hg HK0
  have f7 := G1.out.x.free 7
  have c7 := G1.out.x.cell 7 (u := .bool false) rfl
  go_wp2_with fail
  clear f7 c7 G1
  generalize x1.setCell ⟨p, 7, none⟩ (.bool ok) = v1 at HK1 ⊢
  refine (HF9.out _ HK1.out.c).mono ?_
  rintro e x2 ⟨rfl, hc, hg⟩
  have G2 := hide (HK1.out.step hc hg)
  have HK2 := hide (show MrS w (x2.setCell ⟨p, 11, none⟩ (.bool la)) g p s r9 #[.int .i64 (k : Int), .int .i64 (f : Int), .int .i64 (t : Int), .int .i64 (tm : Int), .int .i64 (ix : Int), .int .i64 (lt : Int), .int .i64 (cm : Int), .bool ok, .slice none 0 0, .slice none 0 0, .string ⟨#[]⟩, .bool la] from G2.out.put (G2.out.x.set 11 (.bool la)) (blk_grown _ _ _ _))
  clear hc hg HK1
  have f7 := G2.out.x.free 11
  have c7 := G2.out.x.cell 11 (u := .bool false) rfl
  go_wp2_with fail
  clear f7 c7 G2
  generalize x2.setCell ⟨p, 11, none⟩ (.bool la) = v2 at HK2 ⊢
  refine (HE10.out _ HK2.out.c).mono ?_
  rintro e x3 ⟨ve, rfl, hc, ho, hg⟩
  obtain ⟨oa, cl, hve⟩ := row_form ho
  subst hve
  have G3 := hide (HK2.out.step hc hg)
  have HO3 := hide (own_put15 (own_base ho (show p + 1 ≤ v2.heap.size from HK2.out.x.lt)) (blk_grown x3 p 8 (.slice oa es.length cl)) (by omega))
  have HK3 := hide (show MrS w (x3.setCell ⟨p, 8, none⟩ (.slice oa es.length cl)) g p s r10 #[.int .i64 (k : Int), .int .i64 (f : Int), .int .i64 (t : Int), .int .i64 (tm : Int), .int .i64 (ix : Int), .int .i64 (lt : Int), .int .i64 (cm : Int), .bool ok, .slice oa es.length cl, .slice none 0 0, .string ⟨#[]⟩, .bool la] from G3.out.put (G3.out.x.set 8 (.slice oa es.length cl)) (blk_grown _ _ _ _))
  clear hc ho hg HK2
  have f7 := G3.out.x.free 8
  have c7 := G3.out.x.cell 8 (u := .slice none 0 0) rfl
  go_wp2_with fail
  clear f7 c7 G3
  generalize x3.setCell ⟨p, 8, none⟩ (.slice oa es.length cl) = v3 at HK3 HO3 ⊢
  refine (HC11.out _ HK3.out.c).mono ?_
  rintro e x4 ⟨vc, rfl, hc, ho, hg⟩
  obtain ⟨ob, cp, hvc⟩ := row_form ho
  subst hvc
  have G4 := hide (HK3.out.step hc hg)
  have HO4 := hide (own_put15 (own_put15 HO3.out hg (by omega)) (blk_grown x4 p 9 (.slice ob zs.length cp)) (by omega))
  have HI4 := hide (own_put15 (own_base ho (show p + 1 ≤ v3.heap.size from HK3.out.x.lt)) (blk_grown x4 p 9 (.slice ob zs.length cp)) (by omega))
  have HK4 := hide (show MrS w (x4.setCell ⟨p, 9, none⟩ (.slice ob zs.length cp)) g p s r11 #[.int .i64 (k : Int), .int .i64 (f : Int), .int .i64 (t : Int), .int .i64 (tm : Int), .int .i64 (ix : Int), .int .i64 (lt : Int), .int .i64 (cm : Int), .bool ok, .slice oa es.length cl, .slice ob zs.length cp, .string ⟨#[]⟩, .bool la] from G4.out.put (G4.out.x.set 9 (.slice ob zs.length cp)) (blk_grown _ _ _ _))
  clear hc ho hg HK3 HO3
  have f7 := G4.out.x.free 9
  have c7 := G4.out.x.cell 9 (u := .slice none 0 0) rfl
  go_wp2_with fail
  clear f7 c7 G4
  generalize x4.setCell ⟨p, 9, none⟩ (.slice ob zs.length cp) = v4 at HK4 HO4 HI4 ⊢
  refine (HS12.out _ HK4.out.c).mono ?_
  rintro e x5 ⟨rfl, hc, hg⟩
  have G5 := hide (HK4.out.step hc hg)
  have HO5 := hide (own_put15 (own_put15 HO4.out hg (by omega)) (blk_grown x5 p 10 (.string ⟨da.toArray⟩)) (by omega))
  have HI5 := hide (own_put15 (own_put15 HI4.out hg (by omega)) (blk_grown x5 p 10 (.string ⟨da.toArray⟩)) (by omega))
  have HK5 := hide (show MrS w (x5.setCell ⟨p, 10, none⟩ (.string ⟨da.toArray⟩)) g p s r12 #[.int .i64 (k : Int), .int .i64 (f : Int), .int .i64 (t : Int), .int .i64 (tm : Int), .int .i64 (ix : Int), .int .i64 (lt : Int), .int .i64 (cm : Int), .bool ok, .slice oa es.length cl, .slice ob zs.length cp, .string ⟨da.toArray⟩, .bool la] from G5.out.put (G5.out.x.set 10 (.string ⟨da.toArray⟩)) (blk_grown _ _ _ _))
  clear hc hg HK4 HO4 HI4
  have f7 := G5.out.x.free 10
  have c7 := G5.out.x.cell 10 (u := .string ⟨#[]⟩) rfl
  go_upto_region 7 with fail
  clear f7 c7 G5
  generalize x5.setCell ⟨p, 10, none⟩ (.string ⟨da.toArray⟩) = v5 at HK5 HO5 HI5 ⊢
  obtain ⟨k0, k1, k2, k3, k4, k5, k6, k7, k8, k9, k10, k11⟩ := xs12 HK5.out.x
  have y0 := HK5.out.z.free 0
  have y1 := HK5.out.z.free 1
  have y2 := HK5.out.z.free 2
  have y3 := HK5.out.z.free 3
  have y4 := HK5.out.z.free 4
  have y5 := HK5.out.z.free 5
  have y6 := HK5.out.z.free 6
  have y7 := HK5.out.z.free 7
  have y8 := HK5.out.z.free 8
  have y9 := HK5.out.z.free 9
  have y10 := HK5.out.z.free 10
  have y11 := HK5.out.z.free 11
  obtain ⟨zz0, zz1, zz2, zz3, zz4, zz5, zz6, zz7, zz8, zz9, zz10, zz11⟩ := xs12 HK5.out.z
  go_wp2_with fail
  obtain ⟨w6, hw6, hR6, hg6⟩ := sets12 HK5.out.z (.int .i64 (k : Int)) (.int .i64 (f : Int)) (.int .i64 (t : Int)) (.int .i64 (tm : Int)) (.int .i64 (ix : Int)) (.int .i64 (lt : Int)) (.int .i64 (cm : Int)) (.bool ok) (.slice oa es.length cl) (.slice ob zs.length cp) (.string ⟨da.toArray⟩) (.bool la)
  rw [hw6]
  clear hw6
  obtain ⟨q0, q1, q2, q3, q4, q5, q6, q7, q8, q9, q10, q11⟩ := xs12 hR6
  refine bodyPost_ret (v := mgval k f t tm ix lt cm ok (.slice oa es.length cl) (.slice ob zs.length cp) da la) (by simp [results, Tryd.results44, go_sem, q0, q1, q2, q3, q4, q5, q6, q7, q8, q9, q10, q11]) rfl ⟨_, _, rfl, ?_, ⟨?_, ?_⟩, ?_⟩
  · exact HK5.out.c.kept (hg6.block g HK5.out.c.lt (fun q => by have := Option.some.inj q; omega))
  · exact own_base (own_put15 HO5.out hg6 (by omega)) (by omega)
  · exact own_base (own_put15 HI5.out hg6 (by omega)) (by omega)
  · exact grown_low15 HK5.out.gr ((Below.refl _ _).grown hg6 HK5.out.gr.size (fun q hq => by cases hq; omega))

end Go.Proofs.YtmllcomppjkhhaaDoor
