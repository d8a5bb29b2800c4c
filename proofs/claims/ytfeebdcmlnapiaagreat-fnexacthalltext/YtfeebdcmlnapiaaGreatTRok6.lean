/-
  Walks.
-/
import Derived.Test.YtfeebdcmlnapiaaGreatTSame1
set_option maxRecDepth 100000
set_option maxHeartbeats 8000000
set_option linter.unusedVariables false
set_option linter.unusedSimpArgs false
namespace Go.Proofs.YtfeebdcmlnapiaaGreat
open Go.RowKit Go.Maps P1 P5 P9 P11 P12 P14 P15 P16 P17 K
theorem zc8 {w W:World} {p:Nat} (h:Bw w W) (hp:w.heap.size≤p):Bw w (mask p W) :=
 ⟨h.os,h.tape,h.output,by rw[z1y];exact h.size,fun k hk=>by rw[z3l _ (by omega)];exact h.block k hk⟩

theorem za2 {p:Nat} {w w':World} {e:TypeId} {k:Nat} {v:Value} {n:Nat} {xs:Zvs} (ho:(mask p w).ownsRow 0 e k v n xs) {g:Nat} {cs:Array Value} (hg:w.grownBy w' (some g)) (hb:w.heap[g]? = some (.cells cs 32 (0,0))) (hgp:g≠p) (hp:p<w.heap.size) (hne:32≠e):(mask p w').ownsRow 0 e k v n xs:=by
 have hmb:(mask p w).heap[g]? = some (.cells cs 32 (0,0)):=(z3l w hgp).trans hb
 have hm:(mask p w).grownBy (mask p w') (some g):=⟨hg.os,hg.tape,hg.output,by rw[z1y,z1y];exact hg.size,fun k hk hne=>by
  rw[z1y] at hk
  by_cases e:k=p
  ·subst e
   rw[z5s hp,z5s (zLt hp hg.size)]
  ·rw[z3l _ e,z3l _ e]
   exact hg.block k hk hne⟩
 exact ho.kept hm (.inr (fun e2=>z1p ho e2 hmb hne))

abbrev z6l (gs:List Bool):Zvs:=gs.map fun b=>.bool b

structure RokS (w:World) (b bn:Nat) (rc:Array Value) (es:List EvV) (j:Nat) (ve vs vg:Value) (sts:List St) (gs':List Bool) (wr:World):Prop where
 bel:Bw w wr
 room:wr.heap[b]? = some (.cells rc 32 (0,0))
 now:wr.heap[bn]? = some (.cells #[ve,vs,vg] 32 (0,0))
 rt:RoomT b wr ve vs vg (es.take j) sts
 fl:(mask b wr).ownsRow 0 4 1 vg (es.take j).length (z6l gs')
 inv:RInv (es.take j) sts
 go:rmGo [] [] [] es=rmGo (es.take j) sts gs' (es.drop j)

theorem RokS.on {w:World} {b bn:Nat} {rc:Array Value} {es:List EvV} {j:Nat} {ve vs vg:Value} {sts:List St} {gs':List Bool} {wr w2:World} (h:RokS w b bn rc es j ve vs vg sts gs' wr) (hb:Bw wr w2):RokS w b bn rc es j ve vs vg sts gs' w2 :=
 ⟨zTr h.bel hb,(hb.block b (ze h.room)).trans h.room,(hb.block bn (ze h.now)).trans h.now,h.rt.on (z1r hb (ze h.room)),own_below h.fl (z1r hb (ze h.room)),h.inv,h.go⟩

theorem RokS.roomX {w:World} {b bn:Nat} {rc:Array Value} {es:List EvV} {j:Nat} {ve vs vg:Value} {sts:List St} {gs':List Bool} {wr:World} (h:RokS w b bn rc es j ve vs vg sts gs' wr):∃ xs ys,RoomX b wr ve vs vg (es.take j) sts xs ys (z6l gs'):=by
 obtain⟨⟨xs,h1,h2,h3⟩,⟨ys,h4,h5,h6⟩,_⟩:=h.rt
 exact⟨xs,ys,z3m h1 h2,h3,z3m h4 h5,h6,z3m h.fl (by intro u hu;obtain⟨g,_,rfl⟩:=List.mem_map.1 hu;rfl)⟩

theorem z8a {α:Type} {l:List α} {j:Nat} {x:α} (h:l[j]? = some x):l.take (j+1)=l.take j++[x]:=by
 rw[List.take_add_one,h];rfl

theorem RokS.next {w:World} {b bn:Nat} {rc:Array Value} {es:List EvV} {j:Nat} {ve vs vg ve' vs' vg':Value} {sts:List St} {gs':List Bool} {w3 w4:World} (h:RokS w b bn rc es j ve vs vg sts gs' w3) {e:EvV} (he:es[j]? = some e) (hok:z0l (es.take j) sts e=true) (hrt:RoomT b w3 ve' vs' vg' (es.take j++[e]) (sts++[z0s (es.take j) sts e])) (hfl:(mask b w3).ownsRow 0 4 1 vg' ((es.take j).length+1) (z6l gs'++[.bool (allowed (es.take j) (befS (es.take j) sts e.prev) e)])) (hg:w3.grownBy w4 (some bn)) (hn:w4.heap[bn]? = some (.cells #[ve',vs',vg'] 32 (0,0))) (hbn:bn≠b) (hwb:w.heap.size≤bn) (hcs:∀ u∈#[ve,vs,vg],∀ k n,u≠Value.int k n):RokS w b bn rc es (j+1) ve' vs' vg' (sts++[z0s (es.take j) sts e]) (gs'++[allowed (es.take j) (befS (es.take j) sts e.prev) e]) w4:=by
 have hbl:=ze h.room
 refine⟨h.bel.grown hg h.bel.size (fun k hk=>by cases hk;exact hwb),(hg.block b hbl (fun e=>hbn (zSi e).symm)).trans h.room,hn,?_,?_,?_,?_⟩
 ·rw[z8a he]
  exact hrt.off hg h.now hcs hbn hbl
 ·rw[z8a he,List.length_append]
  have:=za2 hfl hg h.now hbn hbl (by decide)
  unfold z6l
  rw[List.map_append]
  exact this
 ·rw[z8a he]
  exact h.inv.add hok (z99 (z4b hok).1)
 ·rw[h.go,z8u he,if_pos hok,z8a he]

theorem RokS.bad {w:World} {b bn:Nat} {rc:Array Value} {es:List EvV} {j:Nat} {ve vs vg:Value} {sts:List St} {gs':List Bool} {wr:World} (h:RokS w b bn rc es j ve vs vg sts gs' wr) {e:EvV} (he:es[j]? = some e) (hok:z0l (es.take j) sts e=false) {ss:List St} {gs:List Bool}:z0x es ss gs=false:=by
 refine z5y ?_
 rw[h.go,z8u he,if_neg (by rw[hok];decide)]

theorem zfx {w:World} {B:Nat} {v:Value} {gs':List Bool} {n:Nat} (h:w.ownsRow B 4 1 v n (z6l gs')):∃ og cg,v=.slice og n cg∧BoolsAt w og n cg gs':=by
 have hlen:gs'.length=n:=by have:=h.1;simpa [z6l] using this
 rcases h.2 with ⟨rfl,rfl⟩|⟨g,cap,cur,rfl,hb,hg,hnc,hcm,hcs,htake⟩
 ·have:gs'=[]:=List.eq_nil_of_length_eq_zero hlen
  subst this
  exact⟨none,0,rfl,⟨rfl,Nat.le_refl _,by unfold maxLen;omega,fun i z h=>by simp at h⟩⟩
 ·refine⟨some ⟨g,0,none⟩,cap,rfl,⟨hlen,hnc,hcm,fun i z hz=>⟨g,0,rfl,?_⟩⟩⟩
  have:=zjm h i (.bool z) (by simp[z6l,hz])
  rw[Nat.zero_add]
  exact this

theorem zli : ∀ {sts : List St}, (∀ s ∈ sts, StF s) → stW sts ≤ 16 * sts.length
  | [], _ => by simp [stW]
  | s :: r, h => by
    have h1 := (h s List.mem_cons_self).len
    have h2 := zli (sts := r) (fun s hs => h s (List.mem_cons_of_mem _ hs))
    unfold stW at h2 ⊢
    rw [List.map_cons, List.sum_cons, List.length_cons]
    omega

theorem zlj {sts : List St} (h : ∀ s ∈ sts, StF s) (hl : sts.length ≤ 40) : stW sts ≤ 1048576 := by
  have := zli h
  omega

theorem BoolsAt.un {p : Nat} {w : World} {oa : Zoa} {n cap : Nat} {gs : List Bool} (h : BoolsAt (mask p w) oa n cap gs) : BoolsAt w oa n cap gs :=
  ⟨h.len, h.room, h.most, fun i s hs => by
    obtain ⟨b, o, h1, h2⟩ := h.at_ i s hs
    exact ⟨b, o, h1, (z18 h2).1⟩⟩

theorem zcn (oa : Zoa) (n cap : Nat) (es : List EvV) (so : Zoa) (sn sc : Nat) (ss : Zis) (go : Zoa) (gn gc : Nat) (gs : List Bool) (hf : FineE es) (w : World) (hev : EvsAt w oa n cap es) (hst : StsAt w so sn sc ss) (hgs : BoolsAt w go gn gc gs) :
    Calls Tryz.prog 8 #[z6j oa n cap so sn sc go gn gc] w fun r w' => r = .returned (.bool (z0x es ss gs)) ∧ Below w.heap.size w w' := by
  have hn20 : n ≤ 1048576 := by rw [← hev.len]; exact hf.len
  obtain ⟨W0, hW0⟩ : ∃ W0, (w.alloc (.cells #[.slice oa n cap, .slice so sn sc, .slice go gn gc] 32)).alloc (.cells #[.slice none 0 0, .slice none 0 0, .slice none 0 0] 32) = W0 := ⟨_, rfl⟩
  obtain ⟨hA0, hN0, hb0⟩ := zcl w #[.slice oa n cap, .slice so sn sc, .slice go gn gc] #[.slice none 0 0, .slice none 0 0, .slice none 0 0] 32 32
  rw [hW0] at hA0 hN0 hb0
  have A8 := ZZ hev
  have HST := ZZ hst
  have Es := ZZ hgs
  have CS := ZZ hev.len
  have BK := ZZ hf
  have HW0 := ZZ hW0
  have HB0 := ZZ hb0
  have Au := ZZ hA0
  have LV := ZZ hN0
  have r0 := zb hA0 0 rfl
  clear hev hst hgs hf hW0 hb0 hA0 hN0
  by_cases h40 : 40 < n
  · have q4 : (40 : Int) < (n : Int) := by omega
    have HF := ZZ (zh7 (es := es) (ss := ss) (gs := gs) (by rw [CS.o]; omega))
    clear h40
    go_enter Tryz.func8, Tryz.ntmps8
    go_upto_region 2 with fail
    rw [HW0.o]
    clear HW0
    go_wp2_with fail
    go_ret
    exact ⟨by rw [HF.o]; rfl, HB0.o⟩
  · have q4 : ¬ ((40 : Int) < (n : Int)) := by omega
    have HI0 := ZZ (show RokS w w.heap.size (w.heap.size + 1) #[.slice oa n cap, .slice so sn sc, .slice go gn gc] es 0 (.slice none 0 0) (.slice none 0 0) (.slice none 0 0) [] [] W0 from ⟨HB0.o, Au.o, LV.o, RoomT.nil _ W0, World.ownsRow_nil _ _ _ _, RInv.nil, rfl⟩)
    go_enter Tryz.func8, Tryz.ntmps8
    go_upto_region 2 with fail
    rw [HW0.o]
    clear HW0
    obtain ⟨b, hbd⟩ : ∃ b, w.heap.size = b := ⟨_, rfl⟩
    have Aw := ZZ hbd
    rw [hbd] at HI0 r0
    simp only [hbd]
    clear hbd
    go_wp2_with fail
    clear r0 q4
    go_loopw [4] (fun x wr => ∃ (j : Nat) (o1 : Zoa) (n1 c1 : Nat) (o2 : Zoa) (n2 c2 : Nat) (o3 : Zoa) (n3 c3 : Nat) (sts : List St) (gs' : List Bool), x = .int .i64 (j : Int) ∧ j ≤ n ∧ gs'.length = j ∧ RokS w b (b + 1) #[.slice oa n cap, .slice so sn sc, .slice go gn gc] es j (.slice o1 n1 c1) (.slice o2 n2 c2) (.slice o3 n3 c3) sts gs' wr) (fun x _ => n - (intOf x).toNat)
    case atStart => exact ⟨0, _, _, _, _, _, _, _, _, _, [], [], rfl, Nat.zero_le _, rfl, HI0.o⟩
    case round =>
      obtain ⟨j, o1, n1, c1, o2, n2, c2, o3, n3, c3, sts, gs', rfl, hj, hgl, hI⟩ := hrel
      have HI := ZZ hI
      have Ep := ZZ hgl
      clear hI HI0 hgl
      have r0 := zb HI.o.room 0 rfl
      have v0 := zb HI.o.now 0 rfl
      have v1 := zb HI.o.now 1 rfl
      have v2 := zb HI.o.now 2 rfl
      by_cases hlt : j < n
      · have j0 : (j : Int) < (n : Int) := by omega
        obtain ⟨x, bx, qx, xa, xc, ya, yc, hx, hidx, hevw⟩ := A8.o.get Tryz.underlying29 z2t j hlt
        have hev0 := hevw.below HI.o.bel
        obtain ⟨c0, c1', c2', c3', c4, c5, c6, c7, c8⟩ := hev0.cs
        have hx20 := BK.o.one (zMg hx)
        obtain ⟨xs, ys, hX⟩ := HI.o.roomX
        have Cf := ZZ (fun W (h : Below wr.heap.size wr W) => zgo b (.slice o1 n1 c1) (.slice o2 n2 c2) (.slice o3 n3 c3) (es.take j) sts x xa xc ya yc HI.o.inv hx20.2.1 hx20.2.2 W (zLt (ze HI.o.room) h.size) xs ys (z6l gs') (hX.on (z1r h (ze HI.o.room))) (hevw.lev.below (zc8 (zTr HI.o.bel h) (Nat.le_of_eq Aw.o))) (hevw.prv.below (zc8 (zTr HI.o.bel h) (Nat.le_of_eq Aw.o))))
        have HX := ZZ hx
        have hlb := zw c0
        have hln := ze HI.o.now
        have hlr := ze HI.o.room
        clear hx hev0 hevw hx20 hX
        go_upto_region 7 with fail
        have KC := ZZ (Nat.le_of_eq Aw.o)
        cases hok : z0l (es.take j) sts x with
        | false =>
          have HF := ZZ (HI.o.bad HX.o hok (ss := ss) (gs := gs))
          have HL2 := ZZ (fun W h => (Cf.o W h).mono (R' := fun r w' => r = .returned (.tuple #[rmv (.slice none 0 0) (.slice none 0 0) (.slice none 0 0), .bool false]) ∧ Below W.heap.size W w') (fun r w' h => by
            obtain ⟨a, b, c, h1, _, h3, h4⟩ := h
            obtain ⟨rfl, rfl, rfl⟩ := h3 hok
            rw [hok] at h1
            exact ⟨h1, h4⟩))
          have HZ := ZZ HI.o.bel.size
          clear hok Cf
          go_region_law (first
            | (rw [if_pos (by rfl)]; go_simp; go_at_call 26; refine (HL2.o _ (by first | exact zBr.drew | exact (zBr.drew).alloc (by simp) _ | exact ((zBa)).drew)).mono ?_; rintro r w3 ⟨rfl, hb3⟩; have hb30 : Below wr.heap.size wr w3 := (by refine Below.trans ?_ (hb3.mono (by simp)); first | exact zBr.drew | exact (zBr.drew).alloc (by simp) _ | exact ((zBa)).drew); first | (have hk3 : w3.heap[wr.heap.size]? = some (.cells #[.slice none 0 0, .slice none 0 0, .slice none 0 0] 32 (0, 0)) := (hb3.block wr.heap.size (by simp)).trans (heap_alloc_new _ _); have k0 := zb hk3 0 rfl; have k1 := zb hk3 1 rfl; have k2 := zb hk3 2 rfl; have y0 := zh hk3 0; have y1 := zh hk3 1; have y2 := zh hk3 2) | skip))
          all_goals go_wp2_with fail
          all_goals go_ret
          all_goals refine ⟨by rw [HF.o]; rfl, ?_⟩
          all_goals have hbw := zTr HI.o.bel hb30
          all_goals first
            | exact hbw.alloc hbw.size _
            | exact hbw.grown (zx [.slice none 0 0, .slice none 0 0, .slice none 0 0] w3 _ 0 hk3).2 hbw.size (fun k hk => by cases hk; exact HZ.o)
        | true =>
          have HL2 := ZZ (fun W h => (Cf.o W h).mono (R' := fun r w' => ∃ (p1 : Zoa) (m1 d1 : Nat) (p2 : Zoa) (m2 d2 : Nat) (p3 : Zoa) (m3 d3 : Nat), r = .returned (.tuple #[rmv (.slice p1 m1 d1) (.slice p2 m2 d2) (.slice p3 m3 d3), .bool true]) ∧ RoomT b w' (.slice p1 m1 d1) (.slice p2 m2 d2) (.slice p3 m3 d3) (es.take j ++ [x]) (sts ++ [z0s (es.take j) sts x]) ∧ (mask b w').ownsRow 0 4 1 (.slice p3 m3 d3) ((es.take j).length + 1) (z6l gs' ++ [.bool (allowed (es.take j) (befS (es.take j) sts x.prev) x)]) ∧ Below W.heap.size W w') (fun r w' h => by
            obtain ⟨a, b, c, h1, h2, _, h4⟩ := h
            obtain ⟨hT, hfl⟩ := h2 hok
            obtain ⟨⟨_, q1, _⟩, ⟨_, q2, _⟩, _⟩ := hT
            obtain ⟨p1, d1, rfl⟩ := zi q1
            obtain ⟨p2, d2, rfl⟩ := zi q2
            obtain ⟨p3, d3, rfl⟩ := zi hfl
            rw [hok] at h1
            exact ⟨_, _, _, _, _, _, _, _, _, h1, (h2 hok).1, hfl, h4⟩))
          have Ab := ZZ hok
          have HZ := ZZ HI.o.bel.size
          clear hok Cf
          refine (fun (KEY : Hd ?G1) => ?main1) (ZZ ?key1)
          case main1 =>
           go_region_law (first
             | (rw [if_pos (by rfl)]; go_simp; go_at_call 26; refine (HL2.o _ (by first | exact zBr.drew | exact (zBr.drew).alloc (by simp) _ | exact ((zBa)).drew)).mono ?_; rintro r w3 ⟨p1, m1, d1, p2, m2, d2, p3, m3, d3, rfl, hT3, hF3, hb3⟩; have hb30 : Below wr.heap.size wr w3 := (by refine Below.trans ?_ (hb3.mono (by simp)); first | exact zBr.drew | exact (zBr.drew).alloc (by simp) _ | exact ((zBa)).drew); first | (have hk3 : w3.heap[wr.heap.size]? = some (.cells #[.slice none 0 0, .slice none 0 0, .slice none 0 0] 32 (0, 0)) := (hb3.block wr.heap.size (by simp)).trans (heap_alloc_new _ _); have k0 := zb hk3 0 rfl; have k1 := zb hk3 1 rfl; have k2 := zb hk3 2 rfl; have y0 := zh hk3 0; have y1 := zh hk3 1; have y2 := zh hk3 2) | skip))
           all_goals
             have Dm := ZZ (HI.o.on hb30)
             first
               | (obtain ⟨W5, hW5⟩ : ∃ W5, (((w3.setCell ⟨wr.heap.size, 0, none⟩ (.slice p1 m1 d1)).setCell ⟨wr.heap.size, 1, none⟩ (.slice p2 m2 d2)).setCell ⟨wr.heap.size, 2, none⟩ (.slice p3 m3 d3)) = W5 := ⟨_, rfl⟩
                  obtain ⟨hr, hg9⟩ := zx [.slice p1 m1 d1, .slice p2 m2 d2, .slice p3 m3 d3] w3 _ 0 hk3
                  rw [show w3.setCells wr.heap.size 0 [.slice p1 m1 d1, .slice p2 m2 d2, .slice p3 m3 d3] = W5 from hW5] at hr hg9
                  rw [hW5]
                  have BD := ZZ (show W5.heap[wr.heap.size]? = some (.cells #[.slice p1 m1 d1, .slice p2 m2 d2, .slice p3 m3 d3] 32 (0, 0)) from hr)
                  have GG := ZZ (hT3.off hg9 hk3 (by simp) (by omega) (ze Dm.o.room))
                  have GH := ZZ (za2 hF3 hg9 hk3 (by omega) (ze Dm.o.room) (by decide))
                  have BM := ZZ (HI.o.on ((hb30.grown hg9 hb30.size (fun k hk => by cases hk; exact Nat.le_refl _) : Below wr.heap.size wr W5)))
                  clear hW5 hr hg9 hk3 k0 k1 k2 y0 y1 y2 hT3 hF3 hb3 hb30 Dm
                  generalize wr.heap.size = bX at BD ⊢
                  revert BM GH GG BD W5 bX p1 m1 d1 p2 m2 d2 p3 m3 d3
                  exact KEY.o)
               | (obtain ⟨W5, hW5⟩ : ∃ W5, w3.alloc (.cells #[.slice p1 m1 d1, .slice p2 m2 d2, .slice p3 m3 d3] 32) = W5 := ⟨_, rfl⟩
                  rw [hW5]
                  have hb5 : Below w3.heap.size w3 W5 := by rw [← hW5]; exact zBa
                  have BD := ZZ (show W5.heap[w3.heap.size]? = some (.cells #[.slice p1 m1 d1, .slice p2 m2 d2, .slice p3 m3 d3] 32 (0, 0)) from by rw [← hW5]; exact heap_alloc_new _ _)
                  have GG := ZZ (hT3.on (z1r hb5 (ze Dm.o.room)))
                  have GH := ZZ (own_below hF3 (z1r hb5 (ze Dm.o.room)))
                  have BM := ZZ (Dm.o.on hb5)
                  clear hW5 hb5 hT3 hF3 hb3 hb30 Dm
                  generalize w3.heap.size = bX at BD ⊢
                  revert BM GH GG BD W5 bX p1 m1 d1 p2 m2 d2 p3 m3 d3
                  exact KEY.o)
          case key1 =>
            intro p1 m1 d1 p2 m2 d2 p3 m3 d3 W5 GG GH BM bX BD
            clear r0 v0 v1 v2 c0 c1' c2' c3' c4 c5 c6 c7 c8 hidx HL2 hlb hln hlr
            have k0 := zb BD.o 0 rfl
            have k1 := zb BD.o 1 rfl
            have k2 := zb BD.o 2 rfl
            have v0 := zb BM.o.now 0 rfl
            have v1 := zb BM.o.now 1 rfl
            have v2 := zb BM.o.now 2 rfl
            have y0 := zh BM.o.now 0
            have y1 := zh BM.o.now 1
            have y2 := zh BM.o.now 2
            go_wp2_with fail
            obtain ⟨w9, hw9⟩ : ∃ w9, (((W5.setCell ⟨b + 1, 0, none⟩ (.slice p1 m1 d1)).setCell ⟨b + 1, 1, none⟩ (.slice p2 m2 d2)).setCell ⟨b + 1, 2, none⟩ (.slice p3 m3 d3)) = w9 := ⟨_, rfl⟩
            obtain ⟨hr, hg9⟩ := zx [.slice p1 m1 d1, .slice p2 m2 d2, .slice p3 m3 d3] W5 _ 0 BM.o.now
            rw [show W5.setCells (b + 1) 0 [.slice p1 m1 d1, .slice p2 m2 d2, .slice p3 m3 d3] = w9 from hw9] at hr hg9
            rw [hw9]
            have HN := ZZ (BM.o.next HX.o Ab.o GG.o GH.o hg9 (show w9.heap[b + 1]? = some (.cells #[.slice p1 m1 d1, .slice p2 m2 d2, .slice p3 m3 d3] 32 (0, 0)) from hr) (by omega) (by have := KC.o; omega) (by simp))
            clear hw9 hr hg9 k0 k1 k2 v0 v1 v2 y0 y1 y2
            go_roundw
            case rel => exact ⟨j + 1, _, _, _, _, _, _, _, _, _, _, _, by go_num, by omega, by simp [Ep.o], HN.o⟩
            case measure => simp [intOf]; omega
      · have j0 : ¬ ((j : Int) < (n : Int)) := by omega
        have e2 : es.take j = es := zTl (by rw [CS.o]; omega)
        have e5 : es.drop j = [] := List.drop_eq_nil_of_le (by rw [CS.o]; omega)
        have hinv := HI.o.inv
        rw [e2] at hinv
        have HF := ZZ (show z0x es ss gs = (eqB es es && (eqB sts ss && eqB gs' gs)) from by
          have e1 := HI.o.go
          rw [e2, e5] at e1
          rw [zh6 e1 hinv.len, z2e (rfl : es = es)]
          rfl)
        have hrt := HI.o.rt
        have hfl := HI.o.fl
        rw [e2] at hrt hfl
        obtain ⟨⟨xs, h1, h2, h3⟩, ⟨ys, h4, h5, h6⟩, _⟩ := hrt
        obtain ⟨_, _, he1, hE⟩ := zf7 (z3m h1 h2) h3
        obtain ⟨_, _, he2, hS⟩ := zf8 (z3m h4 h5) h6
        obtain ⟨_, _, he3, hG⟩ := zfx hfl
        cases he1; cases he2; cases he3
        have J9 := ZZ (zha es es sts ss gs' gs ⟨BK.o, by have := hinv.eqn; have := hinv.len; omega, zlj hinv.st (by have := hinv.eqn; have := hinv.len; omega), by have := Ep.o; omega⟩ o1 es.length c1 o2 sts.length c2 o3 es.length c3 oa n cap so sn sc go gn gc wr hE.un hS.un hG.un (A8.o.below HI.o.bel) (HST.o.below HI.o.bel) (Es.o.below HI.o.bel))
        have r1 := zb HI.o.room 1 rfl
        have r2 := zb HI.o.room 2 rfl
        clear e2 e5 hinv h1 h2 h3 h4 h5 h6 hfl hE hS hG
        go_wp2_with (go_at_call 27; (with_reducible refine J9.o.mono ?_); rintro r w1 ⟨rfl, hb1⟩)
        go_ret
        exact ⟨by rw [HF.o]; rfl, zTr HI.o.bel hb1⟩

end Go.Proofs.YtfeebdcmlnapiaaGreat
