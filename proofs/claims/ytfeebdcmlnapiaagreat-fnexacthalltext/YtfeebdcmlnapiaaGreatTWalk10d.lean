/-
  Walks.
-/
import Derived.Test.YtfeebdcmlnapiaaGreatTWalk10a
import Derived.Test.YtfeebdcmlnapiaaGreatTHeldMore
import Derived.Deep.AppendSrc
set_option maxHeartbeats 8000000
set_option linter.unusedVariables false
set_option linter.unusedSimpArgs false
namespace Go.Proofs.YtfeebdcmlnapiaaGreat
open Go.RowKit P1 P5 P9 P11 P12 P14 K
theorem zi8 (s:Zii):∀ u∈s.flatMap z02,u.oneCell'=true:=by
 intro u hu
 obtain⟨x,_,hx⟩:=List.mem_flatMap.1 hu
 simp only[z02,List.mem_cons,List.mem_nil_iff,or_false] at hx
 rcases hx with rfl|rfl<;>rfl

theorem zi9 {w:World} {b o n cap:Nat} {s:Zii} (h:ItemsAt w (some ⟨b,o,none⟩) n cap s):∀ j u,(s.flatMap z02)[j]? = some u→w.cell? ((⟨b,o,none⟩:Addr).add j)=some u:=by
 intro j u hu
 have hlt:j<s.length * 2:=by
  have:=(zGi.1 hu).1
  rwa [z3b z02 2 z1t] at this
 have h1:j / 2<s.length:=by omega
 have e1:j=j / 2 * 2+j % 2:=by omega
 have h3:=flat_get z02 2 z1t s (j / 2) (j % 2) h1 (by omega)
 rw[← e1,hu] at h3
 obtain⟨b',o',he,hc⟩:=h.at_ (j / 2) s[j / 2] (List.getElem?_eq_getElem h1)
 cases he
 have:=hc (j % 2) u h3.symm
 rw[Addr.add_mid]
 rw[show o+j=o+j / 2 * 2+j % 2 by omega]
 exact this

theorem zb8 {w:World} {n cap:Nat} {s:Zii} (h:ItemsAt w none n cap s):s=[]∧n=0:=by
 have:s=[]:=by
  cases s with
  | nil=>rfl
  | cons x r =>
   obtain⟨b,o,he,_⟩:=h.at_ 0 x rfl
   cases he
 subst this
 exact⟨rfl,by have:=h.len;simpa using this.symm⟩

theorem zb9 {a b c:World} (h:Drew a b) (k:Drew b c):Drew a c:=by
 obtain⟨q,rfl⟩:=h
 obtain⟨q2,rfl⟩:=k
 exact⟨q+q2,by simp⟩

structure OutI (w wr:World) (v:Value) (t:Zii):Prop where
 own:wr.ownsRow w.heap.size 79 2 v t.length (t.flatMap z02)
 bel:Bw w wr

theorem OutI.snoc {w w':World} {v':Value} {t:Zii} {x:Int × Int} (h:w'.ownsRow w.heap.size 79 2 v' (t.length+1) (t.flatMap z02++[.int .i64 x.1,.int .i64 x.2])) (hb:Bw w w'):OutI w w' v' (t++[x]):=by
 refine⟨?_,hb⟩
 rw[List.length_append,List.flatMap_append]
 simpa [z02] using h

theorem zac {p:Int × Int→Bool} {s:Zii} {j:Nat} {x:Int × Int} (h:s[j]? = some x):(s.take (j+1)).filter p=(s.take j).filter p++(if p x then [x] else []):=by
 rw[List.take_add_one,h,List.filter_append]
 simp[List.filter_cons]

theorem z9l {p:Int × Int→Bool} (s:Zii) (j:Nat):((s.take j).filter p).length≤s.length :=
 zNt (List.length_filter_le _ _) (by rw[List.length_take];omega)

theorem z7n {P:Program} {w:World} (t ty e:TypeId) (i:TypeInfo) (ht:P.underlying t=some (.slice e)) (hi:P.info? e=some i) (oa:Zoa) (n cap c:Nat) (hn:n≤cap) :
  (Builtin.append_ #[t,t] ty #[.slice oa n cap,.slice none 0 c]).run P w=.ok (.slice oa n cap) w:=by
 have hfc:(Builtin.firstCells i.size 0 (.slice none 0 c)).run P w=.ok #[] w:=by simp[Builtin.firstCells]
 cases oa with
 | none=>simp[Builtin.append_,run_underlying ht,sizeOf,typeInfo,hi,Builtin.lenOf,hfc,storeCells,hn]
 | some a=>simp[Builtin.append_,run_underlying ht,sizeOf,typeInfo,hi,Builtin.lenOf,hfc,storeCells,hn]

theorem z2p {w:World} {ops:Array Oper} {rest:List Oper} {o:Oper} {a:Act} {Q:Exit→Act→World→Prop} (hgd:o.guard=none) (sx x:Operand)
  (ho:o.op=.call { callee:=.builtin .append,args:=#[sx,x],argTypes:=#[74,74] })
  {base:Nat} {v:Value} {n:Nat} {xs:Zvs} (hs:a.eval sx=v) (hown:w.ownsRow base 79 2 v n xs)
  {oa:Zoa} {m cap:Nat} {s:Zii} (hx:a.eval x=.slice oa m cap) (hat:ItemsAt w oa m cap s)
  (hbase:base≤w.heap.size) (h63:n+m≤maxLen) (hbytes:(n+m) * 16≤140737488355328)
  (h:∀ v' w',w'.ownsRow base 79 2 v' (n+m) (xs++s.flatMap z02)→w.grownBy w' v.ownBlock→wpList Tryz.prog ops Q rest (a.put o.dst v') w'):wpList Tryz.prog ops Q (o::rest) a w:=by
 cases oa with
 | none =>
  obtain⟨rfl,rfl⟩:=zb8 hat
  obtain⟨i,hi,hz,h1,h2⟩:=info_parts z5d
  refine wpList_plain hgd fun K hK=>?_
  obtain⟨ov,cv,hv,hnc⟩:∃ (oa:Zoa) (cap:Nat),v=.slice oa n cap∧n≤cap:=by
   rcases hown.2 with ⟨h1,h2⟩|⟨g',cap,cur,h1,-,-,h5,-⟩
   ·exact⟨_,_,by rw[h1,h2],by omega⟩
   ·exact⟨_,_,h1,h5⟩
  subst hv
  have hr:=z7n (w:=w) 74 o.type 79 i Tryz.underlying74 hi ov n cv cap hnc
  unfold Oper.wp execOp
  simp only[ho,resolve,invoke,builtin,Sem.run_bind,Sem.run_pure,Result.andThen_ok,List.map_toArray,List.map_cons,List.map_nil,hs,hx,hr]
  exact hK _ _ (h _ _ (by simpa using hown) (World.grownBy.refl _ _))
 | some ad =>
  obtain⟨i,hi,hz,h1,h2⟩:=info_parts z5d
  have hsp:ad.spot=none∨s=[]:=by
   cases s with
   | nil=>exact .inr rfl
   | cons y r =>
    obtain⟨b,o',he,_⟩:=hat.at_ 0 y rfl
    exact .inl (by cases he;rfl)
  refine wpList_append_own _ hgd sx x 74 ho base 79 i _ 2 16 Tryz.underlying74 hi hz h1 h2 rfl (by decide) v n xs hs hown ad m cap (s.flatMap z02) hx (by rw[z3b z02 2 z1t,hat.len]) ?_ (zi8 s) h63 hbytes hbase (fun v' w' h2 h3 _=>h v' w' h2 h3)
  rcases hsp with hsp|rfl
  ·obtain⟨b,o',sp⟩:=ad
   simp only at hsp
   subst hsp
   exact zi9 hat
  ·intro j u hu
   simp at hu

def z5e (w:World) (t:Zii) (e:Ending) (w':World):Prop:=∃ v,e=.returned v∧w'.ownsRow w.heap.size 79 2 v t.length (t.flatMap z02)∧Bw w w'

theorem zad (oa:Zoa) (n cap:Nat) (s:Zii) (k i:Int) (hn20:n≤1048576) (w:World) (hat:ItemsAt w oa n cap s) :
  Calls Tryz.prog 75 #[.slice oa n cap,.int .i64 k,.int .i64 i] w (z5e w (z0n s k i)):=by
 have hn:=hat.len
 have HN:=ZZ hn
 have HAT:=ZZ hat
 clear hn hat
 go_enter Tryz.func75,Tryz.ntmps75
 go_wp2_with fail
 have AB:=ZZ (show OutI w (w.alloc (.cells #[] 79)) (.slice (some ⟨w.heap.size,0,none⟩) 0 0) [] from ⟨World.ownsRow_made (w:=w) #[] 0 zLe (by decide) rfl,zBa⟩)
 go_loopw [7,8] (fun v x wr=>∃ (j:Nat) (oo:Zoa) (m co:Nat),x=.int .i64 (j:Int)∧v=.slice oo m co∧j≤n∧OutI w wr (.slice oo m co) ((s.take j).filter (fun x=>decide (x.1<k)))) (fun _ x _=>n - (intOf x).toNat)
 case atStart=>exact⟨0,_,_,_,rfl,rfl,Nat.zero_le _,by simpa using AB.o⟩
 case round =>
  obtain⟨j,oo,m,co,rfl,rfl,hj,hO⟩:=hrel
  have HO:=ZZ hO
  have hbel:=hO.bel
  clear hO AB
  have hsm:((s.take j).filter (fun x=>decide (x.1<k))).length≤1048576:=zNt (z9l s j) (by rw[HN.o];exact hn20)
  by_cases hlt:j<n
  ·have j0:(j:Int)<(n:Int):=by omega
   obtain⟨x,b,q,hx,hidx,hb,c0,c1⟩:=(HAT.o.below hbel).get Tryz.underlying74 z1i j hlt
   have HF:=ZZ (zac (p:=fun x=>decide (x.1<k)) hx)
   have hsz:=hbel.size
   clear hx
   by_cases hk:x.1<k
   ·have Aj:=ZZ (show (s.take (j+1)).filter (fun x=>decide (x.1<k))=(s.take j).filter (fun x=>decide (x.1<k))++[x] by rw[HF.o,if_pos (by simpa using hk)])
    have hown:=HO.o.own
    go_wp2_with (at_builtin;refine z0t (W:=w) (cs:=#[.int .i64 x.1,.int .i64 x.2]) rfl _ _ 74 rfl (by decide) Tryz.underlying74 z5d rfl rfl hown rfl rfl (by simp[Value.oneCell']) hbel hsz (by unfold maxLen;omega) (by omega) ?_;intro v' w1 hown1 hb1 hs1;obtain⟨o2,c2,rfl⟩:=zi hown1)
    have hO2:=OutI.snoc (x:=x) hown1 hb1
    rw[← Aj.o] at hO2
    have Ag:=ZZ hO2
    clear hO2 hown1 hb1 hown
    go_wp2_with fail
    go_roundw
    case rel=>exact⟨j+1,_,_,_,by go_num,rfl,by omega,Ag.o⟩
    case measure=>simp[intOf];omega
   ·have Aj:=ZZ (show (s.take (j+1)).filter (fun x=>decide (x.1<k))=(s.take j).filter (fun x=>decide (x.1<k)) by rw[HF.o,if_neg (by simpa using hk),List.append_nil])
    go_wp2_with fail
    go_roundw
    case rel=>exact⟨j+1,_,_,_,by go_num,rfl,by omega,by rw[Aj.o];exact HO.o⟩
    case measure=>simp[intOf];omega
  ·have hjn:s.take j=s:=zTl (by rw[HN.o];omega)
   rw[hjn] at HO hsm
   clear hjn
   have hsz:=hbel.size
   have hown:=HO.o.own
   go_wp2_with (at_builtin;refine z0t (W:=w) (cs:=#[.int .i64 k,.int .i64 i]) rfl _ _ 74 rfl (by decide) Tryz.underlying74 z5d rfl rfl hown rfl rfl (by simp[Value.oneCell']) hbel hsz (by unfold maxLen;omega) (by omega) ?_;intro v' w1 hown1 hb1 hs1;obtain⟨o2,c2,rfl⟩:=zi hown1)
   have Bi:=ZZ (OutI.snoc (x:=(k,i)) hown1 hb1)
   clear hown1 hb1 hown HO hs1
   go_wp2_with fail
   go_loopw [7,9] (fun v x wr=>∃ (j:Nat) (oo:Zoa) (m co:Nat) (L:Zii),x=.int .i64 (j:Int)∧v=.slice oo m co∧j≤n∧L=s.filter (fun x=>decide (x.1<k))++[(k,i)]++(s.take j).filter (fun x=>decide (k<x.1))∧OutI w wr (.slice oo m co) L) (fun _ x _=>n - (intOf x).toNat)
   case atStart=>exact⟨0,_,_,_,_,rfl,rfl,Nat.zero_le _,by simp,Bi.o⟩
   case round =>
    obtain⟨j2,oo2,m2,co2,L,rfl,rfl,hj2,hL,hO⟩:=hrel
    have HO:=ZZ hO
    have hbel2:=hO.bel
    have hsm2:L.length≤3145728:=by
     have:=z9l (p:=fun x=>decide (k<x.1)) s j2
     rw[HN.o] at this
     rw[hL]
     simp only[List.length_append,List.length_cons,List.length_nil]
     omega
    have HL:=ZZ hL
    have hsz2:=hbel2.size
    clear hO Bi hL
    by_cases hlt2:j2<n
    ·have j0:(j2:Int)<(n:Int):=by omega
     obtain⟨x,b,q,hx,hidx,hb,c0,c1⟩:=(HAT.o.below hbel2).get Tryz.underlying74 z1i j2 hlt2
     have HF:=ZZ (zac (p:=fun x=>decide (k<x.1)) hx)
     clear hx
     by_cases hk:k<x.1
     ·have Aj:=ZZ (show L++[x]=s.filter (fun x=>decide (x.1<k))++[(k,i)]++(s.take (j2+1)).filter (fun x=>decide (k<x.1)) by rw[HF.o,if_pos (by simpa using hk),HL.o];simp only[List.append_assoc])
      have hown:=HO.o.own
      go_wp2_with (at_builtin;refine z0t (W:=w) (cs:=#[.int .i64 x.1,.int .i64 x.2]) rfl _ _ 74 rfl (by decide) Tryz.underlying74 z5d rfl rfl hown rfl rfl (by simp[Value.oneCell']) hbel2 hsz2 (by unfold maxLen;omega) (by omega) ?_;intro v' w1 hown1 hb1 hs1;obtain⟨o3,c3,rfl⟩:=zi hown1)
      have Ag:=ZZ (OutI.snoc (x:=x) hown1 hb1)
      clear hown1 hb1 hown
      go_wp2_with fail
      go_roundw
      case rel=>exact⟨j2+1,_,_,_,_,by go_num,rfl,by omega,Aj.o,Ag.o⟩
      case measure=>simp[intOf];omega
     ·have Aj:=ZZ (show L=s.filter (fun x=>decide (x.1<k))++[(k,i)]++(s.take (j2+1)).filter (fun x=>decide (k<x.1)) by rw[HF.o,if_neg (by simpa using hk),List.append_nil,HL.o])
      go_wp2_with fail
      go_roundw
      case rel=>exact⟨j2+1,_,_,_,_,by go_num,rfl,by omega,Aj.o,HO.o⟩
      case measure=>simp[intOf];omega
    ·have hjn:s.take j2=s:=zTl (by rw[HN.o];omega)
     have hin:L=stIn s k i:=by rw[HL.o,hjn];simp[stIn]
     subst hin
     have hnl:=HO.o.own
     obtain⟨oa4,c4,he4,hat4⟩:=z08 hnl
     cases he4
     have BL:=ZZ hat4
     clear hjn hat4 hnl HL
     have AX:=ZZ (fun w hat=>z7m oa n cap s w hat)
     have HS2:=ZZ (fun w hat=>z7m oo2 (stIn s k i).length co2 (stIn s k i) w hat)
     have HP:=ZZ (show z0n s k i=if stOk s&&stOk (stIn s k i) then stIn s k i else s from rfl)
     generalize stOk s=r1 at AX HP
     generalize stOk (stIn s k i)=r2 at HS2 HP
     generalize stIn s k i=L at *
     have cop:∀ wr3:World,Drew wr wr3→z0n s k i=s→Bw w wr3∧ItemsAt (wr3.alloc (.cells #[] 79)) oa n cap s∧(wr3.alloc (.cells #[] 79)).ownsRow w.heap.size 79 2 (.slice (some ⟨wr3.heap.size,0,none⟩) 0 0) 0 []:=fun wr3 hd _ =>
      have hB:=hbel2.trans (hd.below.mono hsz2)
      ⟨hB,HAT.o.below (hB.alloc hB.size _),zu (World.ownsRow_made (w:=wr3) #[] 0 zLe (by decide) rfl) hB.size⟩
     have HC:=ZZ cop
     clear cop
     cases r1 with
     | false =>
      have HT:=ZZ (show z0n s k i=s by rw[HP.o];rfl)
      clear HP HS2
      go_wp2_with (first
       | (go_at_call 129;refine (AX.o _ (HAT.o.below hbel2)).mono ?_;rintro e w3 ⟨rfl,hd3⟩;obtain⟨hB3,hA3,hO3⟩:=HC.o w3 hd3 HT.o;have HB3:=ZZ hB3;have Ac:=ZZ hA3;have Aq:=ZZ hO3;clear hB3 hA3 hO3)
       | (at_builtin;refine z2p rfl _ _ rfl rfl Aq.o rfl Ac.o (by have:=HB3.o.size;simp;omega) (by unfold maxLen;omega) (by omega) ?_;intro v4 w4 ho4 hg4;rw[Nat.zero_add,List.nil_append] at ho4;obtain⟨ov4,cv4,rfl⟩:=zi ho4;have Bg:=ZZ ho4;have ER:=ZZ hg4;clear ho4 hg4))
      go_ret
      refine⟨_,rfl,?_,?_⟩
      ·rw[HT.o,HN.o];exact Bg.o
      ·exact (HB3.o.alloc HB3.o.size _).grown ER.o (by have:=HB3.o.size;simp;omega) (fun q hq=>by cases hq;exact HB3.o.size)
     | true =>
      cases r2 with
      | false =>
       have HT:=ZZ (show z0n s k i=s by rw[HP.o];rfl)
       clear HP
       go_wp2_with (first
        | (go_at_call 129;with_reducible refine (AX.o _ (HAT.o.below hbel2)).mono ?_;rintro e w30 ⟨rfl,hd30⟩)
        | (go_at_call 129;with_reducible refine (HS2.o _ (BL.o.below hd30.below)).mono ?_;rintro e w3 ⟨rfl,hd31⟩;have hd3:Drew wr w3:=zb9 hd30 hd31;obtain⟨hB3,hA3,hO3⟩:=HC.o w3 hd3 HT.o;have HB3:=ZZ hB3;have Ac:=ZZ hA3;have Aq:=ZZ hO3;clear hB3 hA3 hO3)
        | (at_builtin;refine z2p rfl _ _ rfl rfl Aq.o rfl Ac.o (by have:=HB3.o.size;simp;omega) (by unfold maxLen;omega) (by omega) ?_;intro v4 w4 ho4 hg4;rw[Nat.zero_add,List.nil_append] at ho4;obtain⟨ov4,cv4,rfl⟩:=zi ho4;have Bg:=ZZ ho4;have ER:=ZZ hg4;clear ho4 hg4))
       go_ret
       refine⟨_,rfl,?_,?_⟩
       ·rw[HT.o,HN.o];exact Bg.o
       ·exact (HB3.o.alloc HB3.o.size _).grown ER.o (by have:=HB3.o.size;simp;omega) (fun q hq=>by cases hq;exact HB3.o.size)
      | true =>
       have HT:=ZZ (show z0n s k i=L by rw[HP.o];rfl)
       clear HP
       go_wp2_with (first
        | (go_at_call 129;with_reducible refine (AX.o _ (HAT.o.below hbel2)).mono ?_;rintro e w30 ⟨rfl,hd30⟩)
        | (go_at_call 129;with_reducible refine (HS2.o _ (BL.o.below hd30.below)).mono ?_;rintro e w3 ⟨rfl,hd31⟩))
       go_ret
       have hd3:Drew wr w3:=zb9 hd30 hd31
       refine⟨_,rfl,?_,hbel2.trans (hd3.below.mono hsz2)⟩
       rw[HT.o]
       exact own_below HO.o.own hd3.below

end Go.Proofs.YtfeebdcmlnapiaaGreat
namespace Go.Proofs.YtfeebdcmlnapiaaGreat.P15
open P1 P9 P11 P12 P14

abbrev St:=List (Int × Int)

def z4r (ss:List St) (k:Int):Bool:=ss.any (fun s=>s.any (fun x=>decide (x.1=k)))

def z1c (ss:List St) (j:Nat):List Int:=((List.range j).map (fun (k:Nat)=>(k:Int))).filter (z4r ss)

def keysOf (ss:List St):List Int:=z1c ss 16

theorem z9c (ss:List St) (j:Nat):z1c ss (j+1)=z1c ss j++(if z4r ss j then [(j:Int)] else []):=by
 unfold z1c
 rw[List.range_succ,List.map_append,List.filter_append]
 simp[List.filter_cons]

theorem z4k (ss:List St):(keysOf ss).length≤16:=Nat.le_trans (List.length_filter_le _ _) (by simp)

theorem zc9 (ss:List St) (j:Nat):(z1c ss j).length≤j:=Nat.le_trans (List.length_filter_le _ _) (by simp)

theorem z5f {ss:List St} {k:Int} (h:k∈keysOf ss):0≤k∧k≤15∧z4r ss k=true:=by
 unfold keysOf z1c at h
 rw[List.mem_filter,List.mem_map] at h
 obtain⟨⟨j,hj,rfl⟩,h2⟩:=h
 rw[List.mem_range] at hj
 exact⟨by omega,by omega,h2⟩

def alike (ss:List St) (k:Int):Bool:=ss.all (fun s=>decide (stAt s k=stAt (ss.headD []) k))

def clash (ss:List St):List Int:=(keysOf ss).filter (fun k=>!alike ss k)

def agreed (ss:List St):St:=((keysOf ss).filter (alike ss)).map (fun k=>(k,stAt (ss.headD []) k))

def z0b (x:Int):List Int→Bool→List Int
 | [],d=>if d then [] else [x]
 | y::r,d=>(if decide (x≤y)&&!d then [x] else [])++((if y=x then [] else [y])++z0b x r (d||decide (x≤y)))

def addI (l:List Int) (x:Int):List Int:=z0b x l false

theorem zba (x:Int):∀ (l:List Int),(z0b x l true).length≤l.length
 | []=>by simp[z0b]
 | y::r=>by
  have ih:=zba x r
  by_cases h:y=x
  ·simp[z0b,h];omega
  ·simp[z0b,h];omega

theorem zcy (x:Int):∀ (l:List Int) (d:Bool),(z0b x l d).length≤l.length+1
 | [],d=>by cases d<;>simp[z0b]
 | y::r,d=>by
  have h1:=zba x r
  have h2:=zcy x r d
  by_cases hxy:x≤y
  ·cases d
   ·by_cases h:y=x
    ·simp[z0b,h];omega
    ·simp[z0b,hxy,h];omega
   ·by_cases h:y=x
    ·simp[z0b,h];omega
    ·simp[z0b,hxy,h];omega
  ·have h:¬ y=x:=by omega
   simp[z0b,hxy,h]
   omega

theorem zep (l:List Int) (x:Int):(addI l x).length≤l.length+1:=zcy x l false

theorem z7o (x z:Int):∀ (l:List Int) (d:Bool),z∈z0b x l d↔(z∈l∧z≠x)∨(z=x∧d=false)
 | [],d=>by cases d<;>simp[z0b]
 | y::r,d=>by
  have h1:=z7o x z r true
  have h2:=z7o x z r d
  by_cases hxy:x≤y
  ·cases d
   ·by_cases h:y=x
    ·subst h
     simp[z0b,h1]
     grind
    ·simp[z0b,hxy,h,h1]
     grind
   ·by_cases h:y=x
    ·subst h
     simp[z0b,h1]
     grind
    ·simp[z0b,hxy,h,h1]
     grind
  ·have h:¬ y=x:=by omega
   simp[z0b,hxy,h,h2]
   grind

theorem addI_mem {l:List Int} {x z:Int}:z∈addI l x↔z∈l∨z=x:=by
 unfold addI
 rw[z7o]
 simp only[and_true]
 constructor
 ·rintro (h|h)
  ·exact .inl h.1
  ·exact .inr h
 ·rintro (h|h)
  ·by_cases e:z=x
   ·exact .inr e
   ·exact .inl ⟨h,e⟩
  ·exact .inr h

def heavy (e:EvV):Bool:=decide (e.kind=3)||(decide (e.kind=2)&&(decide (e.member=0)||decide (e.member=3))&&!decide (e.sender=e.user))

def z0k (es:List EvV) (s:St) (a b:EvV):Bool :=
 if heavy a=heavy b then
  (if z0e es s a.sender=z0e es s b.sender then (if a.depth=b.depth then decide (a.id<b.id) else decide (a.depth<b.depth)) else decide (z0e es s b.sender<z0e es s a.sender))
 else heavy a

def evOf (es:List EvV) (id:Int):EvV:=(zf es id).getD ⟨0,0,0,0,0,[],[],[],0⟩

def z1j (es:List EvV) (p:List Int × List Int) (z:Int):List Int × List Int:=if (zf es z).isSome&&!p.1.contains z then (p.1++[z],p.2++[z]) else p

def z0o (es:List EvV) (p:List Int × List Int) (zs:List Int):List Int × List Int:=zs.foldl (z1j es) p

def z6g (es:List EvV):Nat→List Int→List Int→List Int
 | 0,out,_=>out
 | _+1,out,[]=>out
 | f+1,out,h::t=>z6g es f (z0o es (out,t) (evOf es h).prev).1 (z0o es (out,t) (evOf es h).prev).2

def behind (es:List EvV) (id:Int):List Int:=z6g es (es.length+2) [] [id]

structure BehOk (es:List EvV) (out:List Int):Prop where
 nd:out.Nodup
 there:∀ z∈out,z∈es.map (·.id)

theorem evFind_isSome {es:List EvV} {z:Int}:(zf es z).isSome=true↔z∈es.map (·.id):=by
 induction es with
 | nil=>simp[zf]
 | cons e r ih =>
  unfold zf
  by_cases h:e.id=z
  ·rw[if_pos h]
   simp[h]
  ·rw[if_neg h,ih,List.map_cons,List.mem_cons]
   exact⟨.inr,fun q=>q.resolve_left (fun q=>h q.symm)⟩

theorem zcz {es:List EvV} {p:List Int × List Int} (h:BehOk es p.1) (z:Int):BehOk es (z1j es p z).1∧(z1j es p z).2.length+p.1.length=(z1j es p z).1.length+p.2.length:=by
 unfold z1j
 split
 ·rename_i hc
  simp only[Bool.and_eq_true,Bool.not_eq_true'] at hc
  have hn:z ∉ p.1:=fun hm=>by
   have:=List.contains_iff_mem.2 hm
   rw[hc.2] at this
   cases this
  refine⟨⟨?_,fun x hx=>?_⟩,by simp;omega⟩
  ·rw[List.nodup_append]
   exact⟨h.nd,by simp,fun a ha b hb=>by simp at hb;subst hb;exact fun e=>hn (e ▸ ha)⟩
  ·rcases List.mem_append.1 hx with hx|hx
   ·exact h.there x hx
   ·simp at hx
    subst hx
    exact evFind_isSome.1 hc.1
 ·exact⟨h,by omega⟩

theorem zd0 {es:List EvV}:∀ (zs:List Int) {p:List Int × List Int},BehOk es p.1→BehOk es (z0o es p zs).1∧(z0o es p zs).2.length+p.1.length=(z0o es p zs).1.length+p.2.length
 | [],p,h=>⟨h,by simp[z0o];omega⟩
 | z::r,p,h=>by
  obtain⟨h1,h2⟩:=zcz h z
  obtain⟨h3,h4⟩:=zd0 r h1
  have e:z0o es p (z::r)=z0o es (z1j es p z) r:=rfl
  rw[e]
  exact⟨h3,by omega⟩

theorem z2v:∀ {l m:List Int},l.Nodup→(∀ z∈l,z∈m)→l.length≤m.length
 | [],m,_,_=>by simp
 | a::r,m,h,hs=>by
  rw[List.nodup_cons] at h
  have ha:=hs a (by simp)
  have h1:=z2v (l:=r) (m:=m.erase a) h.2 (fun z hz=>by
   have hne:z≠a:=fun e=>h.1 (by rw[← e];exact hz)
   exact (List.mem_erase_of_ne hne).2 (hs z (List.mem_cons_of_mem _ hz)))
  rw[List.length_erase_of_mem ha] at h1
  have:=List.length_pos_of_mem ha
  simp only[List.length_cons]
  omega

theorem BehOk.len {es:List EvV} {out:List Int} (h:BehOk es out):out.length≤es.length:=by
 have:=z2v h.nd h.there
 simpa using this

def ready (ahead left out:List Int):Bool:=ahead.all (fun z=>!(left.contains z)||out.contains z)

def z0m (es:List EvV) (s:St) (left out:List Int):List Int→Option EvV→Option EvV
 | [],b=>b
 | z::r,b =>
  if out.contains z||!ready (behind es z) left out then z0m es s left out r b
  else z0m es s left out r (match b with|none=>some (evOf es z)|some y=>if z0k es s (evOf es z) y then some (evOf es z) else some y)

def z0r (es:List EvV) (s:St) (left:List Int):Nat→List Int→List Int
 | 0,out=>out
 | f+1,out=>if out.length<left.length then (match z0m es s left out left none with|none=>out|some b=>z0r es s left f (out++[b.id])) else out

def leftOf (es:List EvV):List Int→List Int→List Int
 | [],l=>l
 | z::r,l=>leftOf es r (if (zf es z).isSome then addI l z else l)

def order (es:List EvV) (s:St) (ids:List Int):List Int:=z0r es s (leftOf es ids []) ((leftOf es ids []).length+1) []

def keyE (e:EvV):Int:=if e.kind=1 then 1 else if e.kind=3 then 2 else if e.kind=4 then 3 else if e.kind=2∧inR e.user 1 5=true then 10+e.user else 0

def z0g (ss:List St) (ks:List Int):List Int:=ss.flatMap (fun s=>(ks.map (fun k=>stAt s k)).filter (fun i=>!decide (i=0)))

def tell (es:List EvV) (now:St) (z:Int):St:=if allowed es now (evOf es z)&&!decide (keyE (evOf es z)=0) then z0n now (keyE (evOf es z)) (evOf es z).id else now

def resolve (es:List EvV):List St→St
 | []=>[]
 | [s]=>s
 | s::t::r=>(order es (agreed (s::t::r)) (z0g (s::t::r) (clash (s::t::r)))).foldl (tell es) (agreed (s::t::r))

end Go.Proofs.YtfeebdcmlnapiaaGreat.P15

namespace Go.Proofs.YtfeebdcmlnapiaaGreat
open Go.RowKit P1 P5 P9 P11 P12 P14 P15 K
theorem zd1 (a b:Int):decide (a=b)=(a==b):=rfl

def inL (zs:Zin) (x:Int):Bool:=zs.contains x

theorem z5w (oa:Zoa) (n cap:Nat) (zs:Zin) (x:Int) (w:World) (hat:IntsAt w oa n cap zs) :
  Calls Tryz.prog 198 #[.slice oa n cap,.int .i64 x] w fun e w'=>e=.returned (.bool (inL zs x))∧w=w':=by
 have hn:=hat.len
 have hm:=zNt hat.room hat.most
 unfold maxLen at hm
 have HN:=ZZ hn
 have HAT:=ZZ hat
 clear hn hat
 go_enter Tryz.func198,Tryz.ntmps198
 go_wp2_with fail
 go_loop [5] (fun i=>∃ (j:Nat),i=.int .i64 (j:Int)∧j≤n∧inL (zs.drop j) x=inL zs x) (fun i=>n - (intOf i).toNat)
 case atStart=>exact⟨0,rfl,Nat.zero_le _,rfl⟩
 case round =>
  obtain⟨j,rfl,hj,hrest⟩:=hrel
  by_cases hlt:j<n
  ·have j0:(j:Int)<(n:Int):=by omega
   obtain⟨z,b,q,hz,hidx,hb,c0,hwz⟩:=HAT.o.get Tryz.underlying60 z0f j hlt
   have hd:inL (zs.drop j) x=((x==z)||inL (zs.drop (j+1)) x):=by
    unfold inL
    obtain⟨hj',rfl⟩:=zGi.1 hz
    rw[List.drop_eq_getElem_cons hj',List.contains_cons]
   rw[hd] at hrest
   clear hz hd
   cases hk:(z==x)
   ·have hk2:(x==z)=false:=by rw[← hk];exact Bool.beq_comm
    rw[hk2,Bool.false_or] at hrest
    have HR:=ZZ hrest
    clear hrest hk2
    go_wp2_with fail
    go_round
    case rel=>exact⟨j+1,by go_num,by omega,HR.o⟩
    case measure=>simp[intOf];omega
   ·have hk2:(x==z)=true:=by rw[← hk];exact Bool.beq_comm
    rw[hk2,Bool.true_or] at hrest
    have HR:=ZZ hrest
    clear hrest hk2
    go_wp2_with fail
    go_ret
    exact⟨by rw[← HR.o];rfl,rfl⟩
  ·have hjn:j=n:=by omega
   have HR:=ZZ (show inL zs x=false by rw[← hrest,hjn,← HN.o,List.drop_length];rfl)
   clear hrest
   go_wp2_with fail
   go_ret
   exact⟨by rw[HR.o];rfl,rfl⟩

theorem zae (oa:Zoa) (n cap:Nat) (ss:List St) (w:World) (hat:StsAt w oa n cap ss) :
  Calls Tryz.prog 194 #[.slice oa n cap] w (z5c w (keysOf ss)):=by
 have hmx:=zNt hat.room hat.most
 unfold maxLen at hmx
 have HN:=ZZ hat.len
 have HAT:=ZZ hat
 clear hat
 go_enter Tryz.func194,Tryz.ntmps194
 go_wp2_with fail
 have AB:=ZZ (OutN.new w)
 go_loopw [3,4] (fun v x wr=>∃ (k:Nat) (oo:Zoa) (m co:Nat),x=.int .i64 (k:Int)∧v=.slice oo m co∧k≤16∧OutN w wr (.slice oo m co) (z1c ss k)) (fun _ x _=>16 - (intOf x).toNat)
 case atStart=>exact⟨0,_,_,_,rfl,rfl,Nat.zero_le _,AB.o⟩
 case round =>
  obtain⟨k,oo,m,co,rfl,rfl,hk,hO⟩:=hrel
  have HO:=ZZ hO
  have hbel:=hO.bel
  have hsz:=hbel.size
  clear hO AB
  by_cases hlt:k<16
  ·have k0:(k:Int)≤15:=by omega
   go_wp2_with fail
   go_loop [5,6] (fun h x=>∃ (i:Nat),x=.int .i64 (i:Int)∧i≤n∧h=.bool ((ss.take i).any (fun s=>s.any (fun x=>decide (x.1=(k:Int)))))) (fun _ x=>n - (intOf x).toNat)
   case atStart=>exact⟨0,rfl,Nat.zero_le _,rfl⟩
   case round =>
    obtain⟨i,rfl,hi,rfl⟩:=hrel
    generalize hA:(ss.take i).any (fun s=>s.any (fun x=>decide (x.1=(k:Int))))=A
    have HA:=ZZ hA
    clear hA
    by_cases hin:i<n
    ·have i0:(i:Int)<(n:Int):=by omega
     obtain⟨s,b,q,xa,xc,hs,hidx,hc,hits⟩:=(HAT.o.below hbel).get Tryz.underlying30 z5l i hin
     have HS:=ZZ hs
     have HIT:=ZZ hits
     have hsl:=zNt hits.room hits.most
     unfold maxLen at hsl
     have Dc:=ZZ hits.len
     clear hs hits
     go_wp2_with fail
     go_loop [5,7] (fun h x=>∃ (j:Nat),x=.int .i64 (j:Int)∧j≤s.length∧h=.bool (A||(s.take j).any (fun x=>decide (x.1=(k:Int))))) (fun _ x=>s.length - (intOf x).toNat)
     case atStart=>exact⟨0,rfl,Nat.zero_le _,by simp⟩
     case round =>
      obtain⟨j,rfl,hj,rfl⟩:=hrel
      by_cases hjn:j<s.length
      ·have j0:(j:Int)<(s.length:Int):=by omega
       obtain⟨y,b2,q2,hy,hidy,hb2,d0,d1⟩:=HIT.o.get Tryz.underlying74 z1i j hjn
       have HT:=ZZ (zei (P:=fun x=>decide (x.1=(k:Int))) hy)
       clear hy
       generalize hB:(A||(s.take j).any (fun x=>decide (x.1=(k:Int))))=B
       have HB:=ZZ hB
       clear hB
       cases B
       ·cases hyk:(y.1==(k:Int))
        ·have HE:=ZZ (show false=(A||(s.take (j+1)).any (fun x=>decide (x.1=(k:Int)))) by rw[HT.o,← Bool.or_assoc,HB.o,Bool.false_or,zd1,hyk])
         go_wp2_with fail
         go_round
         case rel=>exact⟨j+1,by go_num,by omega,by rw[← HE.o]⟩
         case measure=>simp[intOf];omega
        ·have HE:=ZZ (show true=(A||(s.take (j+1)).any (fun x=>decide (x.1=(k:Int)))) by rw[HT.o,← Bool.or_assoc,HB.o,Bool.false_or,zd1,hyk])
         go_wp2_with fail
         go_round
         case rel=>exact⟨j+1,by go_num,by omega,by rw[← HE.o]⟩
         case measure=>simp[intOf];omega
       ·have HE:=ZZ (show true=(A||(s.take (j+1)).any (fun x=>decide (x.1=(k:Int)))) by rw[HT.o,← Bool.or_assoc,HB.o,Bool.true_or])
        go_wp2_with fail
        go_round
        case rel=>exact⟨j+1,by go_num,by omega,by rw[← HE.o]⟩
        case measure=>simp[intOf];omega
      ·have hjs:s.take j=s:=zTl (by omega)
       have HE:=ZZ (show (A||(s.take j).any (fun x=>decide (x.1=(k:Int))))=(ss.take (i+1)).any (fun s=>s.any (fun x=>decide (x.1=(k:Int)))) by rw[zei HS.o,HA.o,hjs])
       clear hjs
       generalize (A||(s.take j).any (fun x=>decide (x.1=(k:Int))))=B at HE
       go_wp2_with fail
       go_round
       case rel=>exact⟨i+1,by go_num,by omega,by rw[HE.o]⟩
       case measure=>simp[intOf];omega
    ·have HE:=ZZ (show A=z4r ss k by
      rw[← HA.o,zTl (by rw[HN.o];omega)]
      rfl)
     have hsm:=zc9 ss k
     cases A
     ·have HF:=ZZ (show z1c ss (k+1)=z1c ss k by rw[z9c,← HE.o];simp)
      go_wp2_with fail
      go_roundw
      case rel=>exact⟨k+1,_,_,_,by go_num,rfl,by omega,by rw[HF.o];exact HO.o⟩
      case measure=>simp[intOf];omega
     ·have HF:=ZZ (show z1c ss (k+1)=z1c ss k++[(k:Int)] by rw[z9c,← HE.o];simp)
      have hown:=HO.o.own
      go_wp2_with (at_builtin;refine z0t (W:=w) (cs:=#[.int .i64 (k:Int)]) rfl _ _ 60 rfl (by decide) Tryz.underlying60 z1u rfl rfl hown rfl rfl (by simp[Value.oneCell']) hbel hsz (by unfold maxLen;omega) (by omega) ?_;intro v' w1 hown1 hb1 hs1;obtain⟨o2,c2,rfl⟩:=zi hown1)
      have hO2:=OutN.snoc (x:=(k:Int)) hown1 hb1
      rw[← HF.o] at hO2
      have Ag:=ZZ hO2
      clear hO2 hown1 hb1 hown
      go_wp2_with fail
      go_roundw
      case rel=>exact⟨k+1,_,_,_,by go_num,rfl,by omega,Ag.o⟩
      case measure=>simp[intOf];omega
  ·have hk16:k=16:=by omega
   subst hk16
   go_wp2_with fail
   go_ret
   exact⟨_,rfl,HO.o.own,hbel⟩

end Go.Proofs.YtfeebdcmlnapiaaGreat
