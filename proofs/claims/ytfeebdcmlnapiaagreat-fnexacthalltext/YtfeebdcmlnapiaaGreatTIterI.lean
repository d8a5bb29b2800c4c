/-
  Walks.
-/
import Derived.Test.YtfeebdcmlnapiaaGreatTEv4
import Derived.Shelf.SlIterI.Sorted
import Derived.Shelf.SortM.Plain
import Derived.Shelf.SortM.SortNone
set_option maxHeartbeats 1000000
set_option linter.unusedVariables false
set_option linter.unusedSimpArgs false
namespace Go.Proofs.YtfeebdcmlnapiaaGreat.P18
open P1 P9 P11 P12

def noEv:EvV:=⟨0,0,0,0,0,[],[],[],0⟩

end Go.Proofs.YtfeebdcmlnapiaaGreat.P18

namespace Go.Proofs.YtfeebdcmlnapiaaGreat
open Go.RowKit P1 P9 P11 P12 K
attribute [local go_sem ↓] Go.wp_at_zero Go.wp_at_succ

def z1b (n lo hi:Int):Int:=if n<lo then lo else if hi<n then hi else n

theorem z5u {n lo hi:Int} (h:lo≤hi):decide (n=z1b n lo hi)=inR n lo hi:=by
 unfold z1b
 rw[Bool.eq_iff_iff,decide_eq_true_iff,inR_iff]
 split
 ·omega
 ·split<;>omega

theorem z04 (n lo hi:Int) (h:lo≤hi) (w:World) :
  Calls Tryz.prog 168 #[.int .i64 n,.int .i64 lo,.int .i64 hi] w fun e w'=>e=.returned (.int .i64 (z1b n lo hi))∧w=w':=by
 rcases (show hi<n∧lo<hi∨hi<n∧lo=hi∨n≤hi∧lo<n∨n≤hi∧n=lo∨n≤hi∧n<lo by omega) with ⟨c,d⟩|⟨c,d⟩|⟨c,d⟩|⟨c,d⟩|⟨c,d⟩
 ·have d2:¬ hi<lo:=by omega
  rw[show z1b n lo hi=hi by unfold z1b;rw[if_neg (by omega),if_pos c]]
  go_enter Tryz.func168,Tryz.ntmps168
  go_wp2_with fail
  go_ret
  exact⟨by first|rfl|(simp;done)|(simp;omega),rfl⟩
 ·subst d
  rw[show z1b n lo lo=lo by unfold z1b;rw[if_neg (by omega),if_pos c]]
  go_enter Tryz.func168,Tryz.ntmps168
  go_wp2_with fail
  go_ret
  exact⟨by first|rfl|(simp;done)|(simp;omega),rfl⟩
 ·have c2:¬ hi<n:=by omega
  have d2:¬ n<lo:=by omega
  rw[show z1b n lo hi=n by unfold z1b;rw[if_neg d2,if_neg c2]]
  go_enter Tryz.func168,Tryz.ntmps168
  go_wp2_with fail
  go_ret
  exact⟨by first|rfl|(simp;done)|(simp;omega),rfl⟩
 ·subst d
  have c2:¬ hi<n:=by omega
  rw[show z1b n n hi=n by unfold z1b;rw[if_neg (by omega),if_neg c2]]
  go_enter Tryz.func168,Tryz.ntmps168
  go_wp2_with fail
  go_ret
  exact⟨by first|rfl|(simp;done)|(simp;omega),rfl⟩
 ·have c2:¬ hi<n:=by omega
  have d2:¬ lo<n:=by omega
  rw[show z1b n lo hi=lo by unfold z1b;rw[if_pos d]]
  go_enter Tryz.func168,Tryz.ntmps168
  go_wp2_with fail
  go_ret
  exact⟨by first|rfl|(simp;done)|(simp;omega),rfl⟩

abbrev nval (id kd sn us mb dp:Int):Value:=.agg #[.int .i64 id,.int .i64 kd,.int .i64 sn,.int .i64 us,.int .i64 mb,.int .i64 dp]

theorem zgw (id kd sn us mb dp:Int) (oa:Zoa) (n cl:Nat) (tx:Zbs) (ob:Zoa) (m cp:Nat) (w:World) :
  Calls Tryz.prog 132 #[z3e id kd sn us mb dp (.slice oa n cl) (.slice ob m cp) tx] w fun e w'=>e=.returned (nval id kd sn us mb dp)∧Bw w w':=by
 have HB:=ZZ (((Below.refl w.heap.size w).alloc zLe (.cells #[.int .i64 id,.int .i64 kd,.int .i64 sn,.int .i64 us,.int .i64 mb,.slice oa n cl,.string ⟨tx.toArray⟩,.slice ob m cp,.int .i64 dp] 62)).alloc (by simp) (.cells #[.int .i64 id,.int .i64 kd,.int .i64 sn,.int .i64 us,.int .i64 mb,.int .i64 dp] 177))
 go_enter Tryz.func132,Tryz.ntmps132
 go_wp2_with fail
 refine bodyPost_ret (v:=nval id kd sn us mb dp) (by simp[results,Tryz.results132,go_sem]) rfl ⟨rfl,?_⟩
 repeat (refine Below.setCell ?_ (by simp) _)
 exact HB.o

def limI (id kd sn us mb dp:Int):Value:=nval (z1b id 1 1000000) (z1b kd 1 5) (z1b sn 1 5) (if kd=2 then z1b us 1 5 else 0) (if kd=2 then z1b mb 0 3 else 0) (z1b dp 0 1000000)

end Go.Proofs.YtfeebdcmlnapiaaGreat
namespace Go.Proofs
open Go.RowKit Go.Maps Go.Sort Go.Shelf

def Tryz.keysI184_ren:Go.Shelf.Ren:=⟨fun|7=>184|10=>218|n=>n,fun|23=>180|26=>3|3=>3|28=>209|0=>0|27=>208|33=>202|4=>4|n=>n,fun|n=>n⟩

theorem Tryz.keysI184:Go.Proofs.SlLaysZI.n7 Tryz.prog Tryz.keysI184_ren:={
 mixed:=by kernel_rfl
 f7:=⟨Tryz.f184.name,by decide,Tryz.func184.trans (congrArg some (by kernel_rfl))⟩
 f10:=⟨Tryz.f218.name,by decide,Tryz.func218.trans (congrArg some (by kernel_rfl))⟩
 t0:=Tryz.underlying0
 a0:=Tryz.isAgg0
 z0:=Tryz.sizeOf0
 v0:=Tryz.zeroValue0
 t4:=Tryz.underlying4
 a4:=Tryz.isAgg4
 z4:=Tryz.sizeOf4
 v4:=Tryz.zeroValue4
 t23:=Tryz.underlying180
 a23:=Tryz.isAgg180
 z23:=Tryz.sizeOf180
 v23:=Tryz.zeroValue180
 t26:=Tryz.underlying3
 a26:=Tryz.isAgg3
 z26:=Tryz.sizeOf3
 v26:=Tryz.zeroValue3
 t27:=Tryz.underlying208
 a27:=Tryz.isAgg208
 z27:=Tryz.sizeOf208
 v27:=Tryz.zeroValue208
 t28:=Tryz.underlying209
 a28:=Tryz.isAgg209
 z28:=Tryz.sizeOf209
 v28:=Tryz.zeroValue209
 t33:=Tryz.underlying202
 a33:=Tryz.isAgg202
 z33:=Tryz.sizeOf202
 v33:=Tryz.zeroValue202 }

def Tryz.sortedI183_ren:Go.Shelf.Ren:=⟨fun|6=>183|8=>216|9=>217|11=>240|13=>242|12=>241|23=>261|24=>262|14=>252|15=>253|16=>254|17=>255|18=>256|19=>257|20=>258|21=>259|22=>260|25=>264|26=>265|27=>266|28=>267|29=>268|30=>269|31=>270|n=>n,fun|26=>3|28=>209|24=>60|0=>0|3=>3|37=>258|48=>275|50=>277|4=>4|40=>269|39=>268|45=>206|5=>5|9=>9|51=>278|55=>282|57=>284|58=>285|33=>202|n=>n,fun|n=>n⟩

theorem Tryz.sortedI183:Go.Proofs.SlLaysZI.n6 Tryz.prog Tryz.sortedI183_ren:={
 mixed:=by kernel_rfl
 f6:=⟨Tryz.f183.name,by decide,Tryz.func183.trans (congrArg some (by kernel_rfl))⟩
 f8:=⟨Tryz.f216.name,by decide,Tryz.func216.trans (congrArg some (by kernel_rfl))⟩
 f11:=⟨Tryz.f240.name,by decide,Tryz.func240.trans (congrArg some (by kernel_rfl))⟩
 t0:=Tryz.underlying0
 a0:=Tryz.isAgg0
 z0:=Tryz.sizeOf0
 v0:=Tryz.zeroValue0
 t24:=Tryz.underlying60
 a24:=Tryz.isAgg60
 z24:=Tryz.sizeOf60
 v24:=Tryz.zeroValue60
 t26:=Tryz.underlying3
 a26:=Tryz.isAgg3
 z26:=Tryz.sizeOf3
 v26:=Tryz.zeroValue3
 t28:=Tryz.underlying209
 a28:=Tryz.isAgg209
 z28:=Tryz.sizeOf209
 v28:=Tryz.zeroValue209
 i26:=by kernel_rfl }

def Tryz.sortI217_ren:Go.Shelf.Ren:=⟨fun|5=>217|8=>242|7=>241|19=>261|20=>262|10=>252|11=>253|12=>254|13=>255|14=>256|15=>257|16=>258|17=>259|18=>260|30=>264|31=>265|32=>266|33=>267|34=>268|35=>269|40=>270|n=>n,fun|23=>60|25=>3|3=>3|32=>258|22=>60|0=>0|44=>275|46=>277|4=>4|36=>269|35=>268|41=>206|5=>5|9=>9|53=>278|57=>282|63=>284|64=>285|n=>n,fun|n=>n⟩

theorem Tryz.sortI217:Go.Proofs.SlLaysM.n5 Tryz.prog Tryz.sortI217_ren:={
 mixed:=by kernel_rfl
 f5:=⟨Tryz.f217.name,by decide,Tryz.func217.trans (congrArg some (by kernel_rfl))⟩
 f7:=⟨Tryz.f241.name,by decide,Tryz.func241.trans (congrArg some (by kernel_rfl))⟩
 f8:=Tryz.func242.trans (congrArg some (by kernel_rfl))
 f10:=⟨Tryz.f252.name,by decide,Tryz.func252.trans (congrArg some (by kernel_rfl))⟩
 f11:=⟨Tryz.f253.name,by decide,Tryz.func253.trans (congrArg some (by kernel_rfl))⟩
 f12:=⟨Tryz.f254.name,by decide,Tryz.func254.trans (congrArg some (by kernel_rfl))⟩
 f13:=⟨Tryz.f255.name,by decide,Tryz.func255.trans (congrArg some (by kernel_rfl))⟩
 f14:=⟨Tryz.f256.name,by decide,Tryz.func256.trans (congrArg some (by kernel_rfl))⟩
 f15:=⟨Tryz.f257.name,by decide,Tryz.func257.trans (congrArg some (by kernel_rfl))⟩
 f16:=⟨Tryz.f258.name,by decide,Tryz.func258.trans (congrArg some (by kernel_rfl))⟩
 f17:=⟨Tryz.f259.name,by decide,Tryz.func259.trans (congrArg some (by kernel_rfl))⟩
 f18:=⟨Tryz.f260.name,by decide,Tryz.func260.trans (congrArg some (by kernel_rfl))⟩
 f19:=Tryz.func261.trans (congrArg some (by kernel_rfl))
 f20:=Tryz.func262.trans (congrArg some (by kernel_rfl))
 f30:=⟨Tryz.f264.name,by decide,Tryz.func264.trans (congrArg some (by kernel_rfl))⟩
 f31:=Tryz.func265.trans (congrArg some (by kernel_rfl))
 f32:=Tryz.func266.trans (congrArg some (by kernel_rfl))
 f33:=⟨Tryz.f267.name,by decide,Tryz.func267.trans (congrArg some (by kernel_rfl))⟩
 f34:=⟨Tryz.f268.name,by decide,Tryz.func268.trans (congrArg some (by kernel_rfl))⟩
 f35:=⟨Tryz.f269.name,by decide,Tryz.func269.trans (congrArg some (by kernel_rfl))⟩
 f40:=⟨Tryz.f270.name,by decide,Tryz.func270.trans (congrArg some (by kernel_rfl))⟩
 t0:=Tryz.underlying0
 a0:=Tryz.isAgg0
 z0:=Tryz.sizeOf0
 v0:=Tryz.zeroValue0
 t3:=Tryz.underlying3
 a3:=Tryz.isAgg3
 z3:=Tryz.sizeOf3
 v3:=Tryz.zeroValue3
 t4:=Tryz.underlying4
 a4:=Tryz.isAgg4
 z4:=Tryz.sizeOf4
 v4:=Tryz.zeroValue4
 t5:=Tryz.underlying5
 a5:=Tryz.isAgg5
 z5:=Tryz.sizeOf5
 v5:=Tryz.zeroValue5
 t9:=Tryz.underlying9
 a9:=Tryz.isAgg9
 z9:=Tryz.sizeOf9
 v9:=Tryz.zeroValue9
 t22:=Tryz.underlying60
 a22:=Tryz.isAgg60
 z22:=Tryz.sizeOf60
 v22:=Tryz.zeroValue60
 t23:=Tryz.underlying60
 a23:=Tryz.isAgg60
 z23:=Tryz.sizeOf60
 v23:=Tryz.zeroValue60
 t25:=Tryz.underlying3
 a25:=Tryz.isAgg3
 z25:=Tryz.sizeOf3
 v25:=Tryz.zeroValue3
 t32:=Tryz.underlying258
 a32:=Tryz.isAgg258
 z32:=Tryz.sizeOf258
 v32:=Tryz.zeroValue258
 t35:=Tryz.underlying268
 a35:=Tryz.isAgg268
 z35:=Tryz.sizeOf268
 v35:=Tryz.zeroValue268
 t36:=Tryz.underlying269
 a36:=Tryz.isAgg269
 z36:=Tryz.sizeOf269
 v36:=Tryz.zeroValue269
 t41:=Tryz.underlying206
 a41:=Tryz.isAgg206
 z41:=Tryz.sizeOf206
 v41:=Tryz.zeroValue206
 t44:=Tryz.underlying275
 a44:=Tryz.isAgg275
 z44:=Tryz.sizeOf275
 v44:=Tryz.zeroValue275
 t46:=Tryz.underlying277
 a46:=Tryz.isAgg277
 z46:=Tryz.sizeOf277
 v46:=Tryz.zeroValue277
 t53:=Tryz.underlying278
 a53:=Tryz.isAgg278
 z53:=Tryz.sizeOf278
 v53:=Tryz.zeroValue278
 t57:=Tryz.underlying282
 a57:=Tryz.isAgg282
 z57:=Tryz.sizeOf282
 v57:=Tryz.zeroValue282
 t63:=Tryz.underlying284
 a63:=Tryz.isAgg284
 z63:=Tryz.sizeOf284
 v63:=Tryz.zeroValue284
 t64:=Tryz.underlying285
 a64:=Tryz.isAgg285
 z64:=Tryz.sizeOf285
 v64:=Tryz.zeroValue285 }

theorem Tryz.sortsI183 (m:Nat):AnyZI.SortsIn Tryz.prog Tryz.sortedI183_ren Fence.wide m :=
 ⟨fun blk off cap ss W hH hblk hsz=>callsIn_wide.2 (AnyM.slices_Sort_int Tryz.sortI217 blk off cap ss W hH hblk hsz),fun p cap W=>callsIn_wide.2 (AnyM.slices_Sort_int_none Tryz.sortI217 p cap W)⟩

theorem Tryz.mapsKeysI184 (mb:Option Nat) (w:World):CallsIn Fence.wide 5 Tryz.prog 184 #[.map mb] w fun e w'=>e=.returned (.func (.func 218) #[] #[.pointer (some ⟨w.heap.size,0,none⟩)])∧w'=w.alloc (.cells #[.map mb] 180) :=
 AnyZI.keys_in Tryz.keysI184 Fence.wide 5 trivial rfl mb w

theorem Tryz.sortedKeysI184 {H:Type} (b nn:Nat) (D0:DataW H) (R:Value→Option (DataW H × List MemPlace)) (w:World) (hown:w.ownsMap Tryz.prog 3 R b nn D0) (hmax:Maps.size D0≤maxLen) (hbytes:Maps.size D0 * 8≤140737488355328) :
  CallsIn Fence.wide 5 Tryz.prog 183 #[.func (.func 218) #[] #[.pointer (some ⟨w.heap.size,0,none⟩)]] (w.alloc (.cells #[.map (some b)] 180)) fun e w'=>∃ (v:Value) (ss:List Int),e=.returned v∧ss.Perm (intKeys D0)∧w'.ownsRow (w.alloc (.cells #[.map (some b)] 180)).heap.size 3 1 v ss.length ((ss.mergeSort (fun x y=>decide (x≤y))).map encZ)∧Below (w.alloc (.cells #[.map (some b)] 180)).heap.size (w.alloc (.cells #[.map (some b)] 180)) w':=by
 have hbl:=hown.lt
 have hseq:SeqGives Fence.wide 2 Tryz.prog 218 #[.pointer (some ⟨w.heap.size,0,none⟩)] encZ (fun ss=>ss.Perm (intKeys D0)) (Maps.size D0) (w.alloc (.cells #[.map (some b)] 180)) :=
  AnyZI.keys_gives (ρ:=Tryz.keysI184_ren) { Tryz.keysI184 with } Fence.wide _ trivial rfl (by omega) w.heap.size b nn D0 _ (by simp) (by simp) (by
   obtain⟨es,clock,hb,Ft,hs,hD⟩:=hown
   exact⟨es,clock,(Below.heap_alloc _ _ b hbl).trans hb,Ft,hs,hD⟩)
 refine (AnyZI.sorted_in Tryz.sortedI183 Fence.wide 5 trivial trivial trivial trivial rfl (by omega) (Tryz.sortsI183 _) (enters_of Tryz.func217 (by kernel_rfl) rfl) 218 #[.pointer (some ⟨w.heap.size,0,none⟩)] trivial (enters_of Tryz.func218 (by kernel_rfl) rfl) _ _ hmax hbytes _ hseq).mono ?_
 rintro e w' ⟨v,ss,h1,h2,h3,_,h5⟩
 exact⟨v,ss,h1,h2,h3,h5⟩

end Go.Proofs

namespace Go.Proofs
open Go.RowKit Go.Maps Go.Sort Go.Shelf

def Tryz.keysI248_ren:Go.Shelf.Ren:=⟨fun|7=>248|10=>263|n=>n,fun|23=>232|26=>3|3=>240|28=>209|0=>0|27=>208|33=>202|4=>4|n=>n,fun|n=>n⟩

theorem Tryz.keysI248:Go.Proofs.SlLaysZI.n7 Tryz.prog Tryz.keysI248_ren:={
 mixed:=by kernel_rfl
 f7:=⟨Tryz.f248.name,by decide,Tryz.func248.trans (congrArg some (by kernel_rfl))⟩
 f10:=⟨Tryz.f263.name,by decide,Tryz.func263.trans (congrArg some (by kernel_rfl))⟩
 t0:=Tryz.underlying0
 a0:=Tryz.isAgg0
 z0:=Tryz.sizeOf0
 v0:=Tryz.zeroValue0
 t4:=Tryz.underlying4
 a4:=Tryz.isAgg4
 z4:=Tryz.sizeOf4
 v4:=Tryz.zeroValue4
 t23:=Tryz.underlying232
 a23:=Tryz.isAgg232
 z23:=Tryz.sizeOf232
 v23:=Tryz.zeroValue232
 t26:=Tryz.underlying3
 a26:=Tryz.isAgg3
 z26:=Tryz.sizeOf3
 v26:=Tryz.zeroValue3
 t27:=Tryz.underlying208
 a27:=Tryz.isAgg208
 z27:=Tryz.sizeOf208
 v27:=Tryz.zeroValue208
 t28:=Tryz.underlying209
 a28:=Tryz.isAgg209
 z28:=Tryz.sizeOf209
 v28:=Tryz.zeroValue209
 t33:=Tryz.underlying202
 a33:=Tryz.isAgg202
 z33:=Tryz.sizeOf202
 v33:=Tryz.zeroValue202 }

theorem Tryz.mapsKeysI248 (mb:Option Nat) (w:World):CallsIn Fence.wide 5 Tryz.prog 248 #[.map mb] w fun e w'=>e=.returned (.func (.func 263) #[] #[.pointer (some ⟨w.heap.size,0,none⟩)])∧w'=w.alloc (.cells #[.map mb] 232) :=
 AnyZI.keys_in Tryz.keysI248 Fence.wide 5 trivial rfl mb w

theorem Tryz.sortedKeysI248 {H:Type} (b nn:Nat) (D0:DataW H) (R:Value→Option (DataW H × List MemPlace)) (w:World) (hown:w.ownsMap Tryz.prog 3 R b nn D0) (hmax:Maps.size D0≤maxLen) (hbytes:Maps.size D0 * 8≤140737488355328) :
  CallsIn Fence.wide 5 Tryz.prog 183 #[.func (.func 263) #[] #[.pointer (some ⟨w.heap.size,0,none⟩)]] (w.alloc (.cells #[.map (some b)] 232)) fun e w'=>∃ (v:Value) (ss:List Int),e=.returned v∧ss.Perm (intKeys D0)∧w'.ownsRow (w.alloc (.cells #[.map (some b)] 232)).heap.size 3 1 v ss.length ((ss.mergeSort (fun x y=>decide (x≤y))).map encZ)∧Below (w.alloc (.cells #[.map (some b)] 232)).heap.size (w.alloc (.cells #[.map (some b)] 232)) w':=by
 have hbl:=hown.lt
 have hseq:SeqGives Fence.wide 2 Tryz.prog 263 #[.pointer (some ⟨w.heap.size,0,none⟩)] encZ (fun ss=>ss.Perm (intKeys D0)) (Maps.size D0) (w.alloc (.cells #[.map (some b)] 232)) :=
  AnyZI.keys_gives (ρ:=Tryz.keysI248_ren) { Tryz.keysI248 with } Fence.wide _ trivial rfl (by omega) w.heap.size b nn D0 _ (by simp) (by simp) (by
   obtain⟨es,clock,hb,Ft,hs,hD⟩:=hown
   exact⟨es,clock,(Below.heap_alloc _ _ b hbl).trans hb,Ft,hs,hD⟩)
 refine (AnyZI.sorted_in Tryz.sortedI183 Fence.wide 5 trivial trivial trivial trivial rfl (by omega) (Tryz.sortsI183 _) (enters_of Tryz.func217 (by kernel_rfl) rfl) 263 #[.pointer (some ⟨w.heap.size,0,none⟩)] trivial (enters_of Tryz.func263 (by kernel_rfl) rfl) _ _ hmax hbytes _ hseq).mono ?_
 rintro e w' ⟨v,ss,h1,h2,h3,_,h5⟩
 exact⟨v,ss,h1,h2,h3,h5⟩

end Go.Proofs

namespace Go.Proofs.YtfeebdcmlnapiaaGreat
open Go.RowKit P1 K
theorem y3h (x:Int) (h0:0≤x) (h1:x≤1000000000) (w:World) :
  Calls Tryz.prog 48 #[.int .i64 x] w fun e w'=>e=.returned (.string ⟨(varB x.toNat).toArray⟩)∧Bw w w':=by
 obtain⟨n,rfl⟩:=Int.eq_ofNat_of_zero_le h0
 exact y3z n (by omega) w

open P9 P11
theorem y4g (x y:Zbs):(⟨x.toArray⟩:ByteArray)++⟨y.toArray⟩=⟨(x++y).toArray⟩:=by
 apply ByteArray.ext
 simp

theorem y4h (l:Zbs):(⟨l.toArray⟩:ByteArray).size=l.length:=rfl

theorem y3g (l:Zbs):(y3a l).length≤l.length+10∧l.length≤(y3a l).length:=by
 have:=y3b l.length
 simp only[y3a,List.length_append]
 omega

theorem y41 (l:Zbs) (hl:l.length≤1048576) (w:World) :
  Calls Tryz.prog 49 #[.string ⟨l.toArray⟩] w fun e w'=>e=.returned (.string ⟨(y3a l).toArray⟩)∧Bw w w':=by
 have hv:=y3b l.length
 have C:=y4g (varB l.length) l
 have HV:=ZZ (y3z l.length (by omega))
 go_enter Tryz.func49,Tryz.ntmps49
 go_wp2_with (go_at_call 48;refine (HV.o _).mono ?_;rintro e w1 ⟨rfl,hb1⟩)
 go_ret
 exact⟨rfl,hb1⟩

end Go.Proofs.YtfeebdcmlnapiaaGreat
