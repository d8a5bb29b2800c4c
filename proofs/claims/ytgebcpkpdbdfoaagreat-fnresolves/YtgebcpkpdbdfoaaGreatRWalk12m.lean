/-
  Walks.
-/
import Derived.Test.YtgebcpkpdbdfoaaGreatRWalk12g
set_option linter.unusedVariables false
set_option linter.unusedSimpArgs false
namespace Go.Proofs.YtgebcpkpdbdfoaaGreat
open Go.RowKit P5 P9 P12 P14 P15 K

theorem zbl {es:List EvV}:∀ (l:List EvV) (L:List Int),(z4w es l L).length≤L.length+l.length
 | [],L=>Nat.le_refl _
 | e::r,L=>by
  unfold z4w
  have h1:=zbl (es:=es) r (if z5o es e.id then L else addI L e.id)
  have h2:(if z5o es e.id then L else addI L e.id).length≤L.length+1:=by
   split
   ·omega
   ·exact z8z L e.id
  rw[List.length_cons]
  omega

theorem zhj (es:List EvV):(z7h es).length≤es.length:=by
 have:=zbl (es:=es) es []
 simpa [z7h] using this

theorem EvsR.far {w w':World} {B g:Nat} {v:Value} {es:List EvV} (h:EvsR w B v es) (hg:w.grownBy w' (some g)) (hlt:g<B):EvsR w' B v es:=by
 obtain⟨xs,h1,h2,h3⟩:=h
 refine⟨xs,h1.kept hg (z13 h1 hlt),h2,fun i e he=>?_⟩
 obtain⟨vl,vp,q1,q2,q3,q4⟩:=h3 i e he
 exact⟨vl,vp,q1,q2.kept hg (z13 q2 hlt),q3.kept hg (z13 q3 hlt),q4⟩

theorem StsR.far {w w':World} {B g:Nat} {v:Value} {sts:List St} (h:StsR w B v sts) (hg:w.grownBy w' (some g)) (hlt:g<B):StsR w' B v sts:=by
 obtain⟨ys,h1,h2⟩:=h
 refine⟨ys,h1.kept hg (z13 h1 hlt),fun i s hs=>?_⟩
 obtain⟨vi,q1,q2⟩:=h2 i s hs
 exact⟨vi,q1,q2.kept hg (z13 q2 hlt)⟩

theorem RoomR.far {w w':World} {B g:Nat} {ve vs vg:Value} {es:List EvV} {sts:List St} (h:RoomR w B ve vs vg es sts) (hg:w.grownBy w' (some g)) (hlt:g<B):RoomR w' B ve vs vg es sts:=by
 obtain⟨h1,h2,zs,h3,h4⟩:=h
 exact⟨h1.far hg hlt,h2.far hg hlt,zs,h3,h4.kept hg (z13 h4 hlt)⟩

end Go.Proofs.YtgebcpkpdbdfoaaGreat
