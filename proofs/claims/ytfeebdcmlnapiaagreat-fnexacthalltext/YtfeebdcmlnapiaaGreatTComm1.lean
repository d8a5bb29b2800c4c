/-
  Walks.
-/
import Derived.Test.YtfeebdcmlnapiaaGreatTEv4
set_option linter.unusedVariables false
namespace Go.Proofs.YtfeebdcmlnapiaaGreat.P18
open P1 P9 P11 P12

def noEv:EvV:=⟨0,0,0,0,0,[],[],[],0⟩

end Go.Proofs.YtfeebdcmlnapiaaGreat.P18
