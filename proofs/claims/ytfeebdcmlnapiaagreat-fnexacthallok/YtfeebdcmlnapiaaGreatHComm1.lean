/-
  Walks.
-/
import Derived.Test.YtfeebdcmlnapiaaGreatHEv4
set_option linter.unusedVariables false
namespace Go.Proofs.YtfeebdcmlnapiaaGreat.P18
open P9 P12

def noEv:EvV:=⟨0,0,0,0,0,[],[],[],0⟩

end Go.Proofs.YtfeebdcmlnapiaaGreat.P18
