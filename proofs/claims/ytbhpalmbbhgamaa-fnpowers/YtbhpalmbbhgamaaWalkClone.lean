/-
  strings.Clone, out of the shelf's contract of what it calls.
-/
import Derived.Test.YtbhpalmbbhgamaaBase
import Derived.Test.YtbhpalmbbhgamaaShelf
namespace Go.Proofs.Ytbhpalmbbhgamaa
open Go.RowKit P1 K

end Go.Proofs.Ytbhpalmbbhgamaa
