/-
  No cell of these rows narrows 'for every input' (looked for: loops, veiled, ifaces, maps, wideKeys, modest, calm, conditions, laid).
  DERIVED. THE GIVEN ROWS OF THIS SEAT. 4 by the template 'for every input the law returns true; each argument reads behind the call as it read before'; 0 by the template 'total and deterministic' (their statements: YtfeebdcmlnapiaaGreatTotals.lean).
  GIVEN WITH THE SEED: the statements are not yours to turn. If you find one false, say at which input.
  Laid BY PROGRAM, IN A SANDBOX (cutbox-rows.mjs): the forced cells as the released guide's own fill.sh prints them over the translation dc88f57d0f6b151d… (all of the seat's roots in one cut). By AI agents, Wed Nov 11 2026. No macro, syntax, notation, axiom, sorry.
-/
import Derived.Test.YtfeebdcmlnapiaaGreatChecked
import GoSem.Claim
import GoSem.ClaimJoined
import GoSem.ClaimMapViews
import Derived.JoinedTies
import Derived.KernelRfl
namespace Go.Proofs.YtfeebdcmlnapiaaGreat
/- THE CELL 'sum', in the pinned program and in every row, IS THE sha256 OF THE DUMP (.gsa) THAT YtfeebdcmlnapiaaGreatProg.lean LOADS. Nothing in Lean hashes anything: it is a label: what it is worth is what the hold of that sum in a sandbox is worth. -/
noncomputable def Tryz.pinned : Pinned := { name := "ytfeebdcmlnapiaagreat", sum := "dc88f57d0f6b151dc7a88d87af05865aa49f50713e30d6a285a16a2d89ee1218", checked := Tryz.checked }
namespace Rows
def none {H : Type} : Left H := { results := [], args := [] }

/-- 'laws.FnExactRoomOk': WHATEVER THE INPUT: true; the input reads as it did. -/
def fnExactRoomOkSpec : ChangeSpec := { name := "fnExactRoomOk", fn := fun _ => fun
  | [d] => { results := [.lit (.bool true)], args := [d] }
  | _ => none }
def fnExactRoomOkRow : OpenClaim := { program := "ytfeebdcmlnapiaagreat", sum := "dc88f57d0f6b151dc7a88d87af05865aa49f50713e30d6a285a16a2d89ee1218", func := "loop.example/g00127/laws.FnExactRoomOk", spec := "fnExactRoomOk", unfollowed := true, recurses := true, apart := false }
def FnExactRoomOkSaid : Prop := fnExactRoomOkRow.holds Tryz.pinned (OpenSpec.ofChange fnExactRoomOkSpec)

/-- ITS FALSE NEIGHBOUR: 'it returns false'. Refute it at one input. -/
def fnExactRoomOkWrong : ChangeSpec := { name := "fnExactRoomOk", fn := fun _ => fun
  | [d] => { results := [.lit (.bool false)], args := [d] }
  | _ => none }
def FnExactRoomOkWrongFalsely : Prop := fnExactRoomOkRow.holds Tryz.pinned (OpenSpec.ofChange fnExactRoomOkWrong)

/-- 'laws.FnExactHallOk': WHATEVER THE INPUT: true; the input reads as it did. -/
def fnExactHallOkSpec : ChangeSpec := { name := "fnExactHallOk", fn := fun _ => fun
  | [d] => { results := [.lit (.bool true)], args := [d] }
  | _ => none }
def fnExactHallOkRow : OpenClaim := { program := "ytfeebdcmlnapiaagreat", sum := "dc88f57d0f6b151dc7a88d87af05865aa49f50713e30d6a285a16a2d89ee1218", func := "loop.example/g00127/laws.FnExactHallOk", spec := "fnExactHallOk", unfollowed := true, recurses := true, apart := false }
def FnExactHallOkSaid : Prop := fnExactHallOkRow.holds Tryz.pinned (OpenSpec.ofChange fnExactHallOkSpec)

/-- ITS FALSE NEIGHBOUR: 'it returns false'. Refute it at one input. -/
def fnExactHallOkWrong : ChangeSpec := { name := "fnExactHallOk", fn := fun _ => fun
  | [d] => { results := [.lit (.bool false)], args := [d] }
  | _ => none }
def FnExactHallOkWrongFalsely : Prop := fnExactHallOkRow.holds Tryz.pinned (OpenSpec.ofChange fnExactHallOkWrong)

/-- 'laws.FnExactHallText': WHATEVER THE INPUT: true; the input reads as it did. -/
def fnExactHallTextSpec : ChangeSpec := { name := "fnExactHallText", fn := fun _ => fun
  | [d] => { results := [.lit (.bool true)], args := [d] }
  | _ => none }
def fnExactHallTextRow : OpenClaim := { program := "ytfeebdcmlnapiaagreat", sum := "dc88f57d0f6b151dc7a88d87af05865aa49f50713e30d6a285a16a2d89ee1218", func := "loop.example/g00127/laws.FnExactHallText", spec := "fnExactHallText", inPlace := ["internal/abi.NoEscape"], unfollowed := true, recurses := true, apart := false }
def FnExactHallTextSaid : Prop := fnExactHallTextRow.holds Tryz.pinned (OpenSpec.ofChange fnExactHallTextSpec)

/-- ITS FALSE NEIGHBOUR: 'it returns false'. Refute it at one input. -/
def fnExactHallTextWrong : ChangeSpec := { name := "fnExactHallText", fn := fun _ => fun
  | [d] => { results := [.lit (.bool false)], args := [d] }
  | _ => none }
def FnExactHallTextWrongFalsely : Prop := fnExactHallTextRow.holds Tryz.pinned (OpenSpec.ofChange fnExactHallTextWrong)

/-- 'laws.FnExactReadHall': WHATEVER THE INPUT: true; the input reads as it did. -/
def fnExactReadHallSpec : ChangeSpec := { name := "fnExactReadHall", fn := fun _ => fun
  | [d] => { results := [.lit (.bool true)], args := [d] }
  | _ => none }
def fnExactReadHallRow : OpenClaim := { program := "ytfeebdcmlnapiaagreat", sum := "dc88f57d0f6b151dc7a88d87af05865aa49f50713e30d6a285a16a2d89ee1218", func := "loop.example/g00127/laws.FnExactReadHall", spec := "fnExactReadHall", unfollowed := true, recurses := true, apart := false }
def FnExactReadHallSaid : Prop := fnExactReadHallRow.holds Tryz.pinned (OpenSpec.ofChange fnExactReadHallSpec)

/-- ITS FALSE NEIGHBOUR: 'it returns false'. Refute it at one input. -/
def fnExactReadHallWrong : ChangeSpec := { name := "fnExactReadHall", fn := fun _ => fun
  | [d] => { results := [.lit (.bool false)], args := [d] }
  | _ => none }
def FnExactReadHallWrongFalsely : Prop := fnExactReadHallRow.holds Tryz.pinned (OpenSpec.ofChange fnExactReadHallWrong)

/- THE SECOND FORM. 'bulk': how many values and letters a reading holds, each counted each time it is reached (what is shared counts as often as it is met; a slice's spare places count too). A statement '..UptoSaid' is the law's where the arguments, and the package variables that the reading takes, are together of bulk at most 1048576: NARROWER than '..Said'. Prove '..Said' where nothing that the law and all that it calls make is longer than what came in: it says more and counts as full. Else prove '..UptoSaid'. A law counts once. -/
mutual
def uptoBulk {H : Type} : DataW H → Nat
  | .lit (.string bytes) => bytes.length + 1
  | .lit _ => 1
  | .nil => 1
  | .ptr d => uptoBulk d + 1
  | .slice elems spare => uptoBulkAll elems + uptoBulkAll spare + 1
  | .agg parts => uptoBulkAll parts + 1
  | .iface _ d => uptoBulk d + 1
  | .map entries => uptoBulkEntries entries + 1
  | .held _ => 1
def uptoBulkAll {H : Type} : List (DataW H) → Nat
  | [] => 0
  | d :: r => uptoBulk d + uptoBulkAll r
def uptoBulkEntries {H : Type} : List (Lit × DataW H) → Nat
  | [] => 0
  | x :: r => uptoBulkEntry x + uptoBulkEntries r
def uptoBulkEntry {H : Type} : Lit × DataW H → Nat
  | (.string bytes, d) => bytes.length + uptoBulk d + 1
  | (_, d) => uptoBulk d + 1
 end
def uptoSmall : (H : Type) → List (DataW H) → Bool := fun _ ds => decide (uptoBulkAll ds ≤ 1048576)
def OpenSpec.upto (s : _root_.Go.ChangeSpec) : _root_.Go.OpenSpec := { _root_.Go.OpenSpec.ofChange s with cond := some uptoSmall }

/-- 'laws.FnExactRoomOk', WHERE WHAT IT READS IS OF BULK AT MOST 1048576: true; the input reads as it did. -/
def fnExactRoomOkUptoRow : OpenClaim := { program := "ytfeebdcmlnapiaagreat", sum := "dc88f57d0f6b151dc7a88d87af05865aa49f50713e30d6a285a16a2d89ee1218", func := "loop.example/g00127/laws.FnExactRoomOk", spec := "fnExactRoomOk", unfollowed := true, recurses := true, apart := false, narrowed := true }
def FnExactRoomOkUptoSaid : Prop := fnExactRoomOkUptoRow.holds Tryz.pinned (OpenSpec.upto fnExactRoomOkSpec)

/-- 'laws.FnExactHallOk', WHERE WHAT IT READS IS OF BULK AT MOST 1048576: true; the input reads as it did. -/
def fnExactHallOkUptoRow : OpenClaim := { program := "ytfeebdcmlnapiaagreat", sum := "dc88f57d0f6b151dc7a88d87af05865aa49f50713e30d6a285a16a2d89ee1218", func := "loop.example/g00127/laws.FnExactHallOk", spec := "fnExactHallOk", unfollowed := true, recurses := true, apart := false, narrowed := true }
def FnExactHallOkUptoSaid : Prop := fnExactHallOkUptoRow.holds Tryz.pinned (OpenSpec.upto fnExactHallOkSpec)

/-- 'laws.FnExactHallText', WHERE WHAT IT READS IS OF BULK AT MOST 1048576: true; the input reads as it did. -/
def fnExactHallTextUptoRow : OpenClaim := { program := "ytfeebdcmlnapiaagreat", sum := "dc88f57d0f6b151dc7a88d87af05865aa49f50713e30d6a285a16a2d89ee1218", func := "loop.example/g00127/laws.FnExactHallText", spec := "fnExactHallText", inPlace := ["internal/abi.NoEscape"], unfollowed := true, recurses := true, apart := false, narrowed := true }
def FnExactHallTextUptoSaid : Prop := fnExactHallTextUptoRow.holds Tryz.pinned (OpenSpec.upto fnExactHallTextSpec)

/-- 'laws.FnExactReadHall', WHERE WHAT IT READS IS OF BULK AT MOST 1048576: true; the input reads as it did. -/
def fnExactReadHallUptoRow : OpenClaim := { program := "ytfeebdcmlnapiaagreat", sum := "dc88f57d0f6b151dc7a88d87af05865aa49f50713e30d6a285a16a2d89ee1218", func := "loop.example/g00127/laws.FnExactReadHall", spec := "fnExactReadHall", unfollowed := true, recurses := true, apart := false, narrowed := true }
def FnExactReadHallUptoSaid : Prop := fnExactReadHallUptoRow.holds Tryz.pinned (OpenSpec.upto fnExactReadHallSpec)

end Rows
end Go.Proofs.YtfeebdcmlnapiaaGreat
