/-
  NARROWER THAN 'FOR EVERY INPUT', by the rows' own cells (each row's printed sentence says how): FnExactMessageOk: laid · FnExactEncode: laid · FnExactDecode: laid.
  DERIVED. THE GIVEN ROWS OF THIS SEAT. 3 by the template 'for every input the law returns true; each argument reads behind the call as it read before'; 0 by the template 'total and deterministic' (their statements: YtmllcomppjkhhaaDoorTotals.lean).
  GIVEN WITH THE SEED: the statements are not yours to turn. If you find one false, say at which input.
  Laid BY PROGRAM, IN A SANDBOX (cutbox-rows.mjs): the forced cells as the released guide's own fill.sh prints them over the translation de8f1c120dd222b9… (all of the seat's roots in one cut). By AI agents, Wed Nov 11 2026. No macro, syntax, notation, axiom, sorry.
-/
import Derived.Test.YtmllcomppjkhhaaDoorChecked
import GoSem.Claim
import GoSem.ClaimJoined
import GoSem.ClaimMapViews
import Derived.JoinedTies
import Derived.KernelRfl
namespace Go.Proofs.YtmllcomppjkhhaaDoor
/- THE CELL 'sum', in the pinned program and in every row, IS THE sha256 OF THE DUMP (.gsa) THAT YtmllcomppjkhhaaDoorProg.lean LOADS. Nothing in Lean hashes anything: it is a label: what it is worth is what the hold of that sum in a sandbox is worth. -/
noncomputable def Tryd.pinned : Pinned := { name := "ytmllcomppjkhhaadoor", sum := "de8f1c120dd222b97c526b5c23e5801e902cecace94fbb2a7705d57f710741ea", checked := Tryd.checked }
namespace Rows
def none {H : Type} : Left H := { results := [], args := [] }

/- WHAT THE LISTED PACKAGE-LEVEL VARIABLES READ AS WHEN THE CALL BEGINS. Each datum BY PROGRAM (the guide's laid-datum.mjs) off the statement by which the dump's own 'gosem.cut.vars' lays the variable. In a bare row this is a premise. The card (YtmllcomppjkhhaaDoorCards.lean) ties it to the program's text. -/
def laid_loop_example_g00127_impl_leastNumbers {H : Type} : DataW H := .agg [.lit (.int .i64 1), .lit (.int .i64 1), .lit (.int .i64 1), .lit (.int .i64 0), .lit (.int .i64 0), .lit (.int .i64 0), .lit (.int .i64 0)]
def laid_loop_example_g00127_impl_mostNumbers {H : Type} : DataW H := .agg [.lit (.int .i64 6), .lit (.int .i64 4), .lit (.int .i64 4), .lit (.int .i64 100000), .lit (.int .i64 1000000), .lit (.int .i64 100000), .lit (.int .i64 1000000)]

/-- 'laws.FnExactMessageOk': WHATEVER THE INPUT: true; the input reads as it did. -/
def fnExactMessageOkSpec : ChangeSpec := { name := "fnExactMessageOk", vars := ["loop.example/g00127/impl.leastNumbers", "loop.example/g00127/impl.mostNumbers"], fn := fun _ => fun
  | [d, g1, g2] => { results := [.lit (.bool true)], args := [d], vars := [g1, g2] }
  | _ => none }
def fnExactMessageOkRow : OpenClaim := { program := "ytmllcomppjkhhaadoor", sum := "de8f1c120dd222b97c526b5c23e5801e902cecace94fbb2a7705d57f710741ea", func := "loop.example/g00127/laws.FnExactMessageOk", spec := "fnExactMessageOk", named := ["loop.example/g00127/impl.leastNumbers", "loop.example/g00127/impl.mostNumbers"], apart := false, laid := [("loop.example/g00127/impl.leastNumbers", laid_loop_example_g00127_impl_leastNumbers), ("loop.example/g00127/impl.mostNumbers", laid_loop_example_g00127_impl_mostNumbers)] }
def FnExactMessageOkSaid : Prop := fnExactMessageOkRow.holds Tryd.pinned (OpenSpec.ofChange fnExactMessageOkSpec)

/-- ITS FALSE NEIGHBOUR: 'it returns false'. Refute it at one input. -/
def fnExactMessageOkWrong : ChangeSpec := { name := "fnExactMessageOk", vars := ["loop.example/g00127/impl.leastNumbers", "loop.example/g00127/impl.mostNumbers"], fn := fun _ => fun
  | [d, g1, g2] => { results := [.lit (.bool false)], args := [d], vars := [g1, g2] }
  | _ => none }
def FnExactMessageOkWrongFalsely : Prop := fnExactMessageOkRow.holds Tryd.pinned (OpenSpec.ofChange fnExactMessageOkWrong)

/-- 'laws.FnExactEncode': WHATEVER THE INPUT: true; the input reads as it did. -/
def fnExactEncodeSpec : ChangeSpec := { name := "fnExactEncode", vars := ["loop.example/g00127/impl.leastNumbers", "loop.example/g00127/impl.mostNumbers"], fn := fun _ => fun
  | [d, g1, g2] => { results := [.lit (.bool true)], args := [d], vars := [g1, g2] }
  | _ => none }
def fnExactEncodeRow : OpenClaim := { program := "ytmllcomppjkhhaadoor", sum := "de8f1c120dd222b97c526b5c23e5801e902cecace94fbb2a7705d57f710741ea", func := "loop.example/g00127/laws.FnExactEncode", spec := "fnExactEncode", inPlace := ["internal/abi.NoEscape"], unfollowed := true, recurses := true, named := ["loop.example/g00127/impl.leastNumbers", "loop.example/g00127/impl.mostNumbers"], apart := false, laid := [("loop.example/g00127/impl.leastNumbers", laid_loop_example_g00127_impl_leastNumbers), ("loop.example/g00127/impl.mostNumbers", laid_loop_example_g00127_impl_mostNumbers)] }
def FnExactEncodeSaid : Prop := fnExactEncodeRow.holds Tryd.pinned (OpenSpec.ofChange fnExactEncodeSpec)

/-- ITS FALSE NEIGHBOUR: 'it returns false'. Refute it at one input. -/
def fnExactEncodeWrong : ChangeSpec := { name := "fnExactEncode", vars := ["loop.example/g00127/impl.leastNumbers", "loop.example/g00127/impl.mostNumbers"], fn := fun _ => fun
  | [d, g1, g2] => { results := [.lit (.bool false)], args := [d], vars := [g1, g2] }
  | _ => none }
def FnExactEncodeWrongFalsely : Prop := fnExactEncodeRow.holds Tryd.pinned (OpenSpec.ofChange fnExactEncodeWrong)

/-- 'laws.FnExactDecode': WHATEVER THE INPUT: true; the input reads as it did. -/
def fnExactDecodeSpec : ChangeSpec := { name := "fnExactDecode", vars := ["loop.example/g00127/impl.leastNumbers", "loop.example/g00127/impl.mostNumbers"], fn := fun _ => fun
  | [d, g1, g2] => { results := [.lit (.bool true)], args := [d], vars := [g1, g2] }
  | _ => none }
def fnExactDecodeRow : OpenClaim := { program := "ytmllcomppjkhhaadoor", sum := "de8f1c120dd222b97c526b5c23e5801e902cecace94fbb2a7705d57f710741ea", func := "loop.example/g00127/laws.FnExactDecode", spec := "fnExactDecode", unfollowed := true, recurses := true, named := ["loop.example/g00127/impl.leastNumbers", "loop.example/g00127/impl.mostNumbers"], apart := false, laid := [("loop.example/g00127/impl.leastNumbers", laid_loop_example_g00127_impl_leastNumbers), ("loop.example/g00127/impl.mostNumbers", laid_loop_example_g00127_impl_mostNumbers)] }
def FnExactDecodeSaid : Prop := fnExactDecodeRow.holds Tryd.pinned (OpenSpec.ofChange fnExactDecodeSpec)

/-- ITS FALSE NEIGHBOUR: 'it returns false'. Refute it at one input. -/
def fnExactDecodeWrong : ChangeSpec := { name := "fnExactDecode", vars := ["loop.example/g00127/impl.leastNumbers", "loop.example/g00127/impl.mostNumbers"], fn := fun _ => fun
  | [d, g1, g2] => { results := [.lit (.bool false)], args := [d], vars := [g1, g2] }
  | _ => none }
def FnExactDecodeWrongFalsely : Prop := fnExactDecodeRow.holds Tryd.pinned (OpenSpec.ofChange fnExactDecodeWrong)

/- THE SECOND FORM. 'bulk': how many values and letters a reading holds, each counted each time it is reached (what is shared counts as often as it is met; a slice's spare places count too). A statement '..UptoSaid' is the law's where the arguments, and the package variables that the reading takes, are together of bulk at most 1048576: NARROWER than '..Said'. Prove '..Said' where nothing that the law and all that it calls make is longer than what came in: it says more and counts as full. Else prove '..UptoSaid'. A law counts once. -/
mutual
def uptoBulk {H : Type} : DataW H → Nat
  | .lit (.string bytes) => bytes.length + 1
  | .lit _ => 1
  | .nil => 1
  | .ptr d => uptoBulk d + 1
  | .slice elems spare => uptoBulkAll elems + uptoBulkAll spare + 1
  | .agg parts => uptoBulkAll parts + 1
  | .iface _ d => uptoBulk d + 1
  | .map entries => uptoBulkEntries entries + 1
  | .held _ => 1
def uptoBulkAll {H : Type} : List (DataW H) → Nat
  | [] => 0
  | d :: r => uptoBulk d + uptoBulkAll r
def uptoBulkEntries {H : Type} : List (Lit × DataW H) → Nat
  | [] => 0
  | x :: r => uptoBulkEntry x + uptoBulkEntries r
def uptoBulkEntry {H : Type} : Lit × DataW H → Nat
  | (.string bytes, d) => bytes.length + uptoBulk d + 1
  | (_, d) => uptoBulk d + 1
 end
def uptoSmall : (H : Type) → List (DataW H) → Bool := fun _ ds => decide (uptoBulkAll ds ≤ 1048576)
def OpenSpec.upto (s : _root_.Go.ChangeSpec) : _root_.Go.OpenSpec := { _root_.Go.OpenSpec.ofChange s with cond := some uptoSmall }

/-- 'laws.FnExactMessageOk', WHERE WHAT IT READS IS OF BULK AT MOST 1048576: true; the input reads as it did. -/
def fnExactMessageOkUptoRow : OpenClaim := { program := "ytmllcomppjkhhaadoor", sum := "de8f1c120dd222b97c526b5c23e5801e902cecace94fbb2a7705d57f710741ea", func := "loop.example/g00127/laws.FnExactMessageOk", spec := "fnExactMessageOk", named := ["loop.example/g00127/impl.leastNumbers", "loop.example/g00127/impl.mostNumbers"], apart := false, laid := [("loop.example/g00127/impl.leastNumbers", laid_loop_example_g00127_impl_leastNumbers), ("loop.example/g00127/impl.mostNumbers", laid_loop_example_g00127_impl_mostNumbers)], narrowed := true }
def FnExactMessageOkUptoSaid : Prop := fnExactMessageOkUptoRow.holds Tryd.pinned (OpenSpec.upto fnExactMessageOkSpec)

/-- 'laws.FnExactEncode', WHERE WHAT IT READS IS OF BULK AT MOST 1048576: true; the input reads as it did. -/
def fnExactEncodeUptoRow : OpenClaim := { program := "ytmllcomppjkhhaadoor", sum := "de8f1c120dd222b97c526b5c23e5801e902cecace94fbb2a7705d57f710741ea", func := "loop.example/g00127/laws.FnExactEncode", spec := "fnExactEncode", inPlace := ["internal/abi.NoEscape"], unfollowed := true, recurses := true, named := ["loop.example/g00127/impl.leastNumbers", "loop.example/g00127/impl.mostNumbers"], apart := false, laid := [("loop.example/g00127/impl.leastNumbers", laid_loop_example_g00127_impl_leastNumbers), ("loop.example/g00127/impl.mostNumbers", laid_loop_example_g00127_impl_mostNumbers)], narrowed := true }
def FnExactEncodeUptoSaid : Prop := fnExactEncodeUptoRow.holds Tryd.pinned (OpenSpec.upto fnExactEncodeSpec)

/-- 'laws.FnExactDecode', WHERE WHAT IT READS IS OF BULK AT MOST 1048576: true; the input reads as it did. -/
def fnExactDecodeUptoRow : OpenClaim := { program := "ytmllcomppjkhhaadoor", sum := "de8f1c120dd222b97c526b5c23e5801e902cecace94fbb2a7705d57f710741ea", func := "loop.example/g00127/laws.FnExactDecode", spec := "fnExactDecode", unfollowed := true, recurses := true, named := ["loop.example/g00127/impl.leastNumbers", "loop.example/g00127/impl.mostNumbers"], apart := false, laid := [("loop.example/g00127/impl.leastNumbers", laid_loop_example_g00127_impl_leastNumbers), ("loop.example/g00127/impl.mostNumbers", laid_loop_example_g00127_impl_mostNumbers)], narrowed := true }
def FnExactDecodeUptoSaid : Prop := fnExactDecodeUptoRow.holds Tryd.pinned (OpenSpec.upto fnExactDecodeSpec)

end Rows
end Go.Proofs.YtmllcomppjkhhaaDoor
