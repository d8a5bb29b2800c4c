/-
  No cell of these rows narrows 'for every input' (looked for: loops, veiled, ifaces, maps, wideKeys, modest, calm, conditions, laid).
  DERIVED. THE GIVEN ROWS OF THIS SEAT. 3 by the template 'for every input the law returns true; each argument reads behind the call as it read before'; 0 by the template 'total and deterministic' (their statements: YtbhpalmbbhgamaaTotals.lean).
  GIVEN WITH THE SEED: the statements are not yours to turn. If you find one false, say at which input.
  Laid BY PROGRAM, IN A SANDBOX (cutbox-rows.mjs): the forced cells as the released guide's own fill.sh prints them over the translation 1737358bb7eee1dc… (all of the seat's roots in one cut). By AI agents, Wed Nov 11 2026. No macro, syntax, notation, axiom, sorry.
-/
import Derived.Test.YtbhpalmbbhgamaaChecked
import GoSem.Claim
import GoSem.ClaimJoined
import GoSem.ClaimMapViews
import Derived.JoinedTies
import Derived.KernelRfl
namespace Go.Proofs.Ytbhpalmbbhgamaa
/- THE CELL 'sum', in the pinned program and in every row, IS THE sha256 OF THE DUMP (.gsa) THAT YtbhpalmbbhgamaaProg.lean LOADS. Nothing in Lean hashes anything: it is a label: what it is worth is what the hold of that sum in a sandbox is worth. -/
noncomputable def Try.pinned : Pinned := { name := "ytbhpalmbbhgamaa", sum := "1737358bb7eee1dc2cf8b45f12156585acf684bf9acc62511c143e336673deb8", checked := Try.checked }
namespace Rows
def none {H : Type} : Left H := { results := [], args := [] }

/-- 'laws.FnOutsiders': WHATEVER THE INPUT: true; the input reads as it did. -/
def fnOutsidersSpec : ChangeSpec := { name := "fnOutsiders", fn := fun _ => fun
  | [d] => { results := [.lit (.bool true)], args := [d] }
  | _ => none }
def fnOutsidersRow : OpenClaim := { program := "ytbhpalmbbhgamaa", sum := "1737358bb7eee1dc2cf8b45f12156585acf684bf9acc62511c143e336673deb8", func := "loop.example/g00127/laws.FnOutsiders", spec := "fnOutsiders", unfollowed := true, recurses := true, apart := false }
def FnOutsidersSaid : Prop := fnOutsidersRow.holds Try.pinned (OpenSpec.ofChange fnOutsidersSpec)

/-- ITS FALSE NEIGHBOUR: 'it returns false'. Refute it at one input. -/
def fnOutsidersWrong : ChangeSpec := { name := "fnOutsiders", fn := fun _ => fun
  | [d] => { results := [.lit (.bool false)], args := [d] }
  | _ => none }
def FnOutsidersWrongFalsely : Prop := fnOutsidersRow.holds Try.pinned (OpenSpec.ofChange fnOutsidersWrong)

/-- 'laws.FnPowers': WHATEVER THE INPUT: true; the input reads as it did. -/
def fnPowersSpec : ChangeSpec := { name := "fnPowers", fn := fun _ => fun
  | [d] => { results := [.lit (.bool true)], args := [d] }
  | _ => none }
def fnPowersRow : OpenClaim := { program := "ytbhpalmbbhgamaa", sum := "1737358bb7eee1dc2cf8b45f12156585acf684bf9acc62511c143e336673deb8", func := "loop.example/g00127/laws.FnPowers", spec := "fnPowers", unfollowed := true, recurses := true, apart := false }
def FnPowersSaid : Prop := fnPowersRow.holds Try.pinned (OpenSpec.ofChange fnPowersSpec)

/-- ITS FALSE NEIGHBOUR: 'it returns false'. Refute it at one input. -/
def fnPowersWrong : ChangeSpec := { name := "fnPowers", fn := fun _ => fun
  | [d] => { results := [.lit (.bool false)], args := [d] }
  | _ => none }
def FnPowersWrongFalsely : Prop := fnPowersRow.holds Try.pinned (OpenSpec.ofChange fnPowersWrong)

/-- 'laws.FnHeavier': WHATEVER THE INPUT: true; the input reads as it did. -/
def fnHeavierSpec : ChangeSpec := { name := "fnHeavier", fn := fun _ => fun
  | [d] => { results := [.lit (.bool true)], args := [d] }
  | _ => none }
def fnHeavierRow : OpenClaim := { program := "ytbhpalmbbhgamaa", sum := "1737358bb7eee1dc2cf8b45f12156585acf684bf9acc62511c143e336673deb8", func := "loop.example/g00127/laws.FnHeavier", spec := "fnHeavier", recurses := true, apart := false }
def FnHeavierSaid : Prop := fnHeavierRow.holds Try.pinned (OpenSpec.ofChange fnHeavierSpec)

/-- ITS FALSE NEIGHBOUR: 'it returns false'. Refute it at one input. -/
def fnHeavierWrong : ChangeSpec := { name := "fnHeavier", fn := fun _ => fun
  | [d] => { results := [.lit (.bool false)], args := [d] }
  | _ => none }
def FnHeavierWrongFalsely : Prop := fnHeavierRow.holds Try.pinned (OpenSpec.ofChange fnHeavierWrong)

/- THE SECOND FORM. 'bulk': how many values and letters a reading holds, each counted each time it is reached (what is shared counts as often as it is met; a slice's spare places count too). A statement '..UptoSaid' is the law's where the arguments, and the package variables that the reading takes, are together of bulk at most 1048576: NARROWER than '..Said'. Prove '..Said' where nothing that the law and all that it calls make is longer than what came in: it says more and counts as full. Else prove '..UptoSaid'. A law counts once. -/
mutual
def uptoBulk {H : Type} : DataW H → Nat
  | .lit (.string bytes) => bytes.length + 1
  | .lit _ => 1
  | .nil => 1
  | .ptr d => uptoBulk d + 1
  | .slice elems spare => uptoBulkAll elems + uptoBulkAll spare + 1
  | .agg parts => uptoBulkAll parts + 1
  | .iface _ d => uptoBulk d + 1
  | .map entries => uptoBulkEntries entries + 1
  | .held _ => 1
def uptoBulkAll {H : Type} : List (DataW H) → Nat
  | [] => 0
  | d :: r => uptoBulk d + uptoBulkAll r
def uptoBulkEntries {H : Type} : List (Lit × DataW H) → Nat
  | [] => 0
  | x :: r => uptoBulkEntry x + uptoBulkEntries r
def uptoBulkEntry {H : Type} : Lit × DataW H → Nat
  | (.string bytes, d) => bytes.length + uptoBulk d + 1
  | (_, d) => uptoBulk d + 1
 end
def uptoSmall : (H : Type) → List (DataW H) → Bool := fun _ ds => decide (uptoBulkAll ds ≤ 1048576)
def OpenSpec.upto (s : _root_.Go.ChangeSpec) : _root_.Go.OpenSpec := { _root_.Go.OpenSpec.ofChange s with cond := some uptoSmall }

/-- 'laws.FnOutsiders', WHERE WHAT IT READS IS OF BULK AT MOST 1048576: true; the input reads as it did. -/
def fnOutsidersUptoRow : OpenClaim := { program := "ytbhpalmbbhgamaa", sum := "1737358bb7eee1dc2cf8b45f12156585acf684bf9acc62511c143e336673deb8", func := "loop.example/g00127/laws.FnOutsiders", spec := "fnOutsiders", unfollowed := true, recurses := true, apart := false, narrowed := true }
def FnOutsidersUptoSaid : Prop := fnOutsidersUptoRow.holds Try.pinned (OpenSpec.upto fnOutsidersSpec)

/-- 'laws.FnPowers', WHERE WHAT IT READS IS OF BULK AT MOST 1048576: true; the input reads as it did. -/
def fnPowersUptoRow : OpenClaim := { program := "ytbhpalmbbhgamaa", sum := "1737358bb7eee1dc2cf8b45f12156585acf684bf9acc62511c143e336673deb8", func := "loop.example/g00127/laws.FnPowers", spec := "fnPowers", unfollowed := true, recurses := true, apart := false, narrowed := true }
def FnPowersUptoSaid : Prop := fnPowersUptoRow.holds Try.pinned (OpenSpec.upto fnPowersSpec)

/-- 'laws.FnHeavier', WHERE WHAT IT READS IS OF BULK AT MOST 1048576: true; the input reads as it did. -/
def fnHeavierUptoRow : OpenClaim := { program := "ytbhpalmbbhgamaa", sum := "1737358bb7eee1dc2cf8b45f12156585acf684bf9acc62511c143e336673deb8", func := "loop.example/g00127/laws.FnHeavier", spec := "fnHeavier", recurses := true, apart := false, narrowed := true }
def FnHeavierUptoSaid : Prop := fnHeavierUptoRow.holds Try.pinned (OpenSpec.upto fnHeavierSpec)

end Rows
end Go.Proofs.Ytbhpalmbbhgamaa
