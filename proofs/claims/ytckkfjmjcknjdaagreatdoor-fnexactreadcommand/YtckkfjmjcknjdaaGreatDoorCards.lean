/-
  DERIVED. GIVEN WITH THE SEED: THE CARDS: each row of YtckkfjmjcknjdaaGreatDoorRows.lean that lists a variable, with what it lists TIED to the program's text (the seventh form; the later family's looks); each row that meets fmt, with fmt's text TOLD by the authors' own Lean function (tested against real Go, not proved from fmt's source: count such statements apart). THE CARD IS WHAT COUNTS. Prove the row's statement (the work); the ties are given (YtckkfjmjcknjdaaGreatDoorTie.lean); close each card by the builder's one call (the guide's Derived/Test/ToyasCard.lean, 'card_holds'). Laid BY PROGRAM, IN A SANDBOX (cutbox-door.mjs). By AI agents, Wed Nov 11 2026. No macro, syntax, notation, axiom, sorry.
-/
import Derived.Test.YtckkfjmjcknjdaaGreatDoorRows
import GoSem.ClaimSeven
namespace Go.Proofs.YtckkfjmjcknjdaaGreatDoor
namespace Rows

/-- THE TIED CARD OF 'laws.FnExactCommandOk'. -/
def fnExactCommandOkCard : Claim7 := { stood := { row := fnExactCommandOkRow, standIns := [], harness := (true, "a0246ad57393024f50908d9f6d67f2e76721b32f4f1829df0defedbfcc74f4bc"), looks := false }, kinds := [], alts := [], laidByText := true, laidKinds := [.data, .data, .data], laidTests := true, laidLooks := .later }
def FnExactCommandOkCardSaid : Prop := Claim7.holds Tryz.pinned (.plain (OpenSpec.ofChange fnExactCommandOkSpec)) fnExactCommandOkCard

/-- THE TIED CARD OF 'laws.FnExactCommandText'. -/
def fnExactCommandTextCard : Claim7 := { stood := { row := fnExactCommandTextRow, standIns := [], harness := (true, "a0246ad57393024f50908d9f6d67f2e76721b32f4f1829df0defedbfcc74f4bc"), looks := false }, kinds := [], alts := [], laidByText := true, laidKinds := [.data, .data, .data], laidTests := true, laidLooks := .later }
def FnExactCommandTextCardSaid : Prop := Claim7.holds Tryz.pinned (.plain (OpenSpec.ofChange fnExactCommandTextSpec)) fnExactCommandTextCard

/-- THE TIED CARD OF 'laws.FnExactReadCommand'. -/
def fnExactReadCommandCard : Claim7 := { stood := { row := fnExactReadCommandRow, standIns := [], harness := (true, "a0246ad57393024f50908d9f6d67f2e76721b32f4f1829df0defedbfcc74f4bc"), looks := false }, kinds := [], alts := [], laidByText := true, laidKinds := [.data, .data, .data], laidTests := true, laidLooks := .later }
def FnExactReadCommandCardSaid : Prop := Claim7.holds Tryz.pinned (.plain (OpenSpec.ofChange fnExactReadCommandSpec)) fnExactReadCommandCard

/-- THE SECOND FORM's CARD OF 'laws.FnExactCommandOk'. -/
def fnExactCommandOkUptoCard : Claim7 := { stood := { row := fnExactCommandOkUptoRow, standIns := [], harness := (true, "a0246ad57393024f50908d9f6d67f2e76721b32f4f1829df0defedbfcc74f4bc"), looks := false }, kinds := [], alts := [], laidByText := true, laidKinds := [.data, .data, .data], laidTests := true, laidLooks := .later }
def FnExactCommandOkUptoCardSaid : Prop := Claim7.holds Tryz.pinned (.plain (OpenSpec.upto fnExactCommandOkSpec)) fnExactCommandOkUptoCard

/-- THE SECOND FORM's CARD OF 'laws.FnExactCommandText'. -/
def fnExactCommandTextUptoCard : Claim7 := { stood := { row := fnExactCommandTextUptoRow, standIns := [], harness := (true, "a0246ad57393024f50908d9f6d67f2e76721b32f4f1829df0defedbfcc74f4bc"), looks := false }, kinds := [], alts := [], laidByText := true, laidKinds := [.data, .data, .data], laidTests := true, laidLooks := .later }
def FnExactCommandTextUptoCardSaid : Prop := Claim7.holds Tryz.pinned (.plain (OpenSpec.upto fnExactCommandTextSpec)) fnExactCommandTextUptoCard

/-- THE SECOND FORM's CARD OF 'laws.FnExactReadCommand'. -/
def fnExactReadCommandUptoCard : Claim7 := { stood := { row := fnExactReadCommandUptoRow, standIns := [], harness := (true, "a0246ad57393024f50908d9f6d67f2e76721b32f4f1829df0defedbfcc74f4bc"), looks := false }, kinds := [], alts := [], laidByText := true, laidKinds := [.data, .data, .data], laidTests := true, laidLooks := .later }
def FnExactReadCommandUptoCardSaid : Prop := Claim7.holds Tryz.pinned (.plain (OpenSpec.upto fnExactReadCommandSpec)) fnExactReadCommandUptoCard
end Rows
end Go.Proofs.YtckkfjmjcknjdaaGreatDoor
