/-
  DERIVED. GIVEN WITH THE SEED: THE CARDS: each row of YtmhppadblddjoacDoorRows.lean that lists a variable, with what it lists TIED to the program's text (the seventh form; the later family's looks); each row that meets fmt, with fmt's text TOLD by the authors' own Lean function (tested against real Go, not proved from fmt's source: count such statements apart). THE CARD IS WHAT COUNTS. Prove the row's statement (the work); the ties are given (YtmhppadblddjoacDoorTie.lean); close each card by the builder's one call (the guide's Derived/Test/ToyasCard.lean, 'card_holds'). Laid BY PROGRAM, IN A SANDBOX (cutbox-door.mjs). By AI agents, Wed Nov 11 2026. No macro, syntax, notation, axiom, sorry.
-/
import Derived.Test.YtmhppadblddjoacDoorRows
import GoSem.ClaimSeven
namespace Go.Proofs.YtmhppadblddjoacDoor
namespace Rows

/-- THE TIED CARD OF 'laws.FnExactFair'. -/
def fnExactFairCard : Claim7 := { stood := { row := fnExactFairRow, standIns := [], harness := (true, "ff15ce8309f353a744feb5d81e2357d09417e7cc2024ca8a11766a3628a1ba70"), looks := true }, kinds := [], alts := [], laidByText := true, laidKinds := [.handle], laidTests := true, laidLooks := .later }
def FnExactFairCardSaid : Prop := Claim7.holds Tryd.pinned (.plain (OpenSpec.ofChange fnExactFairSpec)) fnExactFairCard

/-- THE TIED CARD OF 'laws.FnExactFelt'. -/
def fnExactFeltCard : Claim7 := { stood := { row := fnExactFeltRow, standIns := [], harness := (true, "ff15ce8309f353a744feb5d81e2357d09417e7cc2024ca8a11766a3628a1ba70"), looks := true }, kinds := [], alts := [], laidByText := true, laidKinds := [.handle], laidTests := true, laidLooks := .later }
def FnExactFeltCardSaid : Prop := Claim7.holds Tryd.pinned (.plain (OpenSpec.ofChange fnExactFeltSpec)) fnExactFeltCard

/-- THE TIED CARD OF 'laws.FnExactAnswer'. -/
def fnExactAnswerCard : Claim7 := { stood := { row := fnExactAnswerRow, standIns := [], harness := (true, "ff15ce8309f353a744feb5d81e2357d09417e7cc2024ca8a11766a3628a1ba70"), looks := true }, kinds := [], alts := [], laidByText := true, laidKinds := [.data, .data, .data], laidTests := true, laidLooks := .later }
def FnExactAnswerCardSaid : Prop := Claim7.holds Tryd.pinned (.plain (OpenSpec.ofChange fnExactAnswerSpec)) fnExactAnswerCard

/-- THE SECOND FORM's CARD OF 'laws.FnExactFair'. -/
def fnExactFairUptoCard : Claim7 := { stood := { row := fnExactFairUptoRow, standIns := [], harness := (true, "ff15ce8309f353a744feb5d81e2357d09417e7cc2024ca8a11766a3628a1ba70"), looks := true }, kinds := [], alts := [], laidByText := true, laidKinds := [.handle], laidTests := true, laidLooks := .later }
def FnExactFairUptoCardSaid : Prop := Claim7.holds Tryd.pinned (.plain (OpenSpec.upto fnExactFairSpec)) fnExactFairUptoCard

/-- THE SECOND FORM's CARD OF 'laws.FnExactFelt'. -/
def fnExactFeltUptoCard : Claim7 := { stood := { row := fnExactFeltUptoRow, standIns := [], harness := (true, "ff15ce8309f353a744feb5d81e2357d09417e7cc2024ca8a11766a3628a1ba70"), looks := true }, kinds := [], alts := [], laidByText := true, laidKinds := [.handle], laidTests := true, laidLooks := .later }
def FnExactFeltUptoCardSaid : Prop := Claim7.holds Tryd.pinned (.plain (OpenSpec.upto fnExactFeltSpec)) fnExactFeltUptoCard

/-- THE SECOND FORM's CARD OF 'laws.FnExactAnswer'. -/
def fnExactAnswerUptoCard : Claim7 := { stood := { row := fnExactAnswerUptoRow, standIns := [], harness := (true, "ff15ce8309f353a744feb5d81e2357d09417e7cc2024ca8a11766a3628a1ba70"), looks := true }, kinds := [], alts := [], laidByText := true, laidKinds := [.data, .data, .data], laidTests := true, laidLooks := .later }
def FnExactAnswerUptoCardSaid : Prop := Claim7.holds Tryd.pinned (.plain (OpenSpec.upto fnExactAnswerSpec)) fnExactAnswerUptoCard
end Rows
end Go.Proofs.YtmhppadblddjoacDoor
