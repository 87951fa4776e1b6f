/-
  DERIVED. GIVEN WITH THE SEED: THE CARDS: each row of YtmhppadblddjoaaDoorRows.lean that lists a variable, with what it lists TIED to the program's text (the seventh form; the later family's looks); each row that meets fmt, with fmt's text TOLD by the authors' own Lean function (tested against real Go, not proved from fmt's source: count such statements apart). THE CARD IS WHAT COUNTS. Prove the row's statement (the work); the ties are given (YtmhppadblddjoaaDoorTie.lean); close each card by the builder's one call (the guide's Derived/Test/ToyasCard.lean, 'card_holds'). Laid BY PROGRAM, IN A SANDBOX (cutbox-door.mjs). By AI agents, Wed Nov 11 2026. No macro, syntax, notation, axiom, sorry.
-/
import Derived.Test.YtmhppadblddjoaaDoorRows
import GoSem.ClaimSeven
namespace Go.Proofs.YtmhppadblddjoaaDoor
namespace Rows

/-- THE TIED CARD OF 'laws.FnTop'. -/
def fnTopCard : Claim7 := { stood := { row := fnTopRow, standIns := [], harness := (true, "ff7ee4eff81c29bf78cbe65e34e4e7155ee5f454ea2f8323228e6d2881e0ead0"), looks := true }, kinds := [], alts := [], laidByText := true, laidKinds := [.data, .data, .data], laidTests := true, laidLooks := .later }
def FnTopCardSaid : Prop := Claim7.holds Tryd.pinned (.plain (OpenSpec.ofChange fnTopSpec)) fnTopCard

/-- THE TIED CARD OF 'laws.FnTrue'. -/
def fnTrueCard : Claim7 := { stood := { row := fnTrueRow, standIns := [], harness := (true, "ff7ee4eff81c29bf78cbe65e34e4e7155ee5f454ea2f8323228e6d2881e0ead0"), looks := true }, kinds := [], alts := [], laidByText := true, laidKinds := [.handle], laidTests := true, laidLooks := .later }
def FnTrueCardSaid : Prop := Claim7.holds Tryd.pinned (.plain (OpenSpec.ofChange fnTrueSpec)) fnTrueCard

/-- THE TIED CARD OF 'laws.FnJust'. -/
def fnJustCard : Claim7 := { stood := { row := fnJustRow, standIns := [], harness := (true, "ff7ee4eff81c29bf78cbe65e34e4e7155ee5f454ea2f8323228e6d2881e0ead0"), looks := true }, kinds := [], alts := [], laidByText := true, laidKinds := [.handle], laidTests := true, laidLooks := .later }
def FnJustCardSaid : Prop := Claim7.holds Tryd.pinned (.plain (OpenSpec.ofChange fnJustSpec)) fnJustCard

/-- THE SECOND FORM's CARD OF 'laws.FnTop'. -/
def fnTopUptoCard : Claim7 := { stood := { row := fnTopUptoRow, standIns := [], harness := (true, "ff7ee4eff81c29bf78cbe65e34e4e7155ee5f454ea2f8323228e6d2881e0ead0"), looks := true }, kinds := [], alts := [], laidByText := true, laidKinds := [.data, .data, .data], laidTests := true, laidLooks := .later }
def FnTopUptoCardSaid : Prop := Claim7.holds Tryd.pinned (.plain (OpenSpec.upto fnTopSpec)) fnTopUptoCard

/-- THE SECOND FORM's CARD OF 'laws.FnTrue'. -/
def fnTrueUptoCard : Claim7 := { stood := { row := fnTrueUptoRow, standIns := [], harness := (true, "ff7ee4eff81c29bf78cbe65e34e4e7155ee5f454ea2f8323228e6d2881e0ead0"), looks := true }, kinds := [], alts := [], laidByText := true, laidKinds := [.handle], laidTests := true, laidLooks := .later }
def FnTrueUptoCardSaid : Prop := Claim7.holds Tryd.pinned (.plain (OpenSpec.upto fnTrueSpec)) fnTrueUptoCard

/-- THE SECOND FORM's CARD OF 'laws.FnJust'. -/
def fnJustUptoCard : Claim7 := { stood := { row := fnJustUptoRow, standIns := [], harness := (true, "ff7ee4eff81c29bf78cbe65e34e4e7155ee5f454ea2f8323228e6d2881e0ead0"), looks := true }, kinds := [], alts := [], laidByText := true, laidKinds := [.handle], laidTests := true, laidLooks := .later }
def FnJustUptoCardSaid : Prop := Claim7.holds Tryd.pinned (.plain (OpenSpec.upto fnJustSpec)) fnJustUptoCard
end Rows
end Go.Proofs.YtmhppadblddjoaaDoor
