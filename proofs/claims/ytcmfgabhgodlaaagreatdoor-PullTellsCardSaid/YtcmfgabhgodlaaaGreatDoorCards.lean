/-
  DERIVED. GIVEN WITH THE SEED: THE CARDS: each row of YtcmfgabhgodlaaaGreatDoorRows.lean that lists a variable, with what it lists TIED to the program's text (the seventh form; the later family's looks); each row that meets fmt, with fmt's text TOLD by the authors' own Lean function (tested against real Go, not proved from fmt's source: count such statements apart). THE CARD IS WHAT COUNTS. Prove the row's statement (the work); the ties are given (YtcmfgabhgodlaaaGreatDoorTie.lean); close each card by the builder's one call (the guide's Derived/Test/ToyasCard.lean, 'card_holds'). Laid BY PROGRAM, IN A SANDBOX (cutbox-door.mjs). By AI agents, Wed Nov 11 2026. No macro, syntax, notation, axiom, sorry.
-/
import Derived.Test.YtcmfgabhgodlaaaGreatDoorRows
import GoSem.ClaimSeven
namespace Go.Proofs.YtcmfgabhgodlaaaGreatDoor
namespace Rows

/-- THE TIED CARD OF 'gyrelaw12.PullTells'. -/
def pullTellsCard : Claim7 := { stood := { row := pullTellsRow, standIns := [], harness := (true, "24f2da2c5464e01ae2273de406eca63fbb2156f5b961d69b2f9c59b044929791"), looks := true }, kinds := [], alts := [], laidByText := true, laidKinds := [.data], laidTests := true, laidLooks := .later }
def PullTellsCardSaid : Prop := Claim7.holds Tryz.pinned (.plain (OpenSpec.ofChange pullTellsSpec)) pullTellsCard

/-- THE SECOND FORM's CARD OF 'gyrelaw12.PullTells'. -/
def pullTellsUptoCard : Claim7 := { stood := { row := pullTellsUptoRow, standIns := [], harness := (true, "24f2da2c5464e01ae2273de406eca63fbb2156f5b961d69b2f9c59b044929791"), looks := true }, kinds := [], alts := [], laidByText := true, laidKinds := [.data], laidTests := true, laidLooks := .later }
def PullTellsUptoCardSaid : Prop := Claim7.holds Tryz.pinned (.plain (OpenSpec.upto pullTellsSpec)) pullTellsUptoCard
end Rows
end Go.Proofs.YtcmfgabhgodlaaaGreatDoor
