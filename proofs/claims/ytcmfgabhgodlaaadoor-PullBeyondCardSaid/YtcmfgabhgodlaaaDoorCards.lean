/-
  DERIVED. GIVEN WITH THE SEED: THE CARDS: each row of YtcmfgabhgodlaaaDoorRows.lean that lists a variable, with what it lists TIED to the program's text (the seventh form; the later family's looks); each row that meets fmt, with fmt's text TOLD by the authors' own Lean function (tested against real Go, not proved from fmt's source: count such statements apart). THE CARD IS WHAT COUNTS. Prove the row's statement (the work); the ties are given (YtcmfgabhgodlaaaDoorTie.lean); close each card by the builder's one call (the guide's Derived/Test/ToyasCard.lean, 'card_holds'). Laid BY PROGRAM, IN A SANDBOX (cutbox-door.mjs). By AI agents, Wed Nov 11 2026. No macro, syntax, notation, axiom, sorry.
-/
import Derived.Test.YtcmfgabhgodlaaaDoorRows
import GoSem.ClaimSeven
namespace Go.Proofs.YtcmfgabhgodlaaaDoor
namespace Rows

/-- THE TIED CARD OF 'gyrelaw12.PullNearest'. -/
def pullNearestCard : Claim7 := { stood := { row := pullNearestRow, standIns := [], harness := (true, "3473c85ae91eab10cc01b07335ad66ec972e2942fd0c6ee14b43699aad3c1966"), looks := true }, kinds := [], alts := [], laidByText := true, laidKinds := [.data], laidTests := true, laidLooks := .later }
def PullNearestCardSaid : Prop := Claim7.holds Tryd.pinned (.plain (OpenSpec.ofChange pullNearestSpec)) pullNearestCard

/-- THE TIED CARD OF 'gyrelaw12.PullTurns'. -/
def pullTurnsCard : Claim7 := { stood := { row := pullTurnsRow, standIns := [], harness := (true, "3473c85ae91eab10cc01b07335ad66ec972e2942fd0c6ee14b43699aad3c1966"), looks := true }, kinds := [], alts := [], laidByText := true, laidKinds := [.data], laidTests := true, laidLooks := .later }
def PullTurnsCardSaid : Prop := Claim7.holds Tryd.pinned (.plain (OpenSpec.ofChange pullTurnsSpec)) pullTurnsCard

/-- THE TIED CARD OF 'gyrelaw12.PullFalls'. -/
def pullFallsCard : Claim7 := { stood := { row := pullFallsRow, standIns := [], harness := (true, "3473c85ae91eab10cc01b07335ad66ec972e2942fd0c6ee14b43699aad3c1966"), looks := true }, kinds := [], alts := [], laidByText := true, laidKinds := [.data], laidTests := true, laidLooks := .later }
def PullFallsCardSaid : Prop := Claim7.holds Tryd.pinned (.plain (OpenSpec.ofChange pullFallsSpec)) pullFallsCard

/-- THE TIED CARD OF 'gyrelaw12.PullBeyond'. -/
def pullBeyondCard : Claim7 := { stood := { row := pullBeyondRow, standIns := [], harness := (true, "3473c85ae91eab10cc01b07335ad66ec972e2942fd0c6ee14b43699aad3c1966"), looks := true }, kinds := [], alts := [], laidByText := true, laidKinds := [.data], laidTests := true, laidLooks := .later }
def PullBeyondCardSaid : Prop := Claim7.holds Tryd.pinned (.plain (OpenSpec.ofChange pullBeyondSpec)) pullBeyondCard

/-- THE SECOND FORM's CARD OF 'gyrelaw12.PullNearest'. -/
def pullNearestUptoCard : Claim7 := { stood := { row := pullNearestUptoRow, standIns := [], harness := (true, "3473c85ae91eab10cc01b07335ad66ec972e2942fd0c6ee14b43699aad3c1966"), looks := true }, kinds := [], alts := [], laidByText := true, laidKinds := [.data], laidTests := true, laidLooks := .later }
def PullNearestUptoCardSaid : Prop := Claim7.holds Tryd.pinned (.plain (OpenSpec.upto pullNearestSpec)) pullNearestUptoCard

/-- THE SECOND FORM's CARD OF 'gyrelaw12.PullTurns'. -/
def pullTurnsUptoCard : Claim7 := { stood := { row := pullTurnsUptoRow, standIns := [], harness := (true, "3473c85ae91eab10cc01b07335ad66ec972e2942fd0c6ee14b43699aad3c1966"), looks := true }, kinds := [], alts := [], laidByText := true, laidKinds := [.data], laidTests := true, laidLooks := .later }
def PullTurnsUptoCardSaid : Prop := Claim7.holds Tryd.pinned (.plain (OpenSpec.upto pullTurnsSpec)) pullTurnsUptoCard

/-- THE SECOND FORM's CARD OF 'gyrelaw12.PullFalls'. -/
def pullFallsUptoCard : Claim7 := { stood := { row := pullFallsUptoRow, standIns := [], harness := (true, "3473c85ae91eab10cc01b07335ad66ec972e2942fd0c6ee14b43699aad3c1966"), looks := true }, kinds := [], alts := [], laidByText := true, laidKinds := [.data], laidTests := true, laidLooks := .later }
def PullFallsUptoCardSaid : Prop := Claim7.holds Tryd.pinned (.plain (OpenSpec.upto pullFallsSpec)) pullFallsUptoCard

/-- THE SECOND FORM's CARD OF 'gyrelaw12.PullBeyond'. -/
def pullBeyondUptoCard : Claim7 := { stood := { row := pullBeyondUptoRow, standIns := [], harness := (true, "3473c85ae91eab10cc01b07335ad66ec972e2942fd0c6ee14b43699aad3c1966"), looks := true }, kinds := [], alts := [], laidByText := true, laidKinds := [.data], laidTests := true, laidLooks := .later }
def PullBeyondUptoCardSaid : Prop := Claim7.holds Tryd.pinned (.plain (OpenSpec.upto pullBeyondSpec)) pullBeyondUptoCard
end Rows
end Go.Proofs.YtcmfgabhgodlaaaDoor
