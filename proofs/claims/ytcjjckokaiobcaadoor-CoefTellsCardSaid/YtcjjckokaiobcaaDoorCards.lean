/-
  DERIVED. GIVEN WITH THE SEED: THE CARDS: each row of YtcjjckokaiobcaaDoorRows.lean that lists a variable, with what it lists TIED to the program's text (the seventh form; the later family's looks); each row that meets fmt, with fmt's text TOLD by the authors' own Lean function (tested against real Go, not proved from fmt's source: count such statements apart). THE CARD IS WHAT COUNTS. Prove the row's statement (the work); the ties are given (YtcjjckokaiobcaaDoorTie.lean); close each card by the builder's one call (the guide's Derived/Test/ToyasCard.lean, 'card_holds'). Laid BY PROGRAM, IN A SANDBOX (cutbox-door.mjs). By AI agents, Wed Nov 11 2026. No macro, syntax, notation, axiom, sorry.
-/
import Derived.Test.YtcjjckokaiobcaaDoorRows
import GoSem.ClaimSeven
namespace Go.Proofs.YtcjjckokaiobcaaDoor
namespace Rows

/-- THE TIED CARD OF 'gyrelaw14.CoefTells'. -/
def coefTellsCard : Claim7 := { stood := { row := coefTellsRow, standIns := [], harness := (true, "38cb239e26b6c6156de54705b038d7bf20d344824a5b25791c1ae00182dce2fc"), looks := false }, kinds := [], alts := [], laidByText := true, laidKinds := [.data, .data, .data], laidTests := true, laidLooks := .later }
def CoefTellsCardSaid : Prop := Claim7.holds Tryd.pinned (.plain (OpenSpec.ofChange coefTellsSpec)) coefTellsCard

/-- THE TIED CARD OF 'gyrelaw14.CoefWhole'. -/
def coefWholeCard : Claim7 := { stood := { row := coefWholeRow, standIns := [], harness := (true, "38cb239e26b6c6156de54705b038d7bf20d344824a5b25791c1ae00182dce2fc"), looks := false }, kinds := [], alts := [], laidByText := true, laidKinds := [.data, .data, .data], laidTests := true, laidLooks := .later }
def CoefWholeCardSaid : Prop := Claim7.holds Tryd.pinned (.plain (OpenSpec.ofChange coefWholeSpec)) coefWholeCard

/-- THE TIED CARD OF 'gyrelaw14.CoefBack'. -/
def coefBackCard : Claim7 := { stood := { row := coefBackRow, standIns := [], harness := (true, "38cb239e26b6c6156de54705b038d7bf20d344824a5b25791c1ae00182dce2fc"), looks := false }, kinds := [], alts := [], laidByText := true, laidKinds := [.data, .data, .data], laidTests := true, laidLooks := .later }
def CoefBackCardSaid : Prop := Claim7.holds Tryd.pinned (.plain (OpenSpec.ofChange coefBackSpec)) coefBackCard

/-- THE TIED CARD OF 'gyrelaw14.CoefTotal'. -/
def coefTotalCard : Claim7 := { stood := { row := coefTotalRow, standIns := [], harness := (true, "38cb239e26b6c6156de54705b038d7bf20d344824a5b25791c1ae00182dce2fc"), looks := false }, kinds := [], alts := [], laidByText := true, laidKinds := [.data, .data, .data], laidTests := true, laidLooks := .later }
def CoefTotalCardSaid : Prop := Claim7.holds Tryd.pinned (.plain (OpenSpec.ofChange coefTotalSpec)) coefTotalCard

/-- THE TIED CARD OF 'gyrelaw14.CoefSigns'. -/
def coefSignsCard : Claim7 := { stood := { row := coefSignsRow, standIns := [], harness := (true, "38cb239e26b6c6156de54705b038d7bf20d344824a5b25791c1ae00182dce2fc"), looks := false }, kinds := [], alts := [], laidByText := true, laidKinds := [.data, .data, .data], laidTests := true, laidLooks := .later }
def CoefSignsCardSaid : Prop := Claim7.holds Tryd.pinned (.plain (OpenSpec.ofChange coefSignsSpec)) coefSignsCard

/-- THE SECOND FORM's CARD OF 'gyrelaw14.CoefTells'. -/
def coefTellsUptoCard : Claim7 := { stood := { row := coefTellsUptoRow, standIns := [], harness := (true, "38cb239e26b6c6156de54705b038d7bf20d344824a5b25791c1ae00182dce2fc"), looks := false }, kinds := [], alts := [], laidByText := true, laidKinds := [.data, .data, .data], laidTests := true, laidLooks := .later }
def CoefTellsUptoCardSaid : Prop := Claim7.holds Tryd.pinned (.plain (OpenSpec.upto coefTellsSpec)) coefTellsUptoCard

/-- THE SECOND FORM's CARD OF 'gyrelaw14.CoefWhole'. -/
def coefWholeUptoCard : Claim7 := { stood := { row := coefWholeUptoRow, standIns := [], harness := (true, "38cb239e26b6c6156de54705b038d7bf20d344824a5b25791c1ae00182dce2fc"), looks := false }, kinds := [], alts := [], laidByText := true, laidKinds := [.data, .data, .data], laidTests := true, laidLooks := .later }
def CoefWholeUptoCardSaid : Prop := Claim7.holds Tryd.pinned (.plain (OpenSpec.upto coefWholeSpec)) coefWholeUptoCard

/-- THE SECOND FORM's CARD OF 'gyrelaw14.CoefBack'. -/
def coefBackUptoCard : Claim7 := { stood := { row := coefBackUptoRow, standIns := [], harness := (true, "38cb239e26b6c6156de54705b038d7bf20d344824a5b25791c1ae00182dce2fc"), looks := false }, kinds := [], alts := [], laidByText := true, laidKinds := [.data, .data, .data], laidTests := true, laidLooks := .later }
def CoefBackUptoCardSaid : Prop := Claim7.holds Tryd.pinned (.plain (OpenSpec.upto coefBackSpec)) coefBackUptoCard

/-- THE SECOND FORM's CARD OF 'gyrelaw14.CoefTotal'. -/
def coefTotalUptoCard : Claim7 := { stood := { row := coefTotalUptoRow, standIns := [], harness := (true, "38cb239e26b6c6156de54705b038d7bf20d344824a5b25791c1ae00182dce2fc"), looks := false }, kinds := [], alts := [], laidByText := true, laidKinds := [.data, .data, .data], laidTests := true, laidLooks := .later }
def CoefTotalUptoCardSaid : Prop := Claim7.holds Tryd.pinned (.plain (OpenSpec.upto coefTotalSpec)) coefTotalUptoCard

/-- THE SECOND FORM's CARD OF 'gyrelaw14.CoefSigns'. -/
def coefSignsUptoCard : Claim7 := { stood := { row := coefSignsUptoRow, standIns := [], harness := (true, "38cb239e26b6c6156de54705b038d7bf20d344824a5b25791c1ae00182dce2fc"), looks := false }, kinds := [], alts := [], laidByText := true, laidKinds := [.data, .data, .data], laidTests := true, laidLooks := .later }
def CoefSignsUptoCardSaid : Prop := Claim7.holds Tryd.pinned (.plain (OpenSpec.upto coefSignsSpec)) coefSignsUptoCard
end Rows
end Go.Proofs.YtcjjckokaiobcaaDoor
