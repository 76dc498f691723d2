/-
  No cell of these rows narrows 'for every input' (looked for: loops, veiled, ifaces, maps, wideKeys, modest, calm, conditions, laid).
  DERIVED. THE GIVEN ROWS OF THIS SEAT. 4 by the template 'for every input the law returns true; each argument reads behind the call as it read before'; 0 by the template 'total and deterministic' (their statements: YtmikjgflenbljaaTotals.lean).
  GIVEN WITH THE SEED: the statements are not yours to turn. If you find one false, say at which input.
  Laid BY PROGRAM, IN A SANDBOX (cutbox-rows.mjs): the forced cells as the released guide's own fill.sh prints them over the translation fdb248aea1d7f5f0… (all of the seat's roots in one cut). By AI agents, Wed Nov 11 2026. No macro, syntax, notation, axiom, sorry.
-/
import Derived.Test.YtmikjgflenbljaaChecked
import GoSem.Claim
import GoSem.ClaimJoined
import GoSem.ClaimMapViews
import Derived.JoinedTies
import Derived.KernelRfl
namespace Go.Proofs.Ytmikjgflenbljaa
/- THE CELL 'sum', in the pinned program and in every row, IS THE sha256 OF THE DUMP (.gsa) THAT YtmikjgflenbljaaProg.lean LOADS. Nothing in Lean hashes anything: it is a label: what it is worth is what the hold of that sum in a sandbox is worth. -/
noncomputable def Try.pinned : Pinned := { name := "ytmikjgflenbljaa", sum := "fdb248aea1d7f5f00b0f9f3045e9af76e4dc4027d15a731e6dcd4c10d1f0e4d1", checked := Try.checked }
namespace Rows
def none {H : Type} : Left H := { results := [], args := [] }

/-- 'gyrelaw10.StateRows': WHATEVER THE INPUT: true; the input reads as it did. -/
def stateRowsSpec : ChangeSpec := { name := "stateRows", fn := fun _ => fun
  | [d1, d2] => { results := [.lit (.bool true)], args := [d1, d2] }
  | _ => none }
def stateRowsRow : OpenClaim := { program := "ytmikjgflenbljaa", sum := "fdb248aea1d7f5f00b0f9f3045e9af76e4dc4027d15a731e6dcd4c10d1f0e4d1", func := "gyre/gyrelaw10.StateRows", spec := "stateRows", unfollowed := true, recurses := true, apart := false }
def StateRowsSaid : Prop := stateRowsRow.holds Try.pinned (OpenSpec.ofChange stateRowsSpec)

/-- ITS FALSE NEIGHBOUR: 'it returns false'. Refute it at one input. -/
def stateRowsWrong : ChangeSpec := { name := "stateRows", fn := fun _ => fun
  | [d1, d2] => { results := [.lit (.bool false)], args := [d1, d2] }
  | _ => none }
def StateRowsWrongFalsely : Prop := stateRowsRow.holds Try.pinned (OpenSpec.ofChange stateRowsWrong)

/-- 'gyrelaw10.StateTurned': WHATEVER THE INPUT: true; the input reads as it did. -/
def stateTurnedSpec : ChangeSpec := { name := "stateTurned", fn := fun _ => fun
  | [d] => { results := [.lit (.bool true)], args := [d] }
  | _ => none }
def stateTurnedRow : OpenClaim := { program := "ytmikjgflenbljaa", sum := "fdb248aea1d7f5f00b0f9f3045e9af76e4dc4027d15a731e6dcd4c10d1f0e4d1", func := "gyre/gyrelaw10.StateTurned", spec := "stateTurned", unfollowed := true, recurses := true, apart := false }
def StateTurnedSaid : Prop := stateTurnedRow.holds Try.pinned (OpenSpec.ofChange stateTurnedSpec)

/-- ITS FALSE NEIGHBOUR: 'it returns false'. Refute it at one input. -/
def stateTurnedWrong : ChangeSpec := { name := "stateTurned", fn := fun _ => fun
  | [d] => { results := [.lit (.bool false)], args := [d] }
  | _ => none }
def StateTurnedWrongFalsely : Prop := stateTurnedRow.holds Try.pinned (OpenSpec.ofChange stateTurnedWrong)

/-- 'gyrelaw10.StateWithin': WHATEVER THE INPUT: true; the input reads as it did. -/
def stateWithinSpec : ChangeSpec := { name := "stateWithin", fn := fun _ => fun
  | [d1, d2, d3, d4, d5] => { results := [.lit (.bool true)], args := [d1, d2, d3, d4, d5] }
  | _ => none }
def stateWithinRow : OpenClaim := { program := "ytmikjgflenbljaa", sum := "fdb248aea1d7f5f00b0f9f3045e9af76e4dc4027d15a731e6dcd4c10d1f0e4d1", func := "gyre/gyrelaw10.StateWithin", spec := "stateWithin", unfollowed := true, recurses := true, apart := false }
def StateWithinSaid : Prop := stateWithinRow.holds Try.pinned (OpenSpec.ofChange stateWithinSpec)

/-- ITS FALSE NEIGHBOUR: 'it returns false'. Refute it at one input. -/
def stateWithinWrong : ChangeSpec := { name := "stateWithin", fn := fun _ => fun
  | [d1, d2, d3, d4, d5] => { results := [.lit (.bool false)], args := [d1, d2, d3, d4, d5] }
  | _ => none }
def StateWithinWrongFalsely : Prop := stateWithinRow.holds Try.pinned (OpenSpec.ofChange stateWithinWrong)

/-- 'gyrelaw10.StateLeast': WHATEVER THE INPUT: true; the input reads as it did. -/
def stateLeastSpec : ChangeSpec := { name := "stateLeast", fn := fun _ => fun
  | [d] => { results := [.lit (.bool true)], args := [d] }
  | _ => none }
def stateLeastRow : OpenClaim := { program := "ytmikjgflenbljaa", sum := "fdb248aea1d7f5f00b0f9f3045e9af76e4dc4027d15a731e6dcd4c10d1f0e4d1", func := "gyre/gyrelaw10.StateLeast", spec := "stateLeast", unfollowed := true, recurses := true, apart := false }
def StateLeastSaid : Prop := stateLeastRow.holds Try.pinned (OpenSpec.ofChange stateLeastSpec)

/-- ITS FALSE NEIGHBOUR: 'it returns false'. Refute it at one input. -/
def stateLeastWrong : ChangeSpec := { name := "stateLeast", fn := fun _ => fun
  | [d] => { results := [.lit (.bool false)], args := [d] }
  | _ => none }
def StateLeastWrongFalsely : Prop := stateLeastRow.holds Try.pinned (OpenSpec.ofChange stateLeastWrong)

/- THE SECOND FORM. 'bulk': how many values and letters a reading holds, each counted each time it is reached (what is shared counts as often as it is met; a slice's spare places count too). A statement '..UptoSaid' is the law's where the arguments, and the package variables that the reading takes, are together of bulk at most 1048576: NARROWER than '..Said'. Prove '..Said' where nothing that the law and all that it calls make is longer than what came in: it says more and counts as full. Else prove '..UptoSaid'. A law counts once. -/
mutual
def uptoBulk {H : Type} : DataW H → Nat
  | .lit (.string bytes) => bytes.length + 1
  | .lit _ => 1
  | .nil => 1
  | .ptr d => uptoBulk d + 1
  | .slice elems spare => uptoBulkAll elems + uptoBulkAll spare + 1
  | .agg parts => uptoBulkAll parts + 1
  | .iface _ d => uptoBulk d + 1
  | .map entries => uptoBulkEntries entries + 1
  | .held _ => 1
def uptoBulkAll {H : Type} : List (DataW H) → Nat
  | [] => 0
  | d :: r => uptoBulk d + uptoBulkAll r
def uptoBulkEntries {H : Type} : List (Lit × DataW H) → Nat
  | [] => 0
  | x :: r => uptoBulkEntry x + uptoBulkEntries r
def uptoBulkEntry {H : Type} : Lit × DataW H → Nat
  | (.string bytes, d) => bytes.length + uptoBulk d + 1
  | (_, d) => uptoBulk d + 1
 end
def uptoSmall : (H : Type) → List (DataW H) → Bool := fun _ ds => decide (uptoBulkAll ds ≤ 1048576)
def OpenSpec.upto (s : _root_.Go.ChangeSpec) : _root_.Go.OpenSpec := { _root_.Go.OpenSpec.ofChange s with cond := some uptoSmall }

/-- 'gyrelaw10.StateRows', WHERE WHAT IT READS IS OF BULK AT MOST 1048576: true; the input reads as it did. -/
def stateRowsUptoRow : OpenClaim := { program := "ytmikjgflenbljaa", sum := "fdb248aea1d7f5f00b0f9f3045e9af76e4dc4027d15a731e6dcd4c10d1f0e4d1", func := "gyre/gyrelaw10.StateRows", spec := "stateRows", unfollowed := true, recurses := true, apart := false, narrowed := true }
def StateRowsUptoSaid : Prop := stateRowsUptoRow.holds Try.pinned (OpenSpec.upto stateRowsSpec)

/-- 'gyrelaw10.StateTurned', WHERE WHAT IT READS IS OF BULK AT MOST 1048576: true; the input reads as it did. -/
def stateTurnedUptoRow : OpenClaim := { program := "ytmikjgflenbljaa", sum := "fdb248aea1d7f5f00b0f9f3045e9af76e4dc4027d15a731e6dcd4c10d1f0e4d1", func := "gyre/gyrelaw10.StateTurned", spec := "stateTurned", unfollowed := true, recurses := true, apart := false, narrowed := true }
def StateTurnedUptoSaid : Prop := stateTurnedUptoRow.holds Try.pinned (OpenSpec.upto stateTurnedSpec)

/-- 'gyrelaw10.StateWithin', WHERE WHAT IT READS IS OF BULK AT MOST 1048576: true; the input reads as it did. -/
def stateWithinUptoRow : OpenClaim := { program := "ytmikjgflenbljaa", sum := "fdb248aea1d7f5f00b0f9f3045e9af76e4dc4027d15a731e6dcd4c10d1f0e4d1", func := "gyre/gyrelaw10.StateWithin", spec := "stateWithin", unfollowed := true, recurses := true, apart := false, narrowed := true }
def StateWithinUptoSaid : Prop := stateWithinUptoRow.holds Try.pinned (OpenSpec.upto stateWithinSpec)

/-- 'gyrelaw10.StateLeast', WHERE WHAT IT READS IS OF BULK AT MOST 1048576: true; the input reads as it did. -/
def stateLeastUptoRow : OpenClaim := { program := "ytmikjgflenbljaa", sum := "fdb248aea1d7f5f00b0f9f3045e9af76e4dc4027d15a731e6dcd4c10d1f0e4d1", func := "gyre/gyrelaw10.StateLeast", spec := "stateLeast", unfollowed := true, recurses := true, apart := false, narrowed := true }
def StateLeastUptoSaid : Prop := stateLeastUptoRow.holds Try.pinned (OpenSpec.upto stateLeastSpec)

end Rows
end Go.Proofs.Ytmikjgflenbljaa
