/-
  No cell of these rows narrows 'for every input' (looked for: loops, veiled, ifaces, maps, wideKeys, modest, calm, conditions, laid).
  DERIVED. THE GIVEN ROWS OF THIS SEAT. 9 by the template 'for every input the law returns true; each argument reads behind the call as it read before'; 0 by the template 'total and deterministic' (their statements: YtpbhoamojocbpaaTotals.lean).
  GIVEN WITH THE SEED: the statements are not yours to turn. If you find one false, say at which input.
  Laid BY PROGRAM, IN A SANDBOX (cutbox-rows.mjs): the forced cells as the released guide's own fill.sh prints them over the translation 6e84202142ffa81d… (all of the seat's roots in one cut). By AI agents, Wed Nov 11 2026. No macro, syntax, notation, axiom, sorry.
-/
import Derived.Test.YtpbhoamojocbpaaChecked
import GoSem.Claim
import GoSem.ClaimJoined
import GoSem.ClaimMapViews
import Derived.JoinedTies
import Derived.KernelRfl
namespace Go.Proofs.Ytpbhoamojocbpaa
/- THE CELL 'sum', in the pinned program and in every row, IS THE sha256 OF THE DUMP (.gsa) THAT YtpbhoamojocbpaaProg.lean LOADS. Nothing in Lean hashes anything: it is a label: what it is worth is what the hold of that sum in a sandbox is worth. -/
noncomputable def Try.pinned : Pinned := { name := "ytpbhoamojocbpaa", sum := "6e84202142ffa81d351486b460705c3b8c2dfb2b54eeb296e4aada929268d1d1", checked := Try.checked }
namespace Rows
def none {H : Type} : Left H := { results := [], args := [] }

/-- 'gyrelaw03.QuotTells': WHATEVER THE INPUT: true; the input reads as it did. -/
def quotTellsSpec : ChangeSpec := { name := "quotTells", fn := fun _ => fun
  | [d1, d2, d3, d4, d5] => { results := [.lit (.bool true)], args := [d1, d2, d3, d4, d5] }
  | _ => none }
def quotTellsRow : OpenClaim := { program := "ytpbhoamojocbpaa", sum := "6e84202142ffa81d351486b460705c3b8c2dfb2b54eeb296e4aada929268d1d1", func := "gyre/gyrelaw03.QuotTells", spec := "quotTells", inPlace := ["math/bits.Sub64", "math/bits.Add64"], unfollowed := true, recurses := true, named := ["math/bits.divideError", "math/bits.overflowError"], apart := false }
def QuotTellsSaid : Prop := quotTellsRow.holds Try.pinned (OpenSpec.ofChange quotTellsSpec)

/-- ITS FALSE NEIGHBOUR: 'it returns false'. Refute it at one input. -/
def quotTellsWrong : ChangeSpec := { name := "quotTells", fn := fun _ => fun
  | [d1, d2, d3, d4, d5] => { results := [.lit (.bool false)], args := [d1, d2, d3, d4, d5] }
  | _ => none }
def QuotTellsWrongFalsely : Prop := quotTellsRow.holds Try.pinned (OpenSpec.ofChange quotTellsWrong)

/-- 'gyrelaw03.QuotFloor': WHATEVER THE INPUT: true; the input reads as it did. -/
def quotFloorSpec : ChangeSpec := { name := "quotFloor", fn := fun _ => fun
  | [d1, d2] => { results := [.lit (.bool true)], args := [d1, d2] }
  | _ => none }
def quotFloorRow : OpenClaim := { program := "ytpbhoamojocbpaa", sum := "6e84202142ffa81d351486b460705c3b8c2dfb2b54eeb296e4aada929268d1d1", func := "gyre/gyrelaw03.QuotFloor", spec := "quotFloor", inPlace := ["math/bits.Sub64", "math/bits.Add64"], unfollowed := true, recurses := true, named := ["math/bits.divideError", "math/bits.overflowError"], apart := false }
def QuotFloorSaid : Prop := quotFloorRow.holds Try.pinned (OpenSpec.ofChange quotFloorSpec)

/-- ITS FALSE NEIGHBOUR: 'it returns false'. Refute it at one input. -/
def quotFloorWrong : ChangeSpec := { name := "quotFloor", fn := fun _ => fun
  | [d1, d2] => { results := [.lit (.bool false)], args := [d1, d2] }
  | _ => none }
def QuotFloorWrongFalsely : Prop := quotFloorRow.holds Try.pinned (OpenSpec.ofChange quotFloorWrong)

/-- 'gyrelaw03.QuotNear': WHATEVER THE INPUT: true; the input reads as it did. -/
def quotNearSpec : ChangeSpec := { name := "quotNear", fn := fun _ => fun
  | [d1, d2] => { results := [.lit (.bool true)], args := [d1, d2] }
  | _ => none }
def quotNearRow : OpenClaim := { program := "ytpbhoamojocbpaa", sum := "6e84202142ffa81d351486b460705c3b8c2dfb2b54eeb296e4aada929268d1d1", func := "gyre/gyrelaw03.QuotNear", spec := "quotNear", inPlace := ["math/bits.Sub64", "math/bits.Add64"], unfollowed := true, recurses := true, named := ["math/bits.divideError", "math/bits.overflowError"], apart := false }
def QuotNearSaid : Prop := quotNearRow.holds Try.pinned (OpenSpec.ofChange quotNearSpec)

/-- ITS FALSE NEIGHBOUR: 'it returns false'. Refute it at one input. -/
def quotNearWrong : ChangeSpec := { name := "quotNear", fn := fun _ => fun
  | [d1, d2] => { results := [.lit (.bool false)], args := [d1, d2] }
  | _ => none }
def QuotNearWrongFalsely : Prop := quotNearRow.holds Try.pinned (OpenSpec.ofChange quotNearWrong)

/-- 'gyrelaw03.QuotTurns': WHATEVER THE INPUT: true; the input reads as it did. -/
def quotTurnsSpec : ChangeSpec := { name := "quotTurns", fn := fun _ => fun
  | [d1, d2] => { results := [.lit (.bool true)], args := [d1, d2] }
  | _ => none }
def quotTurnsRow : OpenClaim := { program := "ytpbhoamojocbpaa", sum := "6e84202142ffa81d351486b460705c3b8c2dfb2b54eeb296e4aada929268d1d1", func := "gyre/gyrelaw03.QuotTurns", spec := "quotTurns", inPlace := ["math/bits.Sub64", "math/bits.Add64"], unfollowed := true, recurses := true, named := ["math/bits.divideError", "math/bits.overflowError"], apart := false }
def QuotTurnsSaid : Prop := quotTurnsRow.holds Try.pinned (OpenSpec.ofChange quotTurnsSpec)

/-- ITS FALSE NEIGHBOUR: 'it returns false'. Refute it at one input. -/
def quotTurnsWrong : ChangeSpec := { name := "quotTurns", fn := fun _ => fun
  | [d1, d2] => { results := [.lit (.bool false)], args := [d1, d2] }
  | _ => none }
def QuotTurnsWrongFalsely : Prop := quotTurnsRow.holds Try.pinned (OpenSpec.ofChange quotTurnsWrong)

/-- 'gyrelaw03.QuotInts': WHATEVER THE INPUT: true; the input reads as it did. -/
def quotIntsSpec : ChangeSpec := { name := "quotInts", fn := fun _ => fun
  | [d1, d2, d3] => { results := [.lit (.bool true)], args := [d1, d2, d3] }
  | _ => none }
def quotIntsRow : OpenClaim := { program := "ytpbhoamojocbpaa", sum := "6e84202142ffa81d351486b460705c3b8c2dfb2b54eeb296e4aada929268d1d1", func := "gyre/gyrelaw03.QuotInts", spec := "quotInts", inPlace := ["math/bits.Sub64", "math/bits.Add64"], unfollowed := true, recurses := true, named := ["math/bits.divideError", "math/bits.overflowError"], apart := false }
def QuotIntsSaid : Prop := quotIntsRow.holds Try.pinned (OpenSpec.ofChange quotIntsSpec)

/-- ITS FALSE NEIGHBOUR: 'it returns false'. Refute it at one input. -/
def quotIntsWrong : ChangeSpec := { name := "quotInts", fn := fun _ => fun
  | [d1, d2, d3] => { results := [.lit (.bool false)], args := [d1, d2, d3] }
  | _ => none }
def QuotIntsWrongFalsely : Prop := quotIntsRow.holds Try.pinned (OpenSpec.ofChange quotIntsWrong)

/-- 'gyrelaw04.RootTells': WHATEVER THE INPUT: true; the input reads as it did. -/
def rootTellsSpec : ChangeSpec := { name := "rootTells", fn := fun _ => fun
  | [d1, d2, d3] => { results := [.lit (.bool true)], args := [d1, d2, d3] }
  | _ => none }
def rootTellsRow : OpenClaim := { program := "ytpbhoamojocbpaa", sum := "6e84202142ffa81d351486b460705c3b8c2dfb2b54eeb296e4aada929268d1d1", func := "gyre/gyrelaw04.RootTells", spec := "rootTells", inPlace := ["math/bits.Sub64", "math/bits.Add64"], unfollowed := true, recurses := true, named := ["math/bits.divideError", "math/bits.overflowError"], apart := false }
def RootTellsSaid : Prop := rootTellsRow.holds Try.pinned (OpenSpec.ofChange rootTellsSpec)

/-- ITS FALSE NEIGHBOUR: 'it returns false'. Refute it at one input. -/
def rootTellsWrong : ChangeSpec := { name := "rootTells", fn := fun _ => fun
  | [d1, d2, d3] => { results := [.lit (.bool false)], args := [d1, d2, d3] }
  | _ => none }
def RootTellsWrongFalsely : Prop := rootTellsRow.holds Try.pinned (OpenSpec.ofChange rootTellsWrong)

/-- 'gyrelaw04.RootRises': WHATEVER THE INPUT: true; the input reads as it did. -/
def rootRisesSpec : ChangeSpec := { name := "rootRises", fn := fun _ => fun
  | [d1, d2, d3] => { results := [.lit (.bool true)], args := [d1, d2, d3] }
  | _ => none }
def rootRisesRow : OpenClaim := { program := "ytpbhoamojocbpaa", sum := "6e84202142ffa81d351486b460705c3b8c2dfb2b54eeb296e4aada929268d1d1", func := "gyre/gyrelaw04.RootRises", spec := "rootRises", inPlace := ["math/bits.Sub64", "math/bits.Add64"], unfollowed := true, recurses := true, named := ["math/bits.divideError", "math/bits.overflowError"], apart := false }
def RootRisesSaid : Prop := rootRisesRow.holds Try.pinned (OpenSpec.ofChange rootRisesSpec)

/-- ITS FALSE NEIGHBOUR: 'it returns false'. Refute it at one input. -/
def rootRisesWrong : ChangeSpec := { name := "rootRises", fn := fun _ => fun
  | [d1, d2, d3] => { results := [.lit (.bool false)], args := [d1, d2, d3] }
  | _ => none }
def RootRisesWrongFalsely : Prop := rootRisesRow.holds Try.pinned (OpenSpec.ofChange rootRisesWrong)

/-- 'gyrelaw04.RootFraction': WHATEVER THE INPUT: true; the input reads as it did. -/
def rootFractionSpec : ChangeSpec := { name := "rootFraction", fn := fun _ => fun
  | [d1, d2] => { results := [.lit (.bool true)], args := [d1, d2] }
  | _ => none }
def rootFractionRow : OpenClaim := { program := "ytpbhoamojocbpaa", sum := "6e84202142ffa81d351486b460705c3b8c2dfb2b54eeb296e4aada929268d1d1", func := "gyre/gyrelaw04.RootFraction", spec := "rootFraction", inPlace := ["math/bits.Sub64", "math/bits.Add64"], unfollowed := true, recurses := true, named := ["math/bits.divideError", "math/bits.overflowError"], apart := false }
def RootFractionSaid : Prop := rootFractionRow.holds Try.pinned (OpenSpec.ofChange rootFractionSpec)

/-- ITS FALSE NEIGHBOUR: 'it returns false'. Refute it at one input. -/
def rootFractionWrong : ChangeSpec := { name := "rootFraction", fn := fun _ => fun
  | [d1, d2] => { results := [.lit (.bool false)], args := [d1, d2] }
  | _ => none }
def RootFractionWrongFalsely : Prop := rootFractionRow.holds Try.pinned (OpenSpec.ofChange rootFractionWrong)

/-- 'gyrelaw04.RootHalf': WHATEVER THE INPUT: true; the input reads as it did. -/
def rootHalfSpec : ChangeSpec := { name := "rootHalf", fn := fun _ => fun
  | [d1, d2] => { results := [.lit (.bool true)], args := [d1, d2] }
  | _ => none }
def rootHalfRow : OpenClaim := { program := "ytpbhoamojocbpaa", sum := "6e84202142ffa81d351486b460705c3b8c2dfb2b54eeb296e4aada929268d1d1", func := "gyre/gyrelaw04.RootHalf", spec := "rootHalf", inPlace := ["math/bits.Sub64", "math/bits.Add64"], unfollowed := true, recurses := true, named := ["math/bits.divideError", "math/bits.overflowError"], apart := false }
def RootHalfSaid : Prop := rootHalfRow.holds Try.pinned (OpenSpec.ofChange rootHalfSpec)

/-- ITS FALSE NEIGHBOUR: 'it returns false'. Refute it at one input. -/
def rootHalfWrong : ChangeSpec := { name := "rootHalf", fn := fun _ => fun
  | [d1, d2] => { results := [.lit (.bool false)], args := [d1, d2] }
  | _ => none }
def RootHalfWrongFalsely : Prop := rootHalfRow.holds Try.pinned (OpenSpec.ofChange rootHalfWrong)

/- THE SECOND FORM. 'bulk': how many values and letters a reading holds, each counted each time it is reached (what is shared counts as often as it is met; a slice's spare places count too). A statement '..UptoSaid' is the law's where the arguments, and the package variables that the reading takes, are together of bulk at most 1048576: NARROWER than '..Said'. Prove '..Said' where nothing that the law and all that it calls make is longer than what came in: it says more and counts as full. Else prove '..UptoSaid'. A law counts once. -/
mutual
def uptoBulk {H : Type} : DataW H → Nat
  | .lit (.string bytes) => bytes.length + 1
  | .lit _ => 1
  | .nil => 1
  | .ptr d => uptoBulk d + 1
  | .slice elems spare => uptoBulkAll elems + uptoBulkAll spare + 1
  | .agg parts => uptoBulkAll parts + 1
  | .iface _ d => uptoBulk d + 1
  | .map entries => uptoBulkEntries entries + 1
  | .held _ => 1
def uptoBulkAll {H : Type} : List (DataW H) → Nat
  | [] => 0
  | d :: r => uptoBulk d + uptoBulkAll r
def uptoBulkEntries {H : Type} : List (Lit × DataW H) → Nat
  | [] => 0
  | x :: r => uptoBulkEntry x + uptoBulkEntries r
def uptoBulkEntry {H : Type} : Lit × DataW H → Nat
  | (.string bytes, d) => bytes.length + uptoBulk d + 1
  | (_, d) => uptoBulk d + 1
 end
def uptoSmall : (H : Type) → List (DataW H) → Bool := fun _ ds => decide (uptoBulkAll ds ≤ 1048576)
def OpenSpec.upto (s : _root_.Go.ChangeSpec) : _root_.Go.OpenSpec := { _root_.Go.OpenSpec.ofChange s with cond := some uptoSmall }

/-- 'gyrelaw03.QuotTells', WHERE WHAT IT READS IS OF BULK AT MOST 1048576: true; the input reads as it did. -/
def quotTellsUptoRow : OpenClaim := { program := "ytpbhoamojocbpaa", sum := "6e84202142ffa81d351486b460705c3b8c2dfb2b54eeb296e4aada929268d1d1", func := "gyre/gyrelaw03.QuotTells", spec := "quotTells", inPlace := ["math/bits.Sub64", "math/bits.Add64"], unfollowed := true, recurses := true, named := ["math/bits.divideError", "math/bits.overflowError"], apart := false, narrowed := true }
def QuotTellsUptoSaid : Prop := quotTellsUptoRow.holds Try.pinned (OpenSpec.upto quotTellsSpec)

/-- 'gyrelaw03.QuotFloor', WHERE WHAT IT READS IS OF BULK AT MOST 1048576: true; the input reads as it did. -/
def quotFloorUptoRow : OpenClaim := { program := "ytpbhoamojocbpaa", sum := "6e84202142ffa81d351486b460705c3b8c2dfb2b54eeb296e4aada929268d1d1", func := "gyre/gyrelaw03.QuotFloor", spec := "quotFloor", inPlace := ["math/bits.Sub64", "math/bits.Add64"], unfollowed := true, recurses := true, named := ["math/bits.divideError", "math/bits.overflowError"], apart := false, narrowed := true }
def QuotFloorUptoSaid : Prop := quotFloorUptoRow.holds Try.pinned (OpenSpec.upto quotFloorSpec)

/-- 'gyrelaw03.QuotNear', WHERE WHAT IT READS IS OF BULK AT MOST 1048576: true; the input reads as it did. -/
def quotNearUptoRow : OpenClaim := { program := "ytpbhoamojocbpaa", sum := "6e84202142ffa81d351486b460705c3b8c2dfb2b54eeb296e4aada929268d1d1", func := "gyre/gyrelaw03.QuotNear", spec := "quotNear", inPlace := ["math/bits.Sub64", "math/bits.Add64"], unfollowed := true, recurses := true, named := ["math/bits.divideError", "math/bits.overflowError"], apart := false, narrowed := true }
def QuotNearUptoSaid : Prop := quotNearUptoRow.holds Try.pinned (OpenSpec.upto quotNearSpec)

/-- 'gyrelaw03.QuotTurns', WHERE WHAT IT READS IS OF BULK AT MOST 1048576: true; the input reads as it did. -/
def quotTurnsUptoRow : OpenClaim := { program := "ytpbhoamojocbpaa", sum := "6e84202142ffa81d351486b460705c3b8c2dfb2b54eeb296e4aada929268d1d1", func := "gyre/gyrelaw03.QuotTurns", spec := "quotTurns", inPlace := ["math/bits.Sub64", "math/bits.Add64"], unfollowed := true, recurses := true, named := ["math/bits.divideError", "math/bits.overflowError"], apart := false, narrowed := true }
def QuotTurnsUptoSaid : Prop := quotTurnsUptoRow.holds Try.pinned (OpenSpec.upto quotTurnsSpec)

/-- 'gyrelaw03.QuotInts', WHERE WHAT IT READS IS OF BULK AT MOST 1048576: true; the input reads as it did. -/
def quotIntsUptoRow : OpenClaim := { program := "ytpbhoamojocbpaa", sum := "6e84202142ffa81d351486b460705c3b8c2dfb2b54eeb296e4aada929268d1d1", func := "gyre/gyrelaw03.QuotInts", spec := "quotInts", inPlace := ["math/bits.Sub64", "math/bits.Add64"], unfollowed := true, recurses := true, named := ["math/bits.divideError", "math/bits.overflowError"], apart := false, narrowed := true }
def QuotIntsUptoSaid : Prop := quotIntsUptoRow.holds Try.pinned (OpenSpec.upto quotIntsSpec)

/-- 'gyrelaw04.RootTells', WHERE WHAT IT READS IS OF BULK AT MOST 1048576: true; the input reads as it did. -/
def rootTellsUptoRow : OpenClaim := { program := "ytpbhoamojocbpaa", sum := "6e84202142ffa81d351486b460705c3b8c2dfb2b54eeb296e4aada929268d1d1", func := "gyre/gyrelaw04.RootTells", spec := "rootTells", inPlace := ["math/bits.Sub64", "math/bits.Add64"], unfollowed := true, recurses := true, named := ["math/bits.divideError", "math/bits.overflowError"], apart := false, narrowed := true }
def RootTellsUptoSaid : Prop := rootTellsUptoRow.holds Try.pinned (OpenSpec.upto rootTellsSpec)

/-- 'gyrelaw04.RootRises', WHERE WHAT IT READS IS OF BULK AT MOST 1048576: true; the input reads as it did. -/
def rootRisesUptoRow : OpenClaim := { program := "ytpbhoamojocbpaa", sum := "6e84202142ffa81d351486b460705c3b8c2dfb2b54eeb296e4aada929268d1d1", func := "gyre/gyrelaw04.RootRises", spec := "rootRises", inPlace := ["math/bits.Sub64", "math/bits.Add64"], unfollowed := true, recurses := true, named := ["math/bits.divideError", "math/bits.overflowError"], apart := false, narrowed := true }
def RootRisesUptoSaid : Prop := rootRisesUptoRow.holds Try.pinned (OpenSpec.upto rootRisesSpec)

/-- 'gyrelaw04.RootFraction', WHERE WHAT IT READS IS OF BULK AT MOST 1048576: true; the input reads as it did. -/
def rootFractionUptoRow : OpenClaim := { program := "ytpbhoamojocbpaa", sum := "6e84202142ffa81d351486b460705c3b8c2dfb2b54eeb296e4aada929268d1d1", func := "gyre/gyrelaw04.RootFraction", spec := "rootFraction", inPlace := ["math/bits.Sub64", "math/bits.Add64"], unfollowed := true, recurses := true, named := ["math/bits.divideError", "math/bits.overflowError"], apart := false, narrowed := true }
def RootFractionUptoSaid : Prop := rootFractionUptoRow.holds Try.pinned (OpenSpec.upto rootFractionSpec)

/-- 'gyrelaw04.RootHalf', WHERE WHAT IT READS IS OF BULK AT MOST 1048576: true; the input reads as it did. -/
def rootHalfUptoRow : OpenClaim := { program := "ytpbhoamojocbpaa", sum := "6e84202142ffa81d351486b460705c3b8c2dfb2b54eeb296e4aada929268d1d1", func := "gyre/gyrelaw04.RootHalf", spec := "rootHalf", inPlace := ["math/bits.Sub64", "math/bits.Add64"], unfollowed := true, recurses := true, named := ["math/bits.divideError", "math/bits.overflowError"], apart := false, narrowed := true }
def RootHalfUptoSaid : Prop := rootHalfUptoRow.holds Try.pinned (OpenSpec.upto rootHalfSpec)

end Rows
end Go.Proofs.Ytpbhoamojocbpaa
