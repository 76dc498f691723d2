/-
  No cell of these rows narrows 'for every input' (looked for: loops, veiled, ifaces, maps, wideKeys, modest, calm, conditions, laid).
  DERIVED. THE GIVEN ROWS OF THIS SEAT. 6 by the template 'for every input the law returns true; each argument reads behind the call as it read before'; 0 by the template 'total and deterministic' (their statements: YtecgclkjglkkbaaTotals.lean).
  GIVEN WITH THE SEED: the statements are not yours to turn. If you find one false, say at which input.
  Laid BY PROGRAM, IN A SANDBOX (cutbox-rows.mjs): the forced cells as the released guide's own fill.sh prints them over the translation 4c0216aa6b247e84… (all of the seat's roots in one cut). By AI agents, Wed Nov 11 2026. No macro, syntax, notation, axiom, sorry.
-/
import Derived.Test.YtecgclkjglkkbaaChecked
import GoSem.Claim
import GoSem.ClaimJoined
import GoSem.ClaimMapViews
import Derived.JoinedTies
import Derived.KernelRfl
namespace Go.Proofs.Ytecgclkjglkkbaa
/- THE CELL 'sum', in the pinned program and in every row, IS THE sha256 OF THE DUMP (.gsa) THAT YtecgclkjglkkbaaProg.lean LOADS. Nothing in Lean hashes anything: it is a label: what it is worth is what the hold of that sum in a sandbox is worth. -/
noncomputable def Try.pinned : Pinned := { name := "ytecgclkjglkkbaa", sum := "4c0216aa6b247e84a79b6f8424b6da010d2e9703c726733c402fe65c1aa66006", checked := Try.checked }
namespace Rows
def none {H : Type} : Left H := { results := [], args := [] }

/-- 'gyrelaw02.WideTells': WHATEVER THE INPUT: true; the input reads as it did. -/
def wideTellsSpec : ChangeSpec := { name := "wideTells", fn := fun _ => fun
  | [d1, d2, d3, d4] => { results := [.lit (.bool true)], args := [d1, d2, d3, d4] }
  | _ => none }
def wideTellsRow : OpenClaim := { program := "ytecgclkjglkkbaa", sum := "4c0216aa6b247e84a79b6f8424b6da010d2e9703c726733c402fe65c1aa66006", func := "gyre/gyrelaw02.WideTells", spec := "wideTells", inPlace := ["math/bits.Sub64", "math/bits.Add64"], unfollowed := true, recurses := true, apart := false }
def WideTellsSaid : Prop := wideTellsRow.holds Try.pinned (OpenSpec.ofChange wideTellsSpec)

/-- ITS FALSE NEIGHBOUR: 'it returns false'. Refute it at one input. -/
def wideTellsWrong : ChangeSpec := { name := "wideTells", fn := fun _ => fun
  | [d1, d2, d3, d4] => { results := [.lit (.bool false)], args := [d1, d2, d3, d4] }
  | _ => none }
def WideTellsWrongFalsely : Prop := wideTellsRow.holds Try.pinned (OpenSpec.ofChange wideTellsWrong)

/-- 'gyrelaw03.QuotTells': WHATEVER THE INPUT: true; the input reads as it did. -/
def quotTellsSpec : ChangeSpec := { name := "quotTells", fn := fun _ => fun
  | [d1, d2, d3, d4, d5] => { results := [.lit (.bool true)], args := [d1, d2, d3, d4, d5] }
  | _ => none }
def quotTellsRow : OpenClaim := { program := "ytecgclkjglkkbaa", sum := "4c0216aa6b247e84a79b6f8424b6da010d2e9703c726733c402fe65c1aa66006", func := "gyre/gyrelaw03.QuotTells", spec := "quotTells", inPlace := ["math/bits.Sub64", "math/bits.Add64"], unfollowed := true, recurses := true, named := ["math/bits.divideError", "math/bits.overflowError"], apart := false }
def QuotTellsSaid : Prop := quotTellsRow.holds Try.pinned (OpenSpec.ofChange quotTellsSpec)

/-- ITS FALSE NEIGHBOUR: 'it returns false'. Refute it at one input. -/
def quotTellsWrong : ChangeSpec := { name := "quotTells", fn := fun _ => fun
  | [d1, d2, d3, d4, d5] => { results := [.lit (.bool false)], args := [d1, d2, d3, d4, d5] }
  | _ => none }
def QuotTellsWrongFalsely : Prop := quotTellsRow.holds Try.pinned (OpenSpec.ofChange quotTellsWrong)

/-- 'gyrelaw03.QuotFloor': WHATEVER THE INPUT: true; the input reads as it did. -/
def quotFloorSpec : ChangeSpec := { name := "quotFloor", fn := fun _ => fun
  | [d1, d2] => { results := [.lit (.bool true)], args := [d1, d2] }
  | _ => none }
def quotFloorRow : OpenClaim := { program := "ytecgclkjglkkbaa", sum := "4c0216aa6b247e84a79b6f8424b6da010d2e9703c726733c402fe65c1aa66006", func := "gyre/gyrelaw03.QuotFloor", spec := "quotFloor", inPlace := ["math/bits.Sub64", "math/bits.Add64"], unfollowed := true, recurses := true, named := ["math/bits.divideError", "math/bits.overflowError"], apart := false }
def QuotFloorSaid : Prop := quotFloorRow.holds Try.pinned (OpenSpec.ofChange quotFloorSpec)

/-- ITS FALSE NEIGHBOUR: 'it returns false'. Refute it at one input. -/
def quotFloorWrong : ChangeSpec := { name := "quotFloor", fn := fun _ => fun
  | [d1, d2] => { results := [.lit (.bool false)], args := [d1, d2] }
  | _ => none }
def QuotFloorWrongFalsely : Prop := quotFloorRow.holds Try.pinned (OpenSpec.ofChange quotFloorWrong)

/-- 'gyrelaw03.QuotNear': WHATEVER THE INPUT: true; the input reads as it did. -/
def quotNearSpec : ChangeSpec := { name := "quotNear", fn := fun _ => fun
  | [d1, d2] => { results := [.lit (.bool true)], args := [d1, d2] }
  | _ => none }
def quotNearRow : OpenClaim := { program := "ytecgclkjglkkbaa", sum := "4c0216aa6b247e84a79b6f8424b6da010d2e9703c726733c402fe65c1aa66006", func := "gyre/gyrelaw03.QuotNear", spec := "quotNear", inPlace := ["math/bits.Sub64", "math/bits.Add64"], unfollowed := true, recurses := true, named := ["math/bits.divideError", "math/bits.overflowError"], apart := false }
def QuotNearSaid : Prop := quotNearRow.holds Try.pinned (OpenSpec.ofChange quotNearSpec)

/-- ITS FALSE NEIGHBOUR: 'it returns false'. Refute it at one input. -/
def quotNearWrong : ChangeSpec := { name := "quotNear", fn := fun _ => fun
  | [d1, d2] => { results := [.lit (.bool false)], args := [d1, d2] }
  | _ => none }
def QuotNearWrongFalsely : Prop := quotNearRow.holds Try.pinned (OpenSpec.ofChange quotNearWrong)

/-- 'gyrelaw03.QuotTurns': WHATEVER THE INPUT: true; the input reads as it did. -/
def quotTurnsSpec : ChangeSpec := { name := "quotTurns", fn := fun _ => fun
  | [d1, d2] => { results := [.lit (.bool true)], args := [d1, d2] }
  | _ => none }
def quotTurnsRow : OpenClaim := { program := "ytecgclkjglkkbaa", sum := "4c0216aa6b247e84a79b6f8424b6da010d2e9703c726733c402fe65c1aa66006", func := "gyre/gyrelaw03.QuotTurns", spec := "quotTurns", inPlace := ["math/bits.Sub64", "math/bits.Add64"], unfollowed := true, recurses := true, named := ["math/bits.divideError", "math/bits.overflowError"], apart := false }
def QuotTurnsSaid : Prop := quotTurnsRow.holds Try.pinned (OpenSpec.ofChange quotTurnsSpec)

/-- ITS FALSE NEIGHBOUR: 'it returns false'. Refute it at one input. -/
def quotTurnsWrong : ChangeSpec := { name := "quotTurns", fn := fun _ => fun
  | [d1, d2] => { results := [.lit (.bool false)], args := [d1, d2] }
  | _ => none }
def QuotTurnsWrongFalsely : Prop := quotTurnsRow.holds Try.pinned (OpenSpec.ofChange quotTurnsWrong)

/-- 'gyrelaw03.QuotInts': WHATEVER THE INPUT: true; the input reads as it did. -/
def quotIntsSpec : ChangeSpec := { name := "quotInts", fn := fun _ => fun
  | [d1, d2, d3] => { results := [.lit (.bool true)], args := [d1, d2, d3] }
  | _ => none }
def quotIntsRow : OpenClaim := { program := "ytecgclkjglkkbaa", sum := "4c0216aa6b247e84a79b6f8424b6da010d2e9703c726733c402fe65c1aa66006", func := "gyre/gyrelaw03.QuotInts", spec := "quotInts", inPlace := ["math/bits.Sub64", "math/bits.Add64"], unfollowed := true, recurses := true, named := ["math/bits.divideError", "math/bits.overflowError"], apart := false }
def QuotIntsSaid : Prop := quotIntsRow.holds Try.pinned (OpenSpec.ofChange quotIntsSpec)

/-- ITS FALSE NEIGHBOUR: 'it returns false'. Refute it at one input. -/
def quotIntsWrong : ChangeSpec := { name := "quotInts", fn := fun _ => fun
  | [d1, d2, d3] => { results := [.lit (.bool false)], args := [d1, d2, d3] }
  | _ => none }
def QuotIntsWrongFalsely : Prop := quotIntsRow.holds Try.pinned (OpenSpec.ofChange quotIntsWrong)

/- THE SECOND FORM. 'bulk': how many values and letters a reading holds, each counted each time it is reached (what is shared counts as often as it is met; a slice's spare places count too). A statement '..UptoSaid' is the law's where the arguments, and the package variables that the reading takes, are together of bulk at most 1048576: NARROWER than '..Said'. Prove '..Said' where nothing that the law and all that it calls make is longer than what came in: it says more and counts as full. Else prove '..UptoSaid'. A law counts once. -/
mutual
def uptoBulk {H : Type} : DataW H → Nat
  | .lit (.string bytes) => bytes.length + 1
  | .lit _ => 1
  | .nil => 1
  | .ptr d => uptoBulk d + 1
  | .slice elems spare => uptoBulkAll elems + uptoBulkAll spare + 1
  | .agg parts => uptoBulkAll parts + 1
  | .iface _ d => uptoBulk d + 1
  | .map entries => uptoBulkEntries entries + 1
  | .held _ => 1
def uptoBulkAll {H : Type} : List (DataW H) → Nat
  | [] => 0
  | d :: r => uptoBulk d + uptoBulkAll r
def uptoBulkEntries {H : Type} : List (Lit × DataW H) → Nat
  | [] => 0
  | x :: r => uptoBulkEntry x + uptoBulkEntries r
def uptoBulkEntry {H : Type} : Lit × DataW H → Nat
  | (.string bytes, d) => bytes.length + uptoBulk d + 1
  | (_, d) => uptoBulk d + 1
 end
def uptoSmall : (H : Type) → List (DataW H) → Bool := fun _ ds => decide (uptoBulkAll ds ≤ 1048576)
def OpenSpec.upto (s : _root_.Go.ChangeSpec) : _root_.Go.OpenSpec := { _root_.Go.OpenSpec.ofChange s with cond := some uptoSmall }

/-- 'gyrelaw02.WideTells', WHERE WHAT IT READS IS OF BULK AT MOST 1048576: true; the input reads as it did. -/
def wideTellsUptoRow : OpenClaim := { program := "ytecgclkjglkkbaa", sum := "4c0216aa6b247e84a79b6f8424b6da010d2e9703c726733c402fe65c1aa66006", func := "gyre/gyrelaw02.WideTells", spec := "wideTells", inPlace := ["math/bits.Sub64", "math/bits.Add64"], unfollowed := true, recurses := true, apart := false, narrowed := true }
def WideTellsUptoSaid : Prop := wideTellsUptoRow.holds Try.pinned (OpenSpec.upto wideTellsSpec)

/-- 'gyrelaw03.QuotTells', WHERE WHAT IT READS IS OF BULK AT MOST 1048576: true; the input reads as it did. -/
def quotTellsUptoRow : OpenClaim := { program := "ytecgclkjglkkbaa", sum := "4c0216aa6b247e84a79b6f8424b6da010d2e9703c726733c402fe65c1aa66006", func := "gyre/gyrelaw03.QuotTells", spec := "quotTells", inPlace := ["math/bits.Sub64", "math/bits.Add64"], unfollowed := true, recurses := true, named := ["math/bits.divideError", "math/bits.overflowError"], apart := false, narrowed := true }
def QuotTellsUptoSaid : Prop := quotTellsUptoRow.holds Try.pinned (OpenSpec.upto quotTellsSpec)

/-- 'gyrelaw03.QuotFloor', WHERE WHAT IT READS IS OF BULK AT MOST 1048576: true; the input reads as it did. -/
def quotFloorUptoRow : OpenClaim := { program := "ytecgclkjglkkbaa", sum := "4c0216aa6b247e84a79b6f8424b6da010d2e9703c726733c402fe65c1aa66006", func := "gyre/gyrelaw03.QuotFloor", spec := "quotFloor", inPlace := ["math/bits.Sub64", "math/bits.Add64"], unfollowed := true, recurses := true, named := ["math/bits.divideError", "math/bits.overflowError"], apart := false, narrowed := true }
def QuotFloorUptoSaid : Prop := quotFloorUptoRow.holds Try.pinned (OpenSpec.upto quotFloorSpec)

/-- 'gyrelaw03.QuotNear', WHERE WHAT IT READS IS OF BULK AT MOST 1048576: true; the input reads as it did. -/
def quotNearUptoRow : OpenClaim := { program := "ytecgclkjglkkbaa", sum := "4c0216aa6b247e84a79b6f8424b6da010d2e9703c726733c402fe65c1aa66006", func := "gyre/gyrelaw03.QuotNear", spec := "quotNear", inPlace := ["math/bits.Sub64", "math/bits.Add64"], unfollowed := true, recurses := true, named := ["math/bits.divideError", "math/bits.overflowError"], apart := false, narrowed := true }
def QuotNearUptoSaid : Prop := quotNearUptoRow.holds Try.pinned (OpenSpec.upto quotNearSpec)

/-- 'gyrelaw03.QuotTurns', WHERE WHAT IT READS IS OF BULK AT MOST 1048576: true; the input reads as it did. -/
def quotTurnsUptoRow : OpenClaim := { program := "ytecgclkjglkkbaa", sum := "4c0216aa6b247e84a79b6f8424b6da010d2e9703c726733c402fe65c1aa66006", func := "gyre/gyrelaw03.QuotTurns", spec := "quotTurns", inPlace := ["math/bits.Sub64", "math/bits.Add64"], unfollowed := true, recurses := true, named := ["math/bits.divideError", "math/bits.overflowError"], apart := false, narrowed := true }
def QuotTurnsUptoSaid : Prop := quotTurnsUptoRow.holds Try.pinned (OpenSpec.upto quotTurnsSpec)

/-- 'gyrelaw03.QuotInts', WHERE WHAT IT READS IS OF BULK AT MOST 1048576: true; the input reads as it did. -/
def quotIntsUptoRow : OpenClaim := { program := "ytecgclkjglkkbaa", sum := "4c0216aa6b247e84a79b6f8424b6da010d2e9703c726733c402fe65c1aa66006", func := "gyre/gyrelaw03.QuotInts", spec := "quotInts", inPlace := ["math/bits.Sub64", "math/bits.Add64"], unfollowed := true, recurses := true, named := ["math/bits.divideError", "math/bits.overflowError"], apart := false, narrowed := true }
def QuotIntsUptoSaid : Prop := quotIntsUptoRow.holds Try.pinned (OpenSpec.upto quotIntsSpec)

end Rows
end Go.Proofs.Ytecgclkjglkkbaa
