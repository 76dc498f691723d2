/-
  No cell of these rows narrows 'for every input' (looked for: loops, veiled, ifaces, maps, wideKeys, modest, calm, conditions, laid).
  DERIVED. THE GIVEN ROWS OF THIS SEAT. 3 by the template 'for every input the law returns true; each argument reads behind the call as it read before'; 0 by the template 'total and deterministic' (their statements: YtieplecefgnakaaTotals.lean).
  GIVEN WITH THE SEED: the statements are not yours to turn. If you find one false, say at which input.
  Laid BY PROGRAM, IN A SANDBOX (cutbox-rows.mjs): the forced cells as the released guide's own fill.sh prints them over the translation df91d45a6b365c7e… (all of the seat's roots in one cut). By AI agents, Wed Nov 11 2026. No macro, syntax, notation, axiom, sorry.
-/
import Derived.Test.YtieplecefgnakaaChecked
import GoSem.Claim
import GoSem.ClaimJoined
import GoSem.ClaimMapViews
import Derived.JoinedTies
import Derived.KernelRfl
namespace Go.Proofs.Ytieplecefgnakaa
/- THE CELL 'sum', in the pinned program and in every row, IS THE sha256 OF THE DUMP (.gsa) THAT YtieplecefgnakaaProg.lean LOADS. Nothing in Lean hashes anything: it is a label: what it is worth is what the hold of that sum in a sandbox is worth. -/
noncomputable def Try.pinned : Pinned := { name := "ytieplecefgnakaa", sum := "df91d45a6b365c7ee916ad8623024783ba4135628cbbe80042ea9499ebfc5372", checked := Try.checked }
namespace Rows
def none {H : Type} : Left H := { results := [], args := [] }

/-- 'gyrelaw05.IvalParts': WHATEVER THE INPUT: true; the input reads as it did. -/
def ivalPartsSpec : ChangeSpec := { name := "ivalParts", fn := fun _ => fun
  | [d1, d2, d3, d4] => { results := [.lit (.bool true)], args := [d1, d2, d3, d4] }
  | _ => none }
def ivalPartsRow : OpenClaim := { program := "ytieplecefgnakaa", sum := "df91d45a6b365c7ee916ad8623024783ba4135628cbbe80042ea9499ebfc5372", func := "gyre/gyrelaw05.IvalParts", spec := "ivalParts", inPlace := ["math/bits.Sub64", "math/bits.Add64"], unfollowed := true, recurses := true, named := ["math/bits.divideError", "math/bits.overflowError"], apart := false }
def IvalPartsSaid : Prop := ivalPartsRow.holds Try.pinned (OpenSpec.ofChange ivalPartsSpec)

/-- ITS FALSE NEIGHBOUR: 'it returns false'. Refute it at one input. -/
def ivalPartsWrong : ChangeSpec := { name := "ivalParts", fn := fun _ => fun
  | [d1, d2, d3, d4] => { results := [.lit (.bool false)], args := [d1, d2, d3, d4] }
  | _ => none }
def IvalPartsWrongFalsely : Prop := ivalPartsRow.holds Try.pinned (OpenSpec.ofChange ivalPartsWrong)

/-- 'gyrelaw05.IvalRing': WHATEVER THE INPUT: true; the input reads as it did. -/
def ivalRingSpec : ChangeSpec := { name := "ivalRing", fn := fun _ => fun
  | [d1, d2, d3] => { results := [.lit (.bool true)], args := [d1, d2, d3] }
  | _ => none }
def ivalRingRow : OpenClaim := { program := "ytieplecefgnakaa", sum := "df91d45a6b365c7ee916ad8623024783ba4135628cbbe80042ea9499ebfc5372", func := "gyre/gyrelaw05.IvalRing", spec := "ivalRing", inPlace := ["math/bits.Sub64", "math/bits.Add64"], unfollowed := true, recurses := true, named := ["math/bits.divideError", "math/bits.overflowError"], apart := false }
def IvalRingSaid : Prop := ivalRingRow.holds Try.pinned (OpenSpec.ofChange ivalRingSpec)

/-- ITS FALSE NEIGHBOUR: 'it returns false'. Refute it at one input. -/
def ivalRingWrong : ChangeSpec := { name := "ivalRing", fn := fun _ => fun
  | [d1, d2, d3] => { results := [.lit (.bool false)], args := [d1, d2, d3] }
  | _ => none }
def IvalRingWrongFalsely : Prop := ivalRingRow.holds Try.pinned (OpenSpec.ofChange ivalRingWrong)

/-- 'gyrelaw05.IvalBad': WHATEVER THE INPUT: true; the input reads as it did. -/
def ivalBadSpec : ChangeSpec := { name := "ivalBad", fn := fun _ => fun
  | [d1, d2] => { results := [.lit (.bool true)], args := [d1, d2] }
  | _ => none }
def ivalBadRow : OpenClaim := { program := "ytieplecefgnakaa", sum := "df91d45a6b365c7ee916ad8623024783ba4135628cbbe80042ea9499ebfc5372", func := "gyre/gyrelaw05.IvalBad", spec := "ivalBad", inPlace := ["math/bits.Sub64", "math/bits.Add64"], unfollowed := true, recurses := true, named := ["math/bits.divideError", "math/bits.overflowError"], apart := false }
def IvalBadSaid : Prop := ivalBadRow.holds Try.pinned (OpenSpec.ofChange ivalBadSpec)

/-- ITS FALSE NEIGHBOUR: 'it returns false'. Refute it at one input. -/
def ivalBadWrong : ChangeSpec := { name := "ivalBad", fn := fun _ => fun
  | [d1, d2] => { results := [.lit (.bool false)], args := [d1, d2] }
  | _ => none }
def IvalBadWrongFalsely : Prop := ivalBadRow.holds Try.pinned (OpenSpec.ofChange ivalBadWrong)

/- THE SECOND FORM. 'bulk': how many values and letters a reading holds, each counted each time it is reached (what is shared counts as often as it is met; a slice's spare places count too). A statement '..UptoSaid' is the law's where the arguments, and the package variables that the reading takes, are together of bulk at most 1048576: NARROWER than '..Said'. Prove '..Said' where nothing that the law and all that it calls make is longer than what came in: it says more and counts as full. Else prove '..UptoSaid'. A law counts once. -/
mutual
def uptoBulk {H : Type} : DataW H → Nat
  | .lit (.string bytes) => bytes.length + 1
  | .lit _ => 1
  | .nil => 1
  | .ptr d => uptoBulk d + 1
  | .slice elems spare => uptoBulkAll elems + uptoBulkAll spare + 1
  | .agg parts => uptoBulkAll parts + 1
  | .iface _ d => uptoBulk d + 1
  | .map entries => uptoBulkEntries entries + 1
  | .held _ => 1
def uptoBulkAll {H : Type} : List (DataW H) → Nat
  | [] => 0
  | d :: r => uptoBulk d + uptoBulkAll r
def uptoBulkEntries {H : Type} : List (Lit × DataW H) → Nat
  | [] => 0
  | x :: r => uptoBulkEntry x + uptoBulkEntries r
def uptoBulkEntry {H : Type} : Lit × DataW H → Nat
  | (.string bytes, d) => bytes.length + uptoBulk d + 1
  | (_, d) => uptoBulk d + 1
 end
def uptoSmall : (H : Type) → List (DataW H) → Bool := fun _ ds => decide (uptoBulkAll ds ≤ 1048576)
def OpenSpec.upto (s : _root_.Go.ChangeSpec) : _root_.Go.OpenSpec := { _root_.Go.OpenSpec.ofChange s with cond := some uptoSmall }

/-- 'gyrelaw05.IvalParts', WHERE WHAT IT READS IS OF BULK AT MOST 1048576: true; the input reads as it did. -/
def ivalPartsUptoRow : OpenClaim := { program := "ytieplecefgnakaa", sum := "df91d45a6b365c7ee916ad8623024783ba4135628cbbe80042ea9499ebfc5372", func := "gyre/gyrelaw05.IvalParts", spec := "ivalParts", inPlace := ["math/bits.Sub64", "math/bits.Add64"], unfollowed := true, recurses := true, named := ["math/bits.divideError", "math/bits.overflowError"], apart := false, narrowed := true }
def IvalPartsUptoSaid : Prop := ivalPartsUptoRow.holds Try.pinned (OpenSpec.upto ivalPartsSpec)

/-- 'gyrelaw05.IvalRing', WHERE WHAT IT READS IS OF BULK AT MOST 1048576: true; the input reads as it did. -/
def ivalRingUptoRow : OpenClaim := { program := "ytieplecefgnakaa", sum := "df91d45a6b365c7ee916ad8623024783ba4135628cbbe80042ea9499ebfc5372", func := "gyre/gyrelaw05.IvalRing", spec := "ivalRing", inPlace := ["math/bits.Sub64", "math/bits.Add64"], unfollowed := true, recurses := true, named := ["math/bits.divideError", "math/bits.overflowError"], apart := false, narrowed := true }
def IvalRingUptoSaid : Prop := ivalRingUptoRow.holds Try.pinned (OpenSpec.upto ivalRingSpec)

/-- 'gyrelaw05.IvalBad', WHERE WHAT IT READS IS OF BULK AT MOST 1048576: true; the input reads as it did. -/
def ivalBadUptoRow : OpenClaim := { program := "ytieplecefgnakaa", sum := "df91d45a6b365c7ee916ad8623024783ba4135628cbbe80042ea9499ebfc5372", func := "gyre/gyrelaw05.IvalBad", spec := "ivalBad", inPlace := ["math/bits.Sub64", "math/bits.Add64"], unfollowed := true, recurses := true, named := ["math/bits.divideError", "math/bits.overflowError"], apart := false, narrowed := true }
def IvalBadUptoSaid : Prop := ivalBadUptoRow.holds Try.pinned (OpenSpec.upto ivalBadSpec)

end Rows
end Go.Proofs.Ytieplecefgnakaa
