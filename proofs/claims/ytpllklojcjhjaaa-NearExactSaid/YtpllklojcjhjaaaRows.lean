/-
  No cell of these rows narrows 'for every input' (looked for: loops, veiled, ifaces, maps, wideKeys, modest, calm, conditions, laid).
  DERIVED. THE GIVEN ROWS OF THIS SEAT. 4 by the template 'for every input the law returns true; each argument reads behind the call as it read before'; 0 by the template 'total and deterministic' (their statements: YtpllklojcjhjaaaTotals.lean).
  GIVEN WITH THE SEED: the statements are not yours to turn. If you find one false, say at which input.
  Laid BY PROGRAM, IN A SANDBOX (cutbox-rows.mjs): the forced cells as the released guide's own fill.sh prints them over the translation 53776f1f57e6d02e… (all of the seat's roots in one cut). By AI agents, Wed Nov 11 2026. No macro, syntax, notation, axiom, sorry.
-/
import Derived.Test.YtpllklojcjhjaaaChecked
import GoSem.Claim
import GoSem.ClaimJoined
import GoSem.ClaimMapViews
import Derived.JoinedTies
import Derived.KernelRfl
namespace Go.Proofs.Ytpllklojcjhjaaa
/- THE CELL 'sum', in the pinned program and in every row, IS THE sha256 OF THE DUMP (.gsa) THAT YtpllklojcjhjaaaProg.lean LOADS. Nothing in Lean hashes anything: it is a label: what it is worth is what the hold of that sum in a sandbox is worth. -/
noncomputable def Try.pinned : Pinned := { name := "ytpllklojcjhjaaa", sum := "53776f1f57e6d02ef3fb7fa9d1961d91e32f725a2d4ad7078ba7d2291c516a46", checked := Try.checked }
namespace Rows
def none {H : Type} : Left H := { results := [], args := [] }

/-- 'gyrelaw13.NearExact': WHATEVER THE INPUT: true; the input reads as it did. -/
def nearExactSpec : ChangeSpec := { name := "nearExact", fn := fun _ => fun
  | [d1, d2] => { results := [.lit (.bool true)], args := [d1, d2] }
  | _ => none }
def nearExactRow : OpenClaim := { program := "ytpllklojcjhjaaa", sum := "53776f1f57e6d02ef3fb7fa9d1961d91e32f725a2d4ad7078ba7d2291c516a46", func := "gyre/gyrelaw13.NearExact", spec := "nearExact", inPlace := ["math/bits.Sub64"], unfollowed := true, recurses := true, apart := false }
def NearExactSaid : Prop := nearExactRow.holds Try.pinned (OpenSpec.ofChange nearExactSpec)

/-- ITS FALSE NEIGHBOUR: 'it returns false'. Refute it at one input. -/
def nearExactWrong : ChangeSpec := { name := "nearExact", fn := fun _ => fun
  | [d1, d2] => { results := [.lit (.bool false)], args := [d1, d2] }
  | _ => none }
def NearExactWrongFalsely : Prop := nearExactRow.holds Try.pinned (OpenSpec.ofChange nearExactWrong)

/-- 'gyrelaw13.NearMoved': WHATEVER THE INPUT: true; the input reads as it did. -/
def nearMovedSpec : ChangeSpec := { name := "nearMoved", fn := fun _ => fun
  | [d1, d2, d3] => { results := [.lit (.bool true)], args := [d1, d2, d3] }
  | _ => none }
def nearMovedRow : OpenClaim := { program := "ytpllklojcjhjaaa", sum := "53776f1f57e6d02ef3fb7fa9d1961d91e32f725a2d4ad7078ba7d2291c516a46", func := "gyre/gyrelaw13.NearMoved", spec := "nearMoved", inPlace := ["math/bits.Sub64"], unfollowed := true, recurses := true, apart := false }
def NearMovedSaid : Prop := nearMovedRow.holds Try.pinned (OpenSpec.ofChange nearMovedSpec)

/-- ITS FALSE NEIGHBOUR: 'it returns false'. Refute it at one input. -/
def nearMovedWrong : ChangeSpec := { name := "nearMoved", fn := fun _ => fun
  | [d1, d2, d3] => { results := [.lit (.bool false)], args := [d1, d2, d3] }
  | _ => none }
def NearMovedWrongFalsely : Prop := nearMovedRow.holds Try.pinned (OpenSpec.ofChange nearMovedWrong)

/-- 'gyrelaw13.NearWay': WHATEVER THE INPUT: true; the input reads as it did. -/
def nearWaySpec : ChangeSpec := { name := "nearWay", fn := fun _ => fun
  | [d] => { results := [.lit (.bool true)], args := [d] }
  | _ => none }
def nearWayRow : OpenClaim := { program := "ytpllklojcjhjaaa", sum := "53776f1f57e6d02ef3fb7fa9d1961d91e32f725a2d4ad7078ba7d2291c516a46", func := "gyre/gyrelaw13.NearWay", spec := "nearWay", inPlace := ["math/bits.Sub64"], unfollowed := true, recurses := true, apart := false }
def NearWaySaid : Prop := nearWayRow.holds Try.pinned (OpenSpec.ofChange nearWaySpec)

/-- ITS FALSE NEIGHBOUR: 'it returns false'. Refute it at one input. -/
def nearWayWrong : ChangeSpec := { name := "nearWay", fn := fun _ => fun
  | [d] => { results := [.lit (.bool false)], args := [d] }
  | _ => none }
def NearWayWrongFalsely : Prop := nearWayRow.holds Try.pinned (OpenSpec.ofChange nearWayWrong)

/-- 'gyrelaw13.NearOrder': WHATEVER THE INPUT: true; the input reads as it did. -/
def nearOrderSpec : ChangeSpec := { name := "nearOrder", fn := fun _ => fun
  | [d1, d2] => { results := [.lit (.bool true)], args := [d1, d2] }
  | _ => none }
def nearOrderRow : OpenClaim := { program := "ytpllklojcjhjaaa", sum := "53776f1f57e6d02ef3fb7fa9d1961d91e32f725a2d4ad7078ba7d2291c516a46", func := "gyre/gyrelaw13.NearOrder", spec := "nearOrder", inPlace := ["math/bits.Sub64"], unfollowed := true, recurses := true, apart := false }
def NearOrderSaid : Prop := nearOrderRow.holds Try.pinned (OpenSpec.ofChange nearOrderSpec)

/-- ITS FALSE NEIGHBOUR: 'it returns false'. Refute it at one input. -/
def nearOrderWrong : ChangeSpec := { name := "nearOrder", fn := fun _ => fun
  | [d1, d2] => { results := [.lit (.bool false)], args := [d1, d2] }
  | _ => none }
def NearOrderWrongFalsely : Prop := nearOrderRow.holds Try.pinned (OpenSpec.ofChange nearOrderWrong)

/- THE SECOND FORM. 'bulk': how many values and letters a reading holds, each counted each time it is reached (what is shared counts as often as it is met; a slice's spare places count too). A statement '..UptoSaid' is the law's where the arguments, and the package variables that the reading takes, are together of bulk at most 1048576: NARROWER than '..Said'. Prove '..Said' where nothing that the law and all that it calls make is longer than what came in: it says more and counts as full. Else prove '..UptoSaid'. A law counts once. -/
mutual
def uptoBulk {H : Type} : DataW H → Nat
  | .lit (.string bytes) => bytes.length + 1
  | .lit _ => 1
  | .nil => 1
  | .ptr d => uptoBulk d + 1
  | .slice elems spare => uptoBulkAll elems + uptoBulkAll spare + 1
  | .agg parts => uptoBulkAll parts + 1
  | .iface _ d => uptoBulk d + 1
  | .map entries => uptoBulkEntries entries + 1
  | .held _ => 1
def uptoBulkAll {H : Type} : List (DataW H) → Nat
  | [] => 0
  | d :: r => uptoBulk d + uptoBulkAll r
def uptoBulkEntries {H : Type} : List (Lit × DataW H) → Nat
  | [] => 0
  | x :: r => uptoBulkEntry x + uptoBulkEntries r
def uptoBulkEntry {H : Type} : Lit × DataW H → Nat
  | (.string bytes, d) => bytes.length + uptoBulk d + 1
  | (_, d) => uptoBulk d + 1
 end
def uptoSmall : (H : Type) → List (DataW H) → Bool := fun _ ds => decide (uptoBulkAll ds ≤ 1048576)
def OpenSpec.upto (s : _root_.Go.ChangeSpec) : _root_.Go.OpenSpec := { _root_.Go.OpenSpec.ofChange s with cond := some uptoSmall }

/-- 'gyrelaw13.NearExact', WHERE WHAT IT READS IS OF BULK AT MOST 1048576: true; the input reads as it did. -/
def nearExactUptoRow : OpenClaim := { program := "ytpllklojcjhjaaa", sum := "53776f1f57e6d02ef3fb7fa9d1961d91e32f725a2d4ad7078ba7d2291c516a46", func := "gyre/gyrelaw13.NearExact", spec := "nearExact", inPlace := ["math/bits.Sub64"], unfollowed := true, recurses := true, apart := false, narrowed := true }
def NearExactUptoSaid : Prop := nearExactUptoRow.holds Try.pinned (OpenSpec.upto nearExactSpec)

/-- 'gyrelaw13.NearMoved', WHERE WHAT IT READS IS OF BULK AT MOST 1048576: true; the input reads as it did. -/
def nearMovedUptoRow : OpenClaim := { program := "ytpllklojcjhjaaa", sum := "53776f1f57e6d02ef3fb7fa9d1961d91e32f725a2d4ad7078ba7d2291c516a46", func := "gyre/gyrelaw13.NearMoved", spec := "nearMoved", inPlace := ["math/bits.Sub64"], unfollowed := true, recurses := true, apart := false, narrowed := true }
def NearMovedUptoSaid : Prop := nearMovedUptoRow.holds Try.pinned (OpenSpec.upto nearMovedSpec)

/-- 'gyrelaw13.NearWay', WHERE WHAT IT READS IS OF BULK AT MOST 1048576: true; the input reads as it did. -/
def nearWayUptoRow : OpenClaim := { program := "ytpllklojcjhjaaa", sum := "53776f1f57e6d02ef3fb7fa9d1961d91e32f725a2d4ad7078ba7d2291c516a46", func := "gyre/gyrelaw13.NearWay", spec := "nearWay", inPlace := ["math/bits.Sub64"], unfollowed := true, recurses := true, apart := false, narrowed := true }
def NearWayUptoSaid : Prop := nearWayUptoRow.holds Try.pinned (OpenSpec.upto nearWaySpec)

/-- 'gyrelaw13.NearOrder', WHERE WHAT IT READS IS OF BULK AT MOST 1048576: true; the input reads as it did. -/
def nearOrderUptoRow : OpenClaim := { program := "ytpllklojcjhjaaa", sum := "53776f1f57e6d02ef3fb7fa9d1961d91e32f725a2d4ad7078ba7d2291c516a46", func := "gyre/gyrelaw13.NearOrder", spec := "nearOrder", inPlace := ["math/bits.Sub64"], unfollowed := true, recurses := true, apart := false, narrowed := true }
def NearOrderUptoSaid : Prop := nearOrderUptoRow.holds Try.pinned (OpenSpec.upto nearOrderSpec)

end Rows
end Go.Proofs.Ytpllklojcjhjaaa
