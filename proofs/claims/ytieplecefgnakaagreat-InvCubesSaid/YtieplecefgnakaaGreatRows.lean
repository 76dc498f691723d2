/-
  No cell of these rows narrows 'for every input' (looked for: loops, veiled, ifaces, maps, wideKeys, modest, calm, conditions, laid).
  DERIVED. THE GIVEN ROWS OF THIS SEAT. 7 by the template 'for every input the law returns true; each argument reads behind the call as it read before'; 0 by the template 'total and deterministic' (their statements: YtieplecefgnakaaGreatTotals.lean).
  GIVEN WITH THE SEED: the statements are not yours to turn. If you find one false, say at which input.
  Laid BY PROGRAM, IN A SANDBOX (cutbox-rows.mjs): the forced cells as the released guide's own fill.sh prints them over the translation 650d341f31d65093… (all of the seat's roots in one cut). By AI agents, Wed Nov 11 2026. No macro, syntax, notation, axiom, sorry.
-/
import Derived.Test.YtieplecefgnakaaGreatChecked
import GoSem.Claim
import GoSem.ClaimJoined
import GoSem.ClaimMapViews
import Derived.JoinedTies
import Derived.KernelRfl
namespace Go.Proofs.YtieplecefgnakaaGreat
/- THE CELL 'sum', in the pinned program and in every row, IS THE sha256 OF THE DUMP (.gsa) THAT YtieplecefgnakaaGreatProg.lean LOADS. Nothing in Lean hashes anything: it is a label: what it is worth is what the hold of that sum in a sandbox is worth. -/
noncomputable def Tryz.pinned : Pinned := { name := "ytieplecefgnakaagreat", sum := "650d341f31d65093fc20dccba8ddc472859899b8e752c65ec0100b9ba33abb4f", checked := Tryz.checked }
namespace Rows
def none {H : Type} : Left H := { results := [], args := [] }

/-- 'gyrelaw05.IvalTells': WHATEVER THE INPUT: true; the input reads as it did. -/
def ivalTellsSpec : ChangeSpec := { name := "ivalTells", fn := fun _ => fun
  | [d1, d2, d3, d4, d5] => { results := [.lit (.bool true)], args := [d1, d2, d3, d4, d5] }
  | _ => none }
def ivalTellsRow : OpenClaim := { program := "ytieplecefgnakaagreat", sum := "650d341f31d65093fc20dccba8ddc472859899b8e752c65ec0100b9ba33abb4f", func := "gyre/gyrelaw05.IvalTells", spec := "ivalTells", inPlace := ["math/bits.Sub64", "math/bits.Add64"], unfollowed := true, recurses := true, named := ["math/bits.divideError", "math/bits.overflowError"], apart := false }
def IvalTellsSaid : Prop := ivalTellsRow.holds Tryz.pinned (OpenSpec.ofChange ivalTellsSpec)

/-- ITS FALSE NEIGHBOUR: 'it returns false'. Refute it at one input. -/
def ivalTellsWrong : ChangeSpec := { name := "ivalTells", fn := fun _ => fun
  | [d1, d2, d3, d4, d5] => { results := [.lit (.bool false)], args := [d1, d2, d3, d4, d5] }
  | _ => none }
def IvalTellsWrongFalsely : Prop := ivalTellsRow.holds Tryz.pinned (OpenSpec.ofChange ivalTellsWrong)

/-- 'gyrelaw05.IvalHolds': WHATEVER THE INPUT: true; the input reads as it did. -/
def ivalHoldsSpec : ChangeSpec := { name := "ivalHolds", fn := fun _ => fun
  | [d1, d2, d3, d4, d5, d6] => { results := [.lit (.bool true)], args := [d1, d2, d3, d4, d5, d6] }
  | _ => none }
def ivalHoldsRow : OpenClaim := { program := "ytieplecefgnakaagreat", sum := "650d341f31d65093fc20dccba8ddc472859899b8e752c65ec0100b9ba33abb4f", func := "gyre/gyrelaw05.IvalHolds", spec := "ivalHolds", inPlace := ["math/bits.Sub64", "math/bits.Add64"], unfollowed := true, recurses := true, named := ["math/bits.divideError", "math/bits.overflowError"], apart := false }
def IvalHoldsSaid : Prop := ivalHoldsRow.holds Tryz.pinned (OpenSpec.ofChange ivalHoldsSpec)

/-- ITS FALSE NEIGHBOUR: 'it returns false'. Refute it at one input. -/
def ivalHoldsWrong : ChangeSpec := { name := "ivalHolds", fn := fun _ => fun
  | [d1, d2, d3, d4, d5, d6] => { results := [.lit (.bool false)], args := [d1, d2, d3, d4, d5, d6] }
  | _ => none }
def IvalHoldsWrongFalsely : Prop := ivalHoldsRow.holds Tryz.pinned (OpenSpec.ofChange ivalHoldsWrong)

/-- 'gyrelaw06.InvTells': WHATEVER THE INPUT: true; the input reads as it did. -/
def invTellsSpec : ChangeSpec := { name := "invTells", fn := fun _ => fun
  | [d1, d2] => { results := [.lit (.bool true)], args := [d1, d2] }
  | _ => none }
def invTellsRow : OpenClaim := { program := "ytieplecefgnakaagreat", sum := "650d341f31d65093fc20dccba8ddc472859899b8e752c65ec0100b9ba33abb4f", func := "gyre/gyrelaw06.InvTells", spec := "invTells", inPlace := ["math/bits.Sub64", "math/bits.Add64"], unfollowed := true, recurses := true, named := ["math/bits.divideError", "math/bits.overflowError"], apart := false }
def InvTellsSaid : Prop := invTellsRow.holds Tryz.pinned (OpenSpec.ofChange invTellsSpec)

/-- ITS FALSE NEIGHBOUR: 'it returns false'. Refute it at one input. -/
def invTellsWrong : ChangeSpec := { name := "invTells", fn := fun _ => fun
  | [d1, d2] => { results := [.lit (.bool false)], args := [d1, d2] }
  | _ => none }
def InvTellsWrongFalsely : Prop := invTellsRow.holds Tryz.pinned (OpenSpec.ofChange invTellsWrong)

/-- 'gyrelaw06.InvHolds': WHATEVER THE INPUT: true; the input reads as it did. -/
def invHoldsSpec : ChangeSpec := { name := "invHolds", fn := fun _ => fun
  | [d1, d2, d3, d4] => { results := [.lit (.bool true)], args := [d1, d2, d3, d4] }
  | _ => none }
def invHoldsRow : OpenClaim := { program := "ytieplecefgnakaagreat", sum := "650d341f31d65093fc20dccba8ddc472859899b8e752c65ec0100b9ba33abb4f", func := "gyre/gyrelaw06.InvHolds", spec := "invHolds", inPlace := ["math/bits.Sub64", "math/bits.Add64"], unfollowed := true, recurses := true, named := ["math/bits.divideError", "math/bits.overflowError"], apart := false }
def InvHoldsSaid : Prop := invHoldsRow.holds Tryz.pinned (OpenSpec.ofChange invHoldsSpec)

/-- ITS FALSE NEIGHBOUR: 'it returns false'. Refute it at one input. -/
def invHoldsWrong : ChangeSpec := { name := "invHolds", fn := fun _ => fun
  | [d1, d2, d3, d4] => { results := [.lit (.bool false)], args := [d1, d2, d3, d4] }
  | _ => none }
def InvHoldsWrongFalsely : Prop := invHoldsRow.holds Tryz.pinned (OpenSpec.ofChange invHoldsWrong)

/-- 'gyrelaw06.InvRoots': WHATEVER THE INPUT: true; the input reads as it did. -/
def invRootsSpec : ChangeSpec := { name := "invRoots", fn := fun _ => fun
  | [d1, d2] => { results := [.lit (.bool true)], args := [d1, d2] }
  | _ => none }
def invRootsRow : OpenClaim := { program := "ytieplecefgnakaagreat", sum := "650d341f31d65093fc20dccba8ddc472859899b8e752c65ec0100b9ba33abb4f", func := "gyre/gyrelaw06.InvRoots", spec := "invRoots", inPlace := ["math/bits.Sub64", "math/bits.Add64"], unfollowed := true, recurses := true, named := ["math/bits.divideError", "math/bits.overflowError"], apart := false }
def InvRootsSaid : Prop := invRootsRow.holds Tryz.pinned (OpenSpec.ofChange invRootsSpec)

/-- ITS FALSE NEIGHBOUR: 'it returns false'. Refute it at one input. -/
def invRootsWrong : ChangeSpec := { name := "invRoots", fn := fun _ => fun
  | [d1, d2] => { results := [.lit (.bool false)], args := [d1, d2] }
  | _ => none }
def InvRootsWrongFalsely : Prop := invRootsRow.holds Tryz.pinned (OpenSpec.ofChange invRootsWrong)

/-- 'gyrelaw06.InvCubes': WHATEVER THE INPUT: true; the input reads as it did. -/
def invCubesSpec : ChangeSpec := { name := "invCubes", fn := fun _ => fun
  | [d1, d2] => { results := [.lit (.bool true)], args := [d1, d2] }
  | _ => none }
def invCubesRow : OpenClaim := { program := "ytieplecefgnakaagreat", sum := "650d341f31d65093fc20dccba8ddc472859899b8e752c65ec0100b9ba33abb4f", func := "gyre/gyrelaw06.InvCubes", spec := "invCubes", inPlace := ["math/bits.Sub64", "math/bits.Add64"], unfollowed := true, recurses := true, named := ["math/bits.divideError", "math/bits.overflowError"], apart := false }
def InvCubesSaid : Prop := invCubesRow.holds Tryz.pinned (OpenSpec.ofChange invCubesSpec)

/-- ITS FALSE NEIGHBOUR: 'it returns false'. Refute it at one input. -/
def invCubesWrong : ChangeSpec := { name := "invCubes", fn := fun _ => fun
  | [d1, d2] => { results := [.lit (.bool false)], args := [d1, d2] }
  | _ => none }
def InvCubesWrongFalsely : Prop := invCubesRow.holds Tryz.pinned (OpenSpec.ofChange invCubesWrong)

/-- 'gyrelaw06.InvParts': WHATEVER THE INPUT: true; the input reads as it did. -/
def invPartsSpec : ChangeSpec := { name := "invParts", fn := fun _ => fun
  | [d1, d2, d3, d4] => { results := [.lit (.bool true)], args := [d1, d2, d3, d4] }
  | _ => none }
def invPartsRow : OpenClaim := { program := "ytieplecefgnakaagreat", sum := "650d341f31d65093fc20dccba8ddc472859899b8e752c65ec0100b9ba33abb4f", func := "gyre/gyrelaw06.InvParts", spec := "invParts", inPlace := ["math/bits.Sub64", "math/bits.Add64"], unfollowed := true, recurses := true, named := ["math/bits.divideError", "math/bits.overflowError"], apart := false }
def InvPartsSaid : Prop := invPartsRow.holds Tryz.pinned (OpenSpec.ofChange invPartsSpec)

/-- ITS FALSE NEIGHBOUR: 'it returns false'. Refute it at one input. -/
def invPartsWrong : ChangeSpec := { name := "invParts", fn := fun _ => fun
  | [d1, d2, d3, d4] => { results := [.lit (.bool false)], args := [d1, d2, d3, d4] }
  | _ => none }
def InvPartsWrongFalsely : Prop := invPartsRow.holds Tryz.pinned (OpenSpec.ofChange invPartsWrong)

/- THE SECOND FORM. 'bulk': how many values and letters a reading holds, each counted each time it is reached (what is shared counts as often as it is met; a slice's spare places count too). A statement '..UptoSaid' is the law's where the arguments, and the package variables that the reading takes, are together of bulk at most 1048576: NARROWER than '..Said'. Prove '..Said' where nothing that the law and all that it calls make is longer than what came in: it says more and counts as full. Else prove '..UptoSaid'. A law counts once. -/
mutual
def uptoBulk {H : Type} : DataW H → Nat
  | .lit (.string bytes) => bytes.length + 1
  | .lit _ => 1
  | .nil => 1
  | .ptr d => uptoBulk d + 1
  | .slice elems spare => uptoBulkAll elems + uptoBulkAll spare + 1
  | .agg parts => uptoBulkAll parts + 1
  | .iface _ d => uptoBulk d + 1
  | .map entries => uptoBulkEntries entries + 1
  | .held _ => 1
def uptoBulkAll {H : Type} : List (DataW H) → Nat
  | [] => 0
  | d :: r => uptoBulk d + uptoBulkAll r
def uptoBulkEntries {H : Type} : List (Lit × DataW H) → Nat
  | [] => 0
  | x :: r => uptoBulkEntry x + uptoBulkEntries r
def uptoBulkEntry {H : Type} : Lit × DataW H → Nat
  | (.string bytes, d) => bytes.length + uptoBulk d + 1
  | (_, d) => uptoBulk d + 1
 end
def uptoSmall : (H : Type) → List (DataW H) → Bool := fun _ ds => decide (uptoBulkAll ds ≤ 1048576)
def OpenSpec.upto (s : _root_.Go.ChangeSpec) : _root_.Go.OpenSpec := { _root_.Go.OpenSpec.ofChange s with cond := some uptoSmall }

/-- 'gyrelaw05.IvalTells', WHERE WHAT IT READS IS OF BULK AT MOST 1048576: true; the input reads as it did. -/
def ivalTellsUptoRow : OpenClaim := { program := "ytieplecefgnakaagreat", sum := "650d341f31d65093fc20dccba8ddc472859899b8e752c65ec0100b9ba33abb4f", func := "gyre/gyrelaw05.IvalTells", spec := "ivalTells", inPlace := ["math/bits.Sub64", "math/bits.Add64"], unfollowed := true, recurses := true, named := ["math/bits.divideError", "math/bits.overflowError"], apart := false, narrowed := true }
def IvalTellsUptoSaid : Prop := ivalTellsUptoRow.holds Tryz.pinned (OpenSpec.upto ivalTellsSpec)

/-- 'gyrelaw05.IvalHolds', WHERE WHAT IT READS IS OF BULK AT MOST 1048576: true; the input reads as it did. -/
def ivalHoldsUptoRow : OpenClaim := { program := "ytieplecefgnakaagreat", sum := "650d341f31d65093fc20dccba8ddc472859899b8e752c65ec0100b9ba33abb4f", func := "gyre/gyrelaw05.IvalHolds", spec := "ivalHolds", inPlace := ["math/bits.Sub64", "math/bits.Add64"], unfollowed := true, recurses := true, named := ["math/bits.divideError", "math/bits.overflowError"], apart := false, narrowed := true }
def IvalHoldsUptoSaid : Prop := ivalHoldsUptoRow.holds Tryz.pinned (OpenSpec.upto ivalHoldsSpec)

/-- 'gyrelaw06.InvTells', WHERE WHAT IT READS IS OF BULK AT MOST 1048576: true; the input reads as it did. -/
def invTellsUptoRow : OpenClaim := { program := "ytieplecefgnakaagreat", sum := "650d341f31d65093fc20dccba8ddc472859899b8e752c65ec0100b9ba33abb4f", func := "gyre/gyrelaw06.InvTells", spec := "invTells", inPlace := ["math/bits.Sub64", "math/bits.Add64"], unfollowed := true, recurses := true, named := ["math/bits.divideError", "math/bits.overflowError"], apart := false, narrowed := true }
def InvTellsUptoSaid : Prop := invTellsUptoRow.holds Tryz.pinned (OpenSpec.upto invTellsSpec)

/-- 'gyrelaw06.InvHolds', WHERE WHAT IT READS IS OF BULK AT MOST 1048576: true; the input reads as it did. -/
def invHoldsUptoRow : OpenClaim := { program := "ytieplecefgnakaagreat", sum := "650d341f31d65093fc20dccba8ddc472859899b8e752c65ec0100b9ba33abb4f", func := "gyre/gyrelaw06.InvHolds", spec := "invHolds", inPlace := ["math/bits.Sub64", "math/bits.Add64"], unfollowed := true, recurses := true, named := ["math/bits.divideError", "math/bits.overflowError"], apart := false, narrowed := true }
def InvHoldsUptoSaid : Prop := invHoldsUptoRow.holds Tryz.pinned (OpenSpec.upto invHoldsSpec)

/-- 'gyrelaw06.InvRoots', WHERE WHAT IT READS IS OF BULK AT MOST 1048576: true; the input reads as it did. -/
def invRootsUptoRow : OpenClaim := { program := "ytieplecefgnakaagreat", sum := "650d341f31d65093fc20dccba8ddc472859899b8e752c65ec0100b9ba33abb4f", func := "gyre/gyrelaw06.InvRoots", spec := "invRoots", inPlace := ["math/bits.Sub64", "math/bits.Add64"], unfollowed := true, recurses := true, named := ["math/bits.divideError", "math/bits.overflowError"], apart := false, narrowed := true }
def InvRootsUptoSaid : Prop := invRootsUptoRow.holds Tryz.pinned (OpenSpec.upto invRootsSpec)

/-- 'gyrelaw06.InvCubes', WHERE WHAT IT READS IS OF BULK AT MOST 1048576: true; the input reads as it did. -/
def invCubesUptoRow : OpenClaim := { program := "ytieplecefgnakaagreat", sum := "650d341f31d65093fc20dccba8ddc472859899b8e752c65ec0100b9ba33abb4f", func := "gyre/gyrelaw06.InvCubes", spec := "invCubes", inPlace := ["math/bits.Sub64", "math/bits.Add64"], unfollowed := true, recurses := true, named := ["math/bits.divideError", "math/bits.overflowError"], apart := false, narrowed := true }
def InvCubesUptoSaid : Prop := invCubesUptoRow.holds Tryz.pinned (OpenSpec.upto invCubesSpec)

/-- 'gyrelaw06.InvParts', WHERE WHAT IT READS IS OF BULK AT MOST 1048576: true; the input reads as it did. -/
def invPartsUptoRow : OpenClaim := { program := "ytieplecefgnakaagreat", sum := "650d341f31d65093fc20dccba8ddc472859899b8e752c65ec0100b9ba33abb4f", func := "gyre/gyrelaw06.InvParts", spec := "invParts", inPlace := ["math/bits.Sub64", "math/bits.Add64"], unfollowed := true, recurses := true, named := ["math/bits.divideError", "math/bits.overflowError"], apart := false, narrowed := true }
def InvPartsUptoSaid : Prop := invPartsUptoRow.holds Tryz.pinned (OpenSpec.upto invPartsSpec)

end Rows
end Go.Proofs.YtieplecefgnakaaGreat
