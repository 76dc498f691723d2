/-
  No cell of these rows narrows 'for every input' (looked for: loops, veiled, ifaces, maps, wideKeys, modest, calm, conditions, laid).
  DERIVED. THE GIVEN ROWS OF THIS SEAT. 6 by the template 'for every input the law returns true; each argument reads behind the call as it read before'; 0 by the template 'total and deterministic' (their statements: YtbmekaaekngpbaaGreatTotals.lean).
  GIVEN WITH THE SEED: the statements are not yours to turn. If you find one false, say at which input.
  Laid BY PROGRAM, IN A SANDBOX (cutbox-rows.mjs): the forced cells as the released guide's own fill.sh prints them over the translation 6223404f940b857b… (all of the seat's roots in one cut). By AI agents, Wed Nov 11 2026. No macro, syntax, notation, axiom, sorry.
-/
import Derived.Test.YtbmekaaekngpbaaGreatChecked
import GoSem.Claim
import GoSem.ClaimJoined
import GoSem.ClaimMapViews
import Derived.JoinedTies
import Derived.KernelRfl
namespace Go.Proofs.YtbmekaaekngpbaaGreat
/- THE CELL 'sum', in the pinned program and in every row, IS THE sha256 OF THE DUMP (.gsa) THAT YtbmekaaekngpbaaGreatProg.lean LOADS. Nothing in Lean hashes anything: it is a label: what it is worth is what the hold of that sum in a sandbox is worth. -/
noncomputable def Tryz.pinned : Pinned := { name := "ytbmekaaekngpbaagreat", sum := "6223404f940b857b1972d27081b5d7a86e7b7bfa7370aada93ecc8351a604c37", checked := Tryz.checked }
namespace Rows
def none {H : Type} : Left H := { results := [], args := [] }

/-- 'gyrelaw08.StumpffTells': WHATEVER THE INPUT: true; the input reads as it did. -/
def stumpffTellsSpec : ChangeSpec := { name := "stumpffTells", fn := fun _ => fun
  | [d1, d2, d3, d4] => { results := [.lit (.bool true)], args := [d1, d2, d3, d4] }
  | _ => none }
def stumpffTellsRow : OpenClaim := { program := "ytbmekaaekngpbaagreat", sum := "6223404f940b857b1972d27081b5d7a86e7b7bfa7370aada93ecc8351a604c37", func := "gyre/gyrelaw08.StumpffTells", spec := "stumpffTells", inPlace := ["math/bits.Sub64", "math/bits.Add64"], unfollowed := true, recurses := true, named := ["math/bits.divideError", "math/bits.overflowError"], apart := false }
def StumpffTellsSaid : Prop := stumpffTellsRow.holds Tryz.pinned (OpenSpec.ofChange stumpffTellsSpec)

/-- ITS FALSE NEIGHBOUR: 'it returns false'. Refute it at one input. -/
def stumpffTellsWrong : ChangeSpec := { name := "stumpffTells", fn := fun _ => fun
  | [d1, d2, d3, d4] => { results := [.lit (.bool false)], args := [d1, d2, d3, d4] }
  | _ => none }
def StumpffTellsWrongFalsely : Prop := stumpffTellsRow.holds Tryz.pinned (OpenSpec.ofChange stumpffTellsWrong)

/-- 'gyrelaw08.StumpffOnes': WHATEVER THE INPUT: true; the input reads as it did. -/
def stumpffOnesSpec : ChangeSpec := { name := "stumpffOnes", fn := fun _ => fun
  | [d1, d2] => { results := [.lit (.bool true)], args := [d1, d2] }
  | _ => none }
def stumpffOnesRow : OpenClaim := { program := "ytbmekaaekngpbaagreat", sum := "6223404f940b857b1972d27081b5d7a86e7b7bfa7370aada93ecc8351a604c37", func := "gyre/gyrelaw08.StumpffOnes", spec := "stumpffOnes", inPlace := ["math/bits.Sub64", "math/bits.Add64"], unfollowed := true, recurses := true, named := ["math/bits.divideError", "math/bits.overflowError"], apart := false }
def StumpffOnesSaid : Prop := stumpffOnesRow.holds Tryz.pinned (OpenSpec.ofChange stumpffOnesSpec)

/-- ITS FALSE NEIGHBOUR: 'it returns false'. Refute it at one input. -/
def stumpffOnesWrong : ChangeSpec := { name := "stumpffOnes", fn := fun _ => fun
  | [d1, d2] => { results := [.lit (.bool false)], args := [d1, d2] }
  | _ => none }
def StumpffOnesWrongFalsely : Prop := stumpffOnesRow.holds Tryz.pinned (OpenSpec.ofChange stumpffOnesWrong)

/-- 'gyrelaw08.StumpffWaves': WHATEVER THE INPUT: true; the input reads as it did. -/
def stumpffWavesSpec : ChangeSpec := { name := "stumpffWaves", fn := fun _ => fun
  | [d] => { results := [.lit (.bool true)], args := [d] }
  | _ => none }
def stumpffWavesRow : OpenClaim := { program := "ytbmekaaekngpbaagreat", sum := "6223404f940b857b1972d27081b5d7a86e7b7bfa7370aada93ecc8351a604c37", func := "gyre/gyrelaw08.StumpffWaves", spec := "stumpffWaves", inPlace := ["math/bits.Sub64", "math/bits.Add64"], unfollowed := true, recurses := true, named := ["math/bits.divideError", "math/bits.overflowError"], apart := false }
def StumpffWavesSaid : Prop := stumpffWavesRow.holds Tryz.pinned (OpenSpec.ofChange stumpffWavesSpec)

/-- ITS FALSE NEIGHBOUR: 'it returns false'. Refute it at one input. -/
def stumpffWavesWrong : ChangeSpec := { name := "stumpffWaves", fn := fun _ => fun
  | [d] => { results := [.lit (.bool false)], args := [d] }
  | _ => none }
def StumpffWavesWrongFalsely : Prop := stumpffWavesRow.holds Tryz.pinned (OpenSpec.ofChange stumpffWavesWrong)

/-- 'gyrelaw08.StumpffFour': WHATEVER THE INPUT: true; the input reads as it did. -/
def stumpffFourSpec : ChangeSpec := { name := "stumpffFour", fn := fun _ => fun
  | [d] => { results := [.lit (.bool true)], args := [d] }
  | _ => none }
def stumpffFourRow : OpenClaim := { program := "ytbmekaaekngpbaagreat", sum := "6223404f940b857b1972d27081b5d7a86e7b7bfa7370aada93ecc8351a604c37", func := "gyre/gyrelaw08.StumpffFour", spec := "stumpffFour", inPlace := ["math/bits.Sub64", "math/bits.Add64"], unfollowed := true, recurses := true, named := ["math/bits.divideError", "math/bits.overflowError"], apart := false }
def StumpffFourSaid : Prop := stumpffFourRow.holds Tryz.pinned (OpenSpec.ofChange stumpffFourSpec)

/-- ITS FALSE NEIGHBOUR: 'it returns false'. Refute it at one input. -/
def stumpffFourWrong : ChangeSpec := { name := "stumpffFour", fn := fun _ => fun
  | [d] => { results := [.lit (.bool false)], args := [d] }
  | _ => none }
def StumpffFourWrongFalsely : Prop := stumpffFourRow.holds Tryz.pinned (OpenSpec.ofChange stumpffFourWrong)

/-- 'gyrelaw08.StumpffParts': WHATEVER THE INPUT: true; the input reads as it did. -/
def stumpffPartsSpec : ChangeSpec := { name := "stumpffParts", fn := fun _ => fun
  | [d1, d2, d3] => { results := [.lit (.bool true)], args := [d1, d2, d3] }
  | _ => none }
def stumpffPartsRow : OpenClaim := { program := "ytbmekaaekngpbaagreat", sum := "6223404f940b857b1972d27081b5d7a86e7b7bfa7370aada93ecc8351a604c37", func := "gyre/gyrelaw08.StumpffParts", spec := "stumpffParts", inPlace := ["math/bits.Sub64", "math/bits.Add64"], unfollowed := true, recurses := true, named := ["math/bits.divideError", "math/bits.overflowError"], apart := false }
def StumpffPartsSaid : Prop := stumpffPartsRow.holds Tryz.pinned (OpenSpec.ofChange stumpffPartsSpec)

/-- ITS FALSE NEIGHBOUR: 'it returns false'. Refute it at one input. -/
def stumpffPartsWrong : ChangeSpec := { name := "stumpffParts", fn := fun _ => fun
  | [d1, d2, d3] => { results := [.lit (.bool false)], args := [d1, d2, d3] }
  | _ => none }
def StumpffPartsWrongFalsely : Prop := stumpffPartsRow.holds Tryz.pinned (OpenSpec.ofChange stumpffPartsWrong)

/-- 'gyrelaw08.StumpffTerms': WHATEVER THE INPUT: true; the input reads as it did. -/
def stumpffTermsSpec : ChangeSpec := { name := "stumpffTerms", fn := fun _ => fun
  | [d1, d2, d3] => { results := [.lit (.bool true)], args := [d1, d2, d3] }
  | _ => none }
def stumpffTermsRow : OpenClaim := { program := "ytbmekaaekngpbaagreat", sum := "6223404f940b857b1972d27081b5d7a86e7b7bfa7370aada93ecc8351a604c37", func := "gyre/gyrelaw08.StumpffTerms", spec := "stumpffTerms", inPlace := ["math/bits.Sub64", "math/bits.Add64"], unfollowed := true, recurses := true, named := ["math/bits.divideError", "math/bits.overflowError"], apart := false }
def StumpffTermsSaid : Prop := stumpffTermsRow.holds Tryz.pinned (OpenSpec.ofChange stumpffTermsSpec)

/-- ITS FALSE NEIGHBOUR: 'it returns false'. Refute it at one input. -/
def stumpffTermsWrong : ChangeSpec := { name := "stumpffTerms", fn := fun _ => fun
  | [d1, d2, d3] => { results := [.lit (.bool false)], args := [d1, d2, d3] }
  | _ => none }
def StumpffTermsWrongFalsely : Prop := stumpffTermsRow.holds Tryz.pinned (OpenSpec.ofChange stumpffTermsWrong)

/- THE SECOND FORM. 'bulk': how many values and letters a reading holds, each counted each time it is reached (what is shared counts as often as it is met; a slice's spare places count too). A statement '..UptoSaid' is the law's where the arguments, and the package variables that the reading takes, are together of bulk at most 1048576: NARROWER than '..Said'. Prove '..Said' where nothing that the law and all that it calls make is longer than what came in: it says more and counts as full. Else prove '..UptoSaid'. A law counts once. -/
mutual
def uptoBulk {H : Type} : DataW H → Nat
  | .lit (.string bytes) => bytes.length + 1
  | .lit _ => 1
  | .nil => 1
  | .ptr d => uptoBulk d + 1
  | .slice elems spare => uptoBulkAll elems + uptoBulkAll spare + 1
  | .agg parts => uptoBulkAll parts + 1
  | .iface _ d => uptoBulk d + 1
  | .map entries => uptoBulkEntries entries + 1
  | .held _ => 1
def uptoBulkAll {H : Type} : List (DataW H) → Nat
  | [] => 0
  | d :: r => uptoBulk d + uptoBulkAll r
def uptoBulkEntries {H : Type} : List (Lit × DataW H) → Nat
  | [] => 0
  | x :: r => uptoBulkEntry x + uptoBulkEntries r
def uptoBulkEntry {H : Type} : Lit × DataW H → Nat
  | (.string bytes, d) => bytes.length + uptoBulk d + 1
  | (_, d) => uptoBulk d + 1
 end
def uptoSmall : (H : Type) → List (DataW H) → Bool := fun _ ds => decide (uptoBulkAll ds ≤ 1048576)
def OpenSpec.upto (s : _root_.Go.ChangeSpec) : _root_.Go.OpenSpec := { _root_.Go.OpenSpec.ofChange s with cond := some uptoSmall }

/-- 'gyrelaw08.StumpffTells', WHERE WHAT IT READS IS OF BULK AT MOST 1048576: true; the input reads as it did. -/
def stumpffTellsUptoRow : OpenClaim := { program := "ytbmekaaekngpbaagreat", sum := "6223404f940b857b1972d27081b5d7a86e7b7bfa7370aada93ecc8351a604c37", func := "gyre/gyrelaw08.StumpffTells", spec := "stumpffTells", inPlace := ["math/bits.Sub64", "math/bits.Add64"], unfollowed := true, recurses := true, named := ["math/bits.divideError", "math/bits.overflowError"], apart := false, narrowed := true }
def StumpffTellsUptoSaid : Prop := stumpffTellsUptoRow.holds Tryz.pinned (OpenSpec.upto stumpffTellsSpec)

/-- 'gyrelaw08.StumpffOnes', WHERE WHAT IT READS IS OF BULK AT MOST 1048576: true; the input reads as it did. -/
def stumpffOnesUptoRow : OpenClaim := { program := "ytbmekaaekngpbaagreat", sum := "6223404f940b857b1972d27081b5d7a86e7b7bfa7370aada93ecc8351a604c37", func := "gyre/gyrelaw08.StumpffOnes", spec := "stumpffOnes", inPlace := ["math/bits.Sub64", "math/bits.Add64"], unfollowed := true, recurses := true, named := ["math/bits.divideError", "math/bits.overflowError"], apart := false, narrowed := true }
def StumpffOnesUptoSaid : Prop := stumpffOnesUptoRow.holds Tryz.pinned (OpenSpec.upto stumpffOnesSpec)

/-- 'gyrelaw08.StumpffWaves', WHERE WHAT IT READS IS OF BULK AT MOST 1048576: true; the input reads as it did. -/
def stumpffWavesUptoRow : OpenClaim := { program := "ytbmekaaekngpbaagreat", sum := "6223404f940b857b1972d27081b5d7a86e7b7bfa7370aada93ecc8351a604c37", func := "gyre/gyrelaw08.StumpffWaves", spec := "stumpffWaves", inPlace := ["math/bits.Sub64", "math/bits.Add64"], unfollowed := true, recurses := true, named := ["math/bits.divideError", "math/bits.overflowError"], apart := false, narrowed := true }
def StumpffWavesUptoSaid : Prop := stumpffWavesUptoRow.holds Tryz.pinned (OpenSpec.upto stumpffWavesSpec)

/-- 'gyrelaw08.StumpffFour', WHERE WHAT IT READS IS OF BULK AT MOST 1048576: true; the input reads as it did. -/
def stumpffFourUptoRow : OpenClaim := { program := "ytbmekaaekngpbaagreat", sum := "6223404f940b857b1972d27081b5d7a86e7b7bfa7370aada93ecc8351a604c37", func := "gyre/gyrelaw08.StumpffFour", spec := "stumpffFour", inPlace := ["math/bits.Sub64", "math/bits.Add64"], unfollowed := true, recurses := true, named := ["math/bits.divideError", "math/bits.overflowError"], apart := false, narrowed := true }
def StumpffFourUptoSaid : Prop := stumpffFourUptoRow.holds Tryz.pinned (OpenSpec.upto stumpffFourSpec)

/-- 'gyrelaw08.StumpffParts', WHERE WHAT IT READS IS OF BULK AT MOST 1048576: true; the input reads as it did. -/
def stumpffPartsUptoRow : OpenClaim := { program := "ytbmekaaekngpbaagreat", sum := "6223404f940b857b1972d27081b5d7a86e7b7bfa7370aada93ecc8351a604c37", func := "gyre/gyrelaw08.StumpffParts", spec := "stumpffParts", inPlace := ["math/bits.Sub64", "math/bits.Add64"], unfollowed := true, recurses := true, named := ["math/bits.divideError", "math/bits.overflowError"], apart := false, narrowed := true }
def StumpffPartsUptoSaid : Prop := stumpffPartsUptoRow.holds Tryz.pinned (OpenSpec.upto stumpffPartsSpec)

/-- 'gyrelaw08.StumpffTerms', WHERE WHAT IT READS IS OF BULK AT MOST 1048576: true; the input reads as it did. -/
def stumpffTermsUptoRow : OpenClaim := { program := "ytbmekaaekngpbaagreat", sum := "6223404f940b857b1972d27081b5d7a86e7b7bfa7370aada93ecc8351a604c37", func := "gyre/gyrelaw08.StumpffTerms", spec := "stumpffTerms", inPlace := ["math/bits.Sub64", "math/bits.Add64"], unfollowed := true, recurses := true, named := ["math/bits.divideError", "math/bits.overflowError"], apart := false, narrowed := true }
def StumpffTermsUptoSaid : Prop := stumpffTermsUptoRow.holds Tryz.pinned (OpenSpec.upto stumpffTermsSpec)

end Rows
end Go.Proofs.YtbmekaaekngpbaaGreat
