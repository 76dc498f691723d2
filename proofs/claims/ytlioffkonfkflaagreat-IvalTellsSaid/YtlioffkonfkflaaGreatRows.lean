/-
  No cell of these rows narrows 'for every input' (looked for: loops, veiled, ifaces, maps, wideKeys, modest, calm, conditions, laid).
  DERIVED. THE GIVEN ROWS OF THIS SEAT. 8 by the template 'for every input the law returns true; each argument reads behind the call as it read before'; 0 by the template 'total and deterministic' (their statements: YtlioffkonfkflaaGreatTotals.lean).
  GIVEN WITH THE SEED: the statements are not yours to turn. If you find one false, say at which input.
  Laid BY PROGRAM, IN A SANDBOX (cutbox-rows.mjs): the forced cells as the released guide's own fill.sh prints them over the translation 7bf4c16fd0adf1c2… (all of the seat's roots in one cut). By AI agents, Wed Nov 11 2026. No macro, syntax, notation, axiom, sorry.
-/
import Derived.Test.YtlioffkonfkflaaGreatChecked
import GoSem.Claim
import GoSem.ClaimJoined
import GoSem.ClaimMapViews
import Derived.JoinedTies
import Derived.KernelRfl
namespace Go.Proofs.YtlioffkonfkflaaGreat
/- THE CELL 'sum', in the pinned program and in every row, IS THE sha256 OF THE DUMP (.gsa) THAT YtlioffkonfkflaaGreatProg.lean LOADS. Nothing in Lean hashes anything: it is a label: what it is worth is what the hold of that sum in a sandbox is worth. -/
noncomputable def Tryz.pinned : Pinned := { name := "ytlioffkonfkflaagreat", sum := "7bf4c16fd0adf1c2be474365c553cf364099f238dc26a29866425c9496ba6c81", checked := Tryz.checked }
namespace Rows
def none {H : Type} : Left H := { results := [], args := [] }

/-- 'gyrelaw05.IvalTells': WHATEVER THE INPUT: true; the input reads as it did. -/
def ivalTellsSpec : ChangeSpec := { name := "ivalTells", fn := fun _ => fun
  | [d1, d2, d3, d4, d5] => { results := [.lit (.bool true)], args := [d1, d2, d3, d4, d5] }
  | _ => none }
def ivalTellsRow : OpenClaim := { program := "ytlioffkonfkflaagreat", sum := "7bf4c16fd0adf1c2be474365c553cf364099f238dc26a29866425c9496ba6c81", func := "gyre/gyrelaw05.IvalTells", spec := "ivalTells", inPlace := ["math/bits.Sub64", "math/bits.Add64"], unfollowed := true, recurses := true, named := ["math/bits.divideError", "math/bits.overflowError"], apart := false }
def IvalTellsSaid : Prop := ivalTellsRow.holds Tryz.pinned (OpenSpec.ofChange ivalTellsSpec)

/-- ITS FALSE NEIGHBOUR: 'it returns false'. Refute it at one input. -/
def ivalTellsWrong : ChangeSpec := { name := "ivalTells", fn := fun _ => fun
  | [d1, d2, d3, d4, d5] => { results := [.lit (.bool false)], args := [d1, d2, d3, d4, d5] }
  | _ => none }
def IvalTellsWrongFalsely : Prop := ivalTellsRow.holds Tryz.pinned (OpenSpec.ofChange ivalTellsWrong)

/-- 'gyrelaw05.IvalHolds': WHATEVER THE INPUT: true; the input reads as it did. -/
def ivalHoldsSpec : ChangeSpec := { name := "ivalHolds", fn := fun _ => fun
  | [d1, d2, d3, d4, d5, d6] => { results := [.lit (.bool true)], args := [d1, d2, d3, d4, d5, d6] }
  | _ => none }
def ivalHoldsRow : OpenClaim := { program := "ytlioffkonfkflaagreat", sum := "7bf4c16fd0adf1c2be474365c553cf364099f238dc26a29866425c9496ba6c81", func := "gyre/gyrelaw05.IvalHolds", spec := "ivalHolds", inPlace := ["math/bits.Sub64", "math/bits.Add64"], unfollowed := true, recurses := true, named := ["math/bits.divideError", "math/bits.overflowError"], apart := false }
def IvalHoldsSaid : Prop := ivalHoldsRow.holds Tryz.pinned (OpenSpec.ofChange ivalHoldsSpec)

/-- ITS FALSE NEIGHBOUR: 'it returns false'. Refute it at one input. -/
def ivalHoldsWrong : ChangeSpec := { name := "ivalHolds", fn := fun _ => fun
  | [d1, d2, d3, d4, d5, d6] => { results := [.lit (.bool false)], args := [d1, d2, d3, d4, d5, d6] }
  | _ => none }
def IvalHoldsWrongFalsely : Prop := ivalHoldsRow.holds Tryz.pinned (OpenSpec.ofChange ivalHoldsWrong)

/-- 'gyrelaw06.InvTells': WHATEVER THE INPUT: true; the input reads as it did. -/
def invTellsSpec : ChangeSpec := { name := "invTells", fn := fun _ => fun
  | [d1, d2] => { results := [.lit (.bool true)], args := [d1, d2] }
  | _ => none }
def invTellsRow : OpenClaim := { program := "ytlioffkonfkflaagreat", sum := "7bf4c16fd0adf1c2be474365c553cf364099f238dc26a29866425c9496ba6c81", func := "gyre/gyrelaw06.InvTells", spec := "invTells", inPlace := ["math/bits.Sub64", "math/bits.Add64"], unfollowed := true, recurses := true, named := ["math/bits.divideError", "math/bits.overflowError"], apart := false }
def InvTellsSaid : Prop := invTellsRow.holds Tryz.pinned (OpenSpec.ofChange invTellsSpec)

/-- ITS FALSE NEIGHBOUR: 'it returns false'. Refute it at one input. -/
def invTellsWrong : ChangeSpec := { name := "invTells", fn := fun _ => fun
  | [d1, d2] => { results := [.lit (.bool false)], args := [d1, d2] }
  | _ => none }
def InvTellsWrongFalsely : Prop := invTellsRow.holds Tryz.pinned (OpenSpec.ofChange invTellsWrong)

/-- 'gyrelaw07.WaveTells': WHATEVER THE INPUT: true; the input reads as it did. -/
def waveTellsSpec : ChangeSpec := { name := "waveTells", fn := fun _ => fun
  | [d1, d2, d3, d4] => { results := [.lit (.bool true)], args := [d1, d2, d3, d4] }
  | _ => none }
def waveTellsRow : OpenClaim := { program := "ytlioffkonfkflaagreat", sum := "7bf4c16fd0adf1c2be474365c553cf364099f238dc26a29866425c9496ba6c81", func := "gyre/gyrelaw07.WaveTells", spec := "waveTells", inPlace := ["math/bits.Sub64", "math/bits.Add64"], unfollowed := true, recurses := true, named := ["math/bits.divideError", "math/bits.overflowError"], apart := false }
def WaveTellsSaid : Prop := waveTellsRow.holds Tryz.pinned (OpenSpec.ofChange waveTellsSpec)

/-- ITS FALSE NEIGHBOUR: 'it returns false'. Refute it at one input. -/
def waveTellsWrong : ChangeSpec := { name := "waveTells", fn := fun _ => fun
  | [d1, d2, d3, d4] => { results := [.lit (.bool false)], args := [d1, d2, d3, d4] }
  | _ => none }
def WaveTellsWrongFalsely : Prop := waveTellsRow.holds Tryz.pinned (OpenSpec.ofChange waveTellsWrong)

/-- 'gyrelaw07.WaveOne': WHATEVER THE INPUT: true; the input reads as it did. -/
def waveOneSpec : ChangeSpec := { name := "waveOne", fn := fun _ => fun
  | [d] => { results := [.lit (.bool true)], args := [d] }
  | _ => none }
def waveOneRow : OpenClaim := { program := "ytlioffkonfkflaagreat", sum := "7bf4c16fd0adf1c2be474365c553cf364099f238dc26a29866425c9496ba6c81", func := "gyre/gyrelaw07.WaveOne", spec := "waveOne", inPlace := ["math/bits.Sub64", "math/bits.Add64"], unfollowed := true, recurses := true, named := ["math/bits.divideError", "math/bits.overflowError"], apart := false }
def WaveOneSaid : Prop := waveOneRow.holds Tryz.pinned (OpenSpec.ofChange waveOneSpec)

/-- ITS FALSE NEIGHBOUR: 'it returns false'. Refute it at one input. -/
def waveOneWrong : ChangeSpec := { name := "waveOne", fn := fun _ => fun
  | [d] => { results := [.lit (.bool false)], args := [d] }
  | _ => none }
def WaveOneWrongFalsely : Prop := waveOneRow.holds Tryz.pinned (OpenSpec.ofChange waveOneWrong)

/-- 'gyrelaw07.WaveSums': WHATEVER THE INPUT: true; the input reads as it did. -/
def waveSumsSpec : ChangeSpec := { name := "waveSums", fn := fun _ => fun
  | [d1, d2] => { results := [.lit (.bool true)], args := [d1, d2] }
  | _ => none }
def waveSumsRow : OpenClaim := { program := "ytlioffkonfkflaagreat", sum := "7bf4c16fd0adf1c2be474365c553cf364099f238dc26a29866425c9496ba6c81", func := "gyre/gyrelaw07.WaveSums", spec := "waveSums", inPlace := ["math/bits.Sub64", "math/bits.Add64"], unfollowed := true, recurses := true, named := ["math/bits.divideError", "math/bits.overflowError"], apart := false }
def WaveSumsSaid : Prop := waveSumsRow.holds Tryz.pinned (OpenSpec.ofChange waveSumsSpec)

/-- ITS FALSE NEIGHBOUR: 'it returns false'. Refute it at one input. -/
def waveSumsWrong : ChangeSpec := { name := "waveSums", fn := fun _ => fun
  | [d1, d2] => { results := [.lit (.bool false)], args := [d1, d2] }
  | _ => none }
def WaveSumsWrongFalsely : Prop := waveSumsRow.holds Tryz.pinned (OpenSpec.ofChange waveSumsWrong)

/-- 'gyrelaw07.WaveParts': WHATEVER THE INPUT: true; the input reads as it did. -/
def wavePartsSpec : ChangeSpec := { name := "waveParts", fn := fun _ => fun
  | [d1, d2, d3] => { results := [.lit (.bool true)], args := [d1, d2, d3] }
  | _ => none }
def wavePartsRow : OpenClaim := { program := "ytlioffkonfkflaagreat", sum := "7bf4c16fd0adf1c2be474365c553cf364099f238dc26a29866425c9496ba6c81", func := "gyre/gyrelaw07.WaveParts", spec := "waveParts", inPlace := ["math/bits.Sub64", "math/bits.Add64"], unfollowed := true, recurses := true, named := ["math/bits.divideError", "math/bits.overflowError"], apart := false }
def WavePartsSaid : Prop := wavePartsRow.holds Tryz.pinned (OpenSpec.ofChange wavePartsSpec)

/-- ITS FALSE NEIGHBOUR: 'it returns false'. Refute it at one input. -/
def wavePartsWrong : ChangeSpec := { name := "waveParts", fn := fun _ => fun
  | [d1, d2, d3] => { results := [.lit (.bool false)], args := [d1, d2, d3] }
  | _ => none }
def WavePartsWrongFalsely : Prop := wavePartsRow.holds Tryz.pinned (OpenSpec.ofChange wavePartsWrong)

/-- 'gyrelaw07.WaveTerms': WHATEVER THE INPUT: true; the input reads as it did. -/
def waveTermsSpec : ChangeSpec := { name := "waveTerms", fn := fun _ => fun
  | [d1, d2, d3] => { results := [.lit (.bool true)], args := [d1, d2, d3] }
  | _ => none }
def waveTermsRow : OpenClaim := { program := "ytlioffkonfkflaagreat", sum := "7bf4c16fd0adf1c2be474365c553cf364099f238dc26a29866425c9496ba6c81", func := "gyre/gyrelaw07.WaveTerms", spec := "waveTerms", inPlace := ["math/bits.Sub64", "math/bits.Add64"], unfollowed := true, recurses := true, named := ["math/bits.divideError", "math/bits.overflowError"], apart := false }
def WaveTermsSaid : Prop := waveTermsRow.holds Tryz.pinned (OpenSpec.ofChange waveTermsSpec)

/-- ITS FALSE NEIGHBOUR: 'it returns false'. Refute it at one input. -/
def waveTermsWrong : ChangeSpec := { name := "waveTerms", fn := fun _ => fun
  | [d1, d2, d3] => { results := [.lit (.bool false)], args := [d1, d2, d3] }
  | _ => none }
def WaveTermsWrongFalsely : Prop := waveTermsRow.holds Tryz.pinned (OpenSpec.ofChange waveTermsWrong)

/- THE SECOND FORM. 'bulk': how many values and letters a reading holds, each counted each time it is reached (what is shared counts as often as it is met; a slice's spare places count too). A statement '..UptoSaid' is the law's where the arguments, and the package variables that the reading takes, are together of bulk at most 1048576: NARROWER than '..Said'. Prove '..Said' where nothing that the law and all that it calls make is longer than what came in: it says more and counts as full. Else prove '..UptoSaid'. A law counts once. -/
mutual
def uptoBulk {H : Type} : DataW H → Nat
  | .lit (.string bytes) => bytes.length + 1
  | .lit _ => 1
  | .nil => 1
  | .ptr d => uptoBulk d + 1
  | .slice elems spare => uptoBulkAll elems + uptoBulkAll spare + 1
  | .agg parts => uptoBulkAll parts + 1
  | .iface _ d => uptoBulk d + 1
  | .map entries => uptoBulkEntries entries + 1
  | .held _ => 1
def uptoBulkAll {H : Type} : List (DataW H) → Nat
  | [] => 0
  | d :: r => uptoBulk d + uptoBulkAll r
def uptoBulkEntries {H : Type} : List (Lit × DataW H) → Nat
  | [] => 0
  | x :: r => uptoBulkEntry x + uptoBulkEntries r
def uptoBulkEntry {H : Type} : Lit × DataW H → Nat
  | (.string bytes, d) => bytes.length + uptoBulk d + 1
  | (_, d) => uptoBulk d + 1
 end
def uptoSmall : (H : Type) → List (DataW H) → Bool := fun _ ds => decide (uptoBulkAll ds ≤ 1048576)
def OpenSpec.upto (s : _root_.Go.ChangeSpec) : _root_.Go.OpenSpec := { _root_.Go.OpenSpec.ofChange s with cond := some uptoSmall }

/-- 'gyrelaw05.IvalTells', WHERE WHAT IT READS IS OF BULK AT MOST 1048576: true; the input reads as it did. -/
def ivalTellsUptoRow : OpenClaim := { program := "ytlioffkonfkflaagreat", sum := "7bf4c16fd0adf1c2be474365c553cf364099f238dc26a29866425c9496ba6c81", func := "gyre/gyrelaw05.IvalTells", spec := "ivalTells", inPlace := ["math/bits.Sub64", "math/bits.Add64"], unfollowed := true, recurses := true, named := ["math/bits.divideError", "math/bits.overflowError"], apart := false, narrowed := true }
def IvalTellsUptoSaid : Prop := ivalTellsUptoRow.holds Tryz.pinned (OpenSpec.upto ivalTellsSpec)

/-- 'gyrelaw05.IvalHolds', WHERE WHAT IT READS IS OF BULK AT MOST 1048576: true; the input reads as it did. -/
def ivalHoldsUptoRow : OpenClaim := { program := "ytlioffkonfkflaagreat", sum := "7bf4c16fd0adf1c2be474365c553cf364099f238dc26a29866425c9496ba6c81", func := "gyre/gyrelaw05.IvalHolds", spec := "ivalHolds", inPlace := ["math/bits.Sub64", "math/bits.Add64"], unfollowed := true, recurses := true, named := ["math/bits.divideError", "math/bits.overflowError"], apart := false, narrowed := true }
def IvalHoldsUptoSaid : Prop := ivalHoldsUptoRow.holds Tryz.pinned (OpenSpec.upto ivalHoldsSpec)

/-- 'gyrelaw06.InvTells', WHERE WHAT IT READS IS OF BULK AT MOST 1048576: true; the input reads as it did. -/
def invTellsUptoRow : OpenClaim := { program := "ytlioffkonfkflaagreat", sum := "7bf4c16fd0adf1c2be474365c553cf364099f238dc26a29866425c9496ba6c81", func := "gyre/gyrelaw06.InvTells", spec := "invTells", inPlace := ["math/bits.Sub64", "math/bits.Add64"], unfollowed := true, recurses := true, named := ["math/bits.divideError", "math/bits.overflowError"], apart := false, narrowed := true }
def InvTellsUptoSaid : Prop := invTellsUptoRow.holds Tryz.pinned (OpenSpec.upto invTellsSpec)

/-- 'gyrelaw07.WaveTells', WHERE WHAT IT READS IS OF BULK AT MOST 1048576: true; the input reads as it did. -/
def waveTellsUptoRow : OpenClaim := { program := "ytlioffkonfkflaagreat", sum := "7bf4c16fd0adf1c2be474365c553cf364099f238dc26a29866425c9496ba6c81", func := "gyre/gyrelaw07.WaveTells", spec := "waveTells", inPlace := ["math/bits.Sub64", "math/bits.Add64"], unfollowed := true, recurses := true, named := ["math/bits.divideError", "math/bits.overflowError"], apart := false, narrowed := true }
def WaveTellsUptoSaid : Prop := waveTellsUptoRow.holds Tryz.pinned (OpenSpec.upto waveTellsSpec)

/-- 'gyrelaw07.WaveOne', WHERE WHAT IT READS IS OF BULK AT MOST 1048576: true; the input reads as it did. -/
def waveOneUptoRow : OpenClaim := { program := "ytlioffkonfkflaagreat", sum := "7bf4c16fd0adf1c2be474365c553cf364099f238dc26a29866425c9496ba6c81", func := "gyre/gyrelaw07.WaveOne", spec := "waveOne", inPlace := ["math/bits.Sub64", "math/bits.Add64"], unfollowed := true, recurses := true, named := ["math/bits.divideError", "math/bits.overflowError"], apart := false, narrowed := true }
def WaveOneUptoSaid : Prop := waveOneUptoRow.holds Tryz.pinned (OpenSpec.upto waveOneSpec)

/-- 'gyrelaw07.WaveSums', WHERE WHAT IT READS IS OF BULK AT MOST 1048576: true; the input reads as it did. -/
def waveSumsUptoRow : OpenClaim := { program := "ytlioffkonfkflaagreat", sum := "7bf4c16fd0adf1c2be474365c553cf364099f238dc26a29866425c9496ba6c81", func := "gyre/gyrelaw07.WaveSums", spec := "waveSums", inPlace := ["math/bits.Sub64", "math/bits.Add64"], unfollowed := true, recurses := true, named := ["math/bits.divideError", "math/bits.overflowError"], apart := false, narrowed := true }
def WaveSumsUptoSaid : Prop := waveSumsUptoRow.holds Tryz.pinned (OpenSpec.upto waveSumsSpec)

/-- 'gyrelaw07.WaveParts', WHERE WHAT IT READS IS OF BULK AT MOST 1048576: true; the input reads as it did. -/
def wavePartsUptoRow : OpenClaim := { program := "ytlioffkonfkflaagreat", sum := "7bf4c16fd0adf1c2be474365c553cf364099f238dc26a29866425c9496ba6c81", func := "gyre/gyrelaw07.WaveParts", spec := "waveParts", inPlace := ["math/bits.Sub64", "math/bits.Add64"], unfollowed := true, recurses := true, named := ["math/bits.divideError", "math/bits.overflowError"], apart := false, narrowed := true }
def WavePartsUptoSaid : Prop := wavePartsUptoRow.holds Tryz.pinned (OpenSpec.upto wavePartsSpec)

/-- 'gyrelaw07.WaveTerms', WHERE WHAT IT READS IS OF BULK AT MOST 1048576: true; the input reads as it did. -/
def waveTermsUptoRow : OpenClaim := { program := "ytlioffkonfkflaagreat", sum := "7bf4c16fd0adf1c2be474365c553cf364099f238dc26a29866425c9496ba6c81", func := "gyre/gyrelaw07.WaveTerms", spec := "waveTerms", inPlace := ["math/bits.Sub64", "math/bits.Add64"], unfollowed := true, recurses := true, named := ["math/bits.divideError", "math/bits.overflowError"], apart := false, narrowed := true }
def WaveTermsUptoSaid : Prop := waveTermsUptoRow.holds Tryz.pinned (OpenSpec.upto waveTermsSpec)

end Rows
end Go.Proofs.YtlioffkonfkflaaGreat
