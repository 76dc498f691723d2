/-
  NARROWER THAN 'FOR EVERY INPUT', by the rows' own cells (each row's printed sentence says how): CoefTells: laid · CoefWhole: laid · CoefBack: laid · CoefTotal: laid · CoefSigns: laid.
  DERIVED. THE GIVEN ROWS OF THIS SEAT. 5 by the template 'for every input the law returns true; each argument reads behind the call as it read before'; 0 by the template 'total and deterministic' (their statements: YtcjjckokaiobcaaDoorTotals.lean).
  GIVEN WITH THE SEED: the statements are not yours to turn. If you find one false, say at which input.
  Laid BY PROGRAM, IN A SANDBOX (cutbox-rows.mjs): the forced cells as the released guide's own fill.sh prints them over the translation 136f8e2792daa009… (all of the seat's roots in one cut). By AI agents, Wed Nov 11 2026. No macro, syntax, notation, axiom, sorry.
-/
import Derived.Test.YtcjjckokaiobcaaDoorChecked
import GoSem.Claim
import GoSem.ClaimJoined
import GoSem.ClaimMapViews
import Derived.JoinedTies
import Derived.KernelRfl
namespace Go.Proofs.YtcjjckokaiobcaaDoor
/- THE CELL 'sum', in the pinned program and in every row, IS THE sha256 OF THE DUMP (.gsa) THAT YtcjjckokaiobcaaDoorProg.lean LOADS. Nothing in Lean hashes anything: it is a label: what it is worth is what the hold of that sum in a sandbox is worth. -/
noncomputable def Tryd.pinned : Pinned := { name := "ytcjjckokaiobcaadoor", sum := "136f8e2792daa0098d3710a9bfbca11949d16aab810a53a201eebae3670e1978", checked := Tryd.checked }
namespace Rows
def none {H : Type} : Left H := { results := [], args := [] }

/- WHAT THE LISTED PACKAGE-LEVEL VARIABLES READ AS WHEN THE CALL BEGINS. Each datum BY PROGRAM (the guide's laid-datum.mjs) off the statement by which the dump's own 'gosem.cut.vars' lays the variable. In a bare row this is a premise. The card (YtcjjckokaiobcaaDoorCards.lean) ties it to the program's text. -/
def laid_gyre_coef_parts {H : Type} : DataW H := .agg [.slice [.lit (.int .i64 1000000)] [], .slice [.lit (.int .i64 1351207), .lit (.int .i64 (-1702414)), .lit (.int .i64 1351207)] [], .slice [.lit (.int .i64 784514), .lit (.int .i64 235573), .lit (.int .i64 (-1177680)), .lit (.int .i64 1315186), .lit (.int .i64 (-1177680)), .lit (.int .i64 235573), .lit (.int .i64 784514)] [], .slice [.lit (.int .i64 741670), .lit (.int .i64 (-409101)), .lit (.int .i64 190755), .lit (.int .i64 (-573862)), .lit (.int .i64 299064), .lit (.int .i64 334625), .lit (.int .i64 315293), .lit (.int .i64 (-796888)), .lit (.int .i64 315293), .lit (.int .i64 334625), .lit (.int .i64 299064), .lit (.int .i64 (-573862)), .lit (.int .i64 190755), .lit (.int .i64 (-409101)), .lit (.int .i64 741670)] [], .slice [] []]
def laid_gyre_coef_turning {H : Type} : DataW H := .agg [.agg [.lit (.int .u8 1), .lit (.int .i64 1), .lit (.int .i64 4)], .agg [.lit (.int .u8 3), .lit (.int .i64 (-8)), .lit (.int .i64 17)], .agg [.lit (.int .u8 1), .lit (.int .i64 1), .lit (.int .i64 4)], .agg [.lit (.int .u8 2), .lit (.int .i64 1), .lit (.int .i64 1)], .agg [.lit (.int .u8 1), .lit (.int .i64 1), .lit (.int .i64 4)], .agg [.lit (.int .u8 3), .lit (.int .i64 (-8)), .lit (.int .i64 17)], .agg [.lit (.int .u8 1), .lit (.int .i64 1), .lit (.int .i64 4)]]
def laid_gyre_coef_names {H : Type} : DataW H := .agg [.lit (.string [108, 101, 97, 112, 102, 114, 111, 103]), .lit (.string [116, 104, 114, 101, 101]), .lit (.string [115, 101, 118, 101, 110]), .lit (.string [102, 105, 102, 116, 101, 101, 110]), .lit (.string [116, 117, 114, 110, 105, 110, 103])]

/-- 'gyrelaw14.CoefTells': WHATEVER THE INPUT: true; the input reads as it did. -/
def coefTellsSpec : ChangeSpec := { name := "coefTells", fn := fun _ => fun
  | [d1, d2, d3, d4] => { results := [.lit (.bool true)], args := [d1, d2, d3, d4] }
  | _ => none }
def coefTellsRow : OpenClaim := { program := "ytcjjckokaiobcaadoor", sum := "136f8e2792daa0098d3710a9bfbca11949d16aab810a53a201eebae3670e1978", func := "gyre/gyrelaw14.CoefTells", spec := "coefTells", unfollowed := true, recurses := true, named := ["gyre/coef.turning", "gyre/coef.parts", "gyre/coef.names"], apart := false, laid := [("gyre/coef.parts", laid_gyre_coef_parts), ("gyre/coef.turning", laid_gyre_coef_turning), ("gyre/coef.names", laid_gyre_coef_names)] }
def CoefTellsSaid : Prop := coefTellsRow.holds Tryd.pinned (OpenSpec.ofChange coefTellsSpec)

/-- ITS FALSE NEIGHBOUR: 'it returns false'. Refute it at one input. -/
def coefTellsWrong : ChangeSpec := { name := "coefTells", fn := fun _ => fun
  | [d1, d2, d3, d4] => { results := [.lit (.bool false)], args := [d1, d2, d3, d4] }
  | _ => none }
def CoefTellsWrongFalsely : Prop := coefTellsRow.holds Tryd.pinned (OpenSpec.ofChange coefTellsWrong)

/-- 'gyrelaw14.CoefWhole': WHATEVER THE INPUT: true; the input reads as it did. -/
def coefWholeSpec : ChangeSpec := { name := "coefWhole", fn := fun _ => fun
  | [d] => { results := [.lit (.bool true)], args := [d] }
  | _ => none }
def coefWholeRow : OpenClaim := { program := "ytcjjckokaiobcaadoor", sum := "136f8e2792daa0098d3710a9bfbca11949d16aab810a53a201eebae3670e1978", func := "gyre/gyrelaw14.CoefWhole", spec := "coefWhole", unfollowed := true, recurses := true, named := ["gyre/coef.turning", "gyre/coef.parts", "gyre/coef.names"], apart := false, laid := [("gyre/coef.parts", laid_gyre_coef_parts), ("gyre/coef.turning", laid_gyre_coef_turning), ("gyre/coef.names", laid_gyre_coef_names)] }
def CoefWholeSaid : Prop := coefWholeRow.holds Tryd.pinned (OpenSpec.ofChange coefWholeSpec)

/-- ITS FALSE NEIGHBOUR: 'it returns false'. Refute it at one input. -/
def coefWholeWrong : ChangeSpec := { name := "coefWhole", fn := fun _ => fun
  | [d] => { results := [.lit (.bool false)], args := [d] }
  | _ => none }
def CoefWholeWrongFalsely : Prop := coefWholeRow.holds Tryd.pinned (OpenSpec.ofChange coefWholeWrong)

/-- 'gyrelaw14.CoefBack': WHATEVER THE INPUT: true; the input reads as it did. -/
def coefBackSpec : ChangeSpec := { name := "coefBack", fn := fun _ => fun
  | [d] => { results := [.lit (.bool true)], args := [d] }
  | _ => none }
def coefBackRow : OpenClaim := { program := "ytcjjckokaiobcaadoor", sum := "136f8e2792daa0098d3710a9bfbca11949d16aab810a53a201eebae3670e1978", func := "gyre/gyrelaw14.CoefBack", spec := "coefBack", unfollowed := true, recurses := true, named := ["gyre/coef.turning", "gyre/coef.parts", "gyre/coef.names"], apart := false, laid := [("gyre/coef.parts", laid_gyre_coef_parts), ("gyre/coef.turning", laid_gyre_coef_turning), ("gyre/coef.names", laid_gyre_coef_names)] }
def CoefBackSaid : Prop := coefBackRow.holds Tryd.pinned (OpenSpec.ofChange coefBackSpec)

/-- ITS FALSE NEIGHBOUR: 'it returns false'. Refute it at one input. -/
def coefBackWrong : ChangeSpec := { name := "coefBack", fn := fun _ => fun
  | [d] => { results := [.lit (.bool false)], args := [d] }
  | _ => none }
def CoefBackWrongFalsely : Prop := coefBackRow.holds Tryd.pinned (OpenSpec.ofChange coefBackWrong)

/-- 'gyrelaw14.CoefTotal': WHATEVER THE INPUT: true; the input reads as it did. -/
def coefTotalSpec : ChangeSpec := { name := "coefTotal", fn := fun _ => fun
  | [d1, d2, d3] => { results := [.lit (.bool true)], args := [d1, d2, d3] }
  | _ => none }
def coefTotalRow : OpenClaim := { program := "ytcjjckokaiobcaadoor", sum := "136f8e2792daa0098d3710a9bfbca11949d16aab810a53a201eebae3670e1978", func := "gyre/gyrelaw14.CoefTotal", spec := "coefTotal", unfollowed := true, recurses := true, named := ["gyre/coef.turning", "gyre/coef.parts", "gyre/coef.names"], apart := false, laid := [("gyre/coef.parts", laid_gyre_coef_parts), ("gyre/coef.turning", laid_gyre_coef_turning), ("gyre/coef.names", laid_gyre_coef_names)] }
def CoefTotalSaid : Prop := coefTotalRow.holds Tryd.pinned (OpenSpec.ofChange coefTotalSpec)

/-- ITS FALSE NEIGHBOUR: 'it returns false'. Refute it at one input. -/
def coefTotalWrong : ChangeSpec := { name := "coefTotal", fn := fun _ => fun
  | [d1, d2, d3] => { results := [.lit (.bool false)], args := [d1, d2, d3] }
  | _ => none }
def CoefTotalWrongFalsely : Prop := coefTotalRow.holds Tryd.pinned (OpenSpec.ofChange coefTotalWrong)

/-- 'gyrelaw14.CoefSigns': WHATEVER THE INPUT: true; the input reads as it did. -/
def coefSignsSpec : ChangeSpec := { name := "coefSigns", fn := fun _ => fun
  | [d1, d2] => { results := [.lit (.bool true)], args := [d1, d2] }
  | _ => none }
def coefSignsRow : OpenClaim := { program := "ytcjjckokaiobcaadoor", sum := "136f8e2792daa0098d3710a9bfbca11949d16aab810a53a201eebae3670e1978", func := "gyre/gyrelaw14.CoefSigns", spec := "coefSigns", unfollowed := true, recurses := true, named := ["gyre/coef.turning", "gyre/coef.parts", "gyre/coef.names"], apart := false, laid := [("gyre/coef.parts", laid_gyre_coef_parts), ("gyre/coef.turning", laid_gyre_coef_turning), ("gyre/coef.names", laid_gyre_coef_names)] }
def CoefSignsSaid : Prop := coefSignsRow.holds Tryd.pinned (OpenSpec.ofChange coefSignsSpec)

/-- ITS FALSE NEIGHBOUR: 'it returns false'. Refute it at one input. -/
def coefSignsWrong : ChangeSpec := { name := "coefSigns", fn := fun _ => fun
  | [d1, d2] => { results := [.lit (.bool false)], args := [d1, d2] }
  | _ => none }
def CoefSignsWrongFalsely : Prop := coefSignsRow.holds Tryd.pinned (OpenSpec.ofChange coefSignsWrong)

/- THE SECOND FORM. 'bulk': how many values and letters a reading holds, each counted each time it is reached (what is shared counts as often as it is met; a slice's spare places count too). A statement '..UptoSaid' is the law's where the arguments, and the package variables that the reading takes, are together of bulk at most 1048576: NARROWER than '..Said'. Prove '..Said' where nothing that the law and all that it calls make is longer than what came in: it says more and counts as full. Else prove '..UptoSaid'. A law counts once. -/
mutual
def uptoBulk {H : Type} : DataW H → Nat
  | .lit (.string bytes) => bytes.length + 1
  | .lit _ => 1
  | .nil => 1
  | .ptr d => uptoBulk d + 1
  | .slice elems spare => uptoBulkAll elems + uptoBulkAll spare + 1
  | .agg parts => uptoBulkAll parts + 1
  | .iface _ d => uptoBulk d + 1
  | .map entries => uptoBulkEntries entries + 1
  | .held _ => 1
def uptoBulkAll {H : Type} : List (DataW H) → Nat
  | [] => 0
  | d :: r => uptoBulk d + uptoBulkAll r
def uptoBulkEntries {H : Type} : List (Lit × DataW H) → Nat
  | [] => 0
  | x :: r => uptoBulkEntry x + uptoBulkEntries r
def uptoBulkEntry {H : Type} : Lit × DataW H → Nat
  | (.string bytes, d) => bytes.length + uptoBulk d + 1
  | (_, d) => uptoBulk d + 1
 end
def uptoSmall : (H : Type) → List (DataW H) → Bool := fun _ ds => decide (uptoBulkAll ds ≤ 1048576)
def OpenSpec.upto (s : _root_.Go.ChangeSpec) : _root_.Go.OpenSpec := { _root_.Go.OpenSpec.ofChange s with cond := some uptoSmall }

/-- 'gyrelaw14.CoefTells', WHERE WHAT IT READS IS OF BULK AT MOST 1048576: true; the input reads as it did. -/
def coefTellsUptoRow : OpenClaim := { program := "ytcjjckokaiobcaadoor", sum := "136f8e2792daa0098d3710a9bfbca11949d16aab810a53a201eebae3670e1978", func := "gyre/gyrelaw14.CoefTells", spec := "coefTells", unfollowed := true, recurses := true, named := ["gyre/coef.turning", "gyre/coef.parts", "gyre/coef.names"], apart := false, laid := [("gyre/coef.parts", laid_gyre_coef_parts), ("gyre/coef.turning", laid_gyre_coef_turning), ("gyre/coef.names", laid_gyre_coef_names)], narrowed := true }
def CoefTellsUptoSaid : Prop := coefTellsUptoRow.holds Tryd.pinned (OpenSpec.upto coefTellsSpec)

/-- 'gyrelaw14.CoefWhole', WHERE WHAT IT READS IS OF BULK AT MOST 1048576: true; the input reads as it did. -/
def coefWholeUptoRow : OpenClaim := { program := "ytcjjckokaiobcaadoor", sum := "136f8e2792daa0098d3710a9bfbca11949d16aab810a53a201eebae3670e1978", func := "gyre/gyrelaw14.CoefWhole", spec := "coefWhole", unfollowed := true, recurses := true, named := ["gyre/coef.turning", "gyre/coef.parts", "gyre/coef.names"], apart := false, laid := [("gyre/coef.parts", laid_gyre_coef_parts), ("gyre/coef.turning", laid_gyre_coef_turning), ("gyre/coef.names", laid_gyre_coef_names)], narrowed := true }
def CoefWholeUptoSaid : Prop := coefWholeUptoRow.holds Tryd.pinned (OpenSpec.upto coefWholeSpec)

/-- 'gyrelaw14.CoefBack', WHERE WHAT IT READS IS OF BULK AT MOST 1048576: true; the input reads as it did. -/
def coefBackUptoRow : OpenClaim := { program := "ytcjjckokaiobcaadoor", sum := "136f8e2792daa0098d3710a9bfbca11949d16aab810a53a201eebae3670e1978", func := "gyre/gyrelaw14.CoefBack", spec := "coefBack", unfollowed := true, recurses := true, named := ["gyre/coef.turning", "gyre/coef.parts", "gyre/coef.names"], apart := false, laid := [("gyre/coef.parts", laid_gyre_coef_parts), ("gyre/coef.turning", laid_gyre_coef_turning), ("gyre/coef.names", laid_gyre_coef_names)], narrowed := true }
def CoefBackUptoSaid : Prop := coefBackUptoRow.holds Tryd.pinned (OpenSpec.upto coefBackSpec)

/-- 'gyrelaw14.CoefTotal', WHERE WHAT IT READS IS OF BULK AT MOST 1048576: true; the input reads as it did. -/
def coefTotalUptoRow : OpenClaim := { program := "ytcjjckokaiobcaadoor", sum := "136f8e2792daa0098d3710a9bfbca11949d16aab810a53a201eebae3670e1978", func := "gyre/gyrelaw14.CoefTotal", spec := "coefTotal", unfollowed := true, recurses := true, named := ["gyre/coef.turning", "gyre/coef.parts", "gyre/coef.names"], apart := false, laid := [("gyre/coef.parts", laid_gyre_coef_parts), ("gyre/coef.turning", laid_gyre_coef_turning), ("gyre/coef.names", laid_gyre_coef_names)], narrowed := true }
def CoefTotalUptoSaid : Prop := coefTotalUptoRow.holds Tryd.pinned (OpenSpec.upto coefTotalSpec)

/-- 'gyrelaw14.CoefSigns', WHERE WHAT IT READS IS OF BULK AT MOST 1048576: true; the input reads as it did. -/
def coefSignsUptoRow : OpenClaim := { program := "ytcjjckokaiobcaadoor", sum := "136f8e2792daa0098d3710a9bfbca11949d16aab810a53a201eebae3670e1978", func := "gyre/gyrelaw14.CoefSigns", spec := "coefSigns", unfollowed := true, recurses := true, named := ["gyre/coef.turning", "gyre/coef.parts", "gyre/coef.names"], apart := false, laid := [("gyre/coef.parts", laid_gyre_coef_parts), ("gyre/coef.turning", laid_gyre_coef_turning), ("gyre/coef.names", laid_gyre_coef_names)], narrowed := true }
def CoefSignsUptoSaid : Prop := coefSignsUptoRow.holds Tryd.pinned (OpenSpec.upto coefSignsSpec)

end Rows
end Go.Proofs.YtcjjckokaiobcaaDoor
