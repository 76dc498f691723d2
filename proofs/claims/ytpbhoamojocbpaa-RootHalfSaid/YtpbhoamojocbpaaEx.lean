/- A walk by computation: sums and differences of words with a carry. -/
import Derived.Test.YtpbhoamojocbpaaE4
import Derived.Laws.Externs
namespace Go.Proofs.Ytpbhoamojocbpaa
open Go Go.RowKit
set_option linter.unusedSimpArgs false
set_option linter.unusedVariables false

def isAdd (fn : Func) : Bool := fn.body.isNone && fn.origin == "" && fn.name == "math/bits.Add64"
def isSub (fn : Func) : Bool := fn.body.isNone && fn.origin == "" && fn.name == "math/bits.Sub64"
/-- What Add64, Sub64 tell, and whether the carry is none. -/
def vext (P : Program) (f : FuncId) (args : Array Value) : Option (Value × Bool) :=
  match P.funcs[f]? with
  | some fn =>
    match args with
    | ⟨[.int _ x, .int _ y, .int _ c]⟩ =>
      if isAdd fn then some (Extern.MathBitsCarry.pair ((x.toNat + y.toNat + c.toNat) % Extern.MathBitsCarry.m64) ((x.toNat + y.toNat + c.toNat) / Extern.MathBitsCarry.m64), decide (c.toNat > 1))
      else if isSub fn then some (Extern.MathBitsCarry.pair ((x.toNat + Extern.MathBitsCarry.m64 - y.toNat - c.toNat) % Extern.MathBitsCarry.m64) (if x.toNat < y.toNat + c.toNat then 1 else 0), decide (c.toNat > 1))
      else none
    | _ => none
  | none => none

theorem three_is (name : String) (x y c : Int) (k k' k'' : IntKind) : Extern.MathBitsCarry.three name #[.int k x, .int k' y, .int k'' c] = (do
    if c.toNat > 1 then unsupported (.noEntry ("extern/math/bits." ++ name ++ ": a carry that is neither 0 nor 1"))
    pure (x.toNat, y.toNat, c.toNat)) := rfl
theorem sub64_in (x y c : Int) (k k' k'' : IntKind) (hc : ¬ c.toNat > 1) : ∃ e : Array Value → Sem Value, Extern.allRows.lookup "math/bits.Sub64" = some e ∧ ∀ (P : Program) (w : World), (e #[.int k x, .int k' y, .int k'' c]).run P w = .ok (Extern.MathBitsCarry.pair ((x.toNat + Extern.MathBitsCarry.m64 - y.toNat - c.toNat) % Extern.MathBitsCarry.m64) (if x.toNat < y.toNat + c.toNat then 1 else 0)) w := by
  refine ⟨fun args => do
    let (x, y, b) ← Extern.MathBitsCarry.three "Sub64" args
    pure (Extern.MathBitsCarry.pair ((x + Extern.MathBitsCarry.m64 - y - b) % Extern.MathBitsCarry.m64) (if x < y + b then 1 else 0)), by kernel_rfl, fun P w => ?_⟩
  simp [three_is, hc]
theorem add64_in (x y c : Int) (k k' k'' : IntKind) (hc : ¬ c.toNat > 1) : ∃ e : Array Value → Sem Value, Extern.allRows.lookup "math/bits.Add64" = some e ∧ ∀ (P : Program) (w : World), (e #[.int k x, .int k' y, .int k'' c]).run P w = .ok (Extern.MathBitsCarry.pair ((x.toNat + y.toNat + c.toNat) % Extern.MathBitsCarry.m64) ((x.toNat + y.toNat + c.toNat) / Extern.MathBitsCarry.m64)) w := by
  refine ⟨fun args => do
    let (x, y, c) ← Extern.MathBitsCarry.three "Add64" args
    pure (Extern.MathBitsCarry.pair ((x + y + c) % Extern.MathBitsCarry.m64) ((x + y + c) / Extern.MathBitsCarry.m64)), by kernel_rfl, fun P w => ?_⟩
  simp [three_is, hc]
theorem noRow1 : (Extern.allNextRows.lookup "math/bits.Add64").isNone = true := by kernel_rfl
theorem noRow2 : (Extern.allNextRows.lookup "math/bits.Sub64").isNone = true := by kernel_rfl
theorem noRow3 : (Extern.allNextRows.lookup "").isNone = true := by kernel_rfl
theorem noRow4 : (Extern.allGenericRows.lookup "math/bits.Add64").isNone = true := by kernel_rfl
theorem noRow5 : (Extern.allGenericRows.lookup "math/bits.Sub64").isNone = true := by kernel_rfl
theorem noRow6 : (Extern.allTypedRows.lookup "math/bits.Add64").isNone = true := by kernel_rfl
theorem noRow7 : (Extern.allTypedRows.lookup "math/bits.Sub64").isNone = true := by kernel_rfl

theorem ext_run {P : Program} {f : FuncId} {args : Array Value} {v : Value} (h : vext P f args = some (v, false)) (w : World) : (callFunc f args).run P w = .ok (.value v) w ∧ (∀ β, renA β args = args) ∧ (∀ p, wfV p v = true) := by
  unfold vext at h
  split at h
  case h_2 => cases h
  rename_i fn hf
  split at h
  case h_2 => cases h
  rename_i k x k' y k'' c
  have hr : ∀ β, renA β (⟨[.int k x, .int k' y, .int k'' c]⟩ : Array Value) = ⟨[.int k x, .int k' y, .int k'' c]⟩ := fun β => rfl
  split at h
  · rename_i ha
    simp only [Option.some.injEq, Prod.mk.injEq, decide_eq_false_iff_not] at h
    obtain ⟨rfl, hc⟩ := h
    unfold isAdd at ha
    simp only [Bool.and_eq_true, beq_iff_eq] at ha
    obtain ⟨⟨h1, h2⟩, h3⟩ := ha
    obtain ⟨e, he, hrun⟩ := add64_in x y c k k' k'' hc
    refine ⟨?_, hr, fun p => rfl⟩
    have n1 : Extern.findNext fn = none := by
      have a := noRow1; have b := noRow3
      simp only [Option.isNone_iff_eq_none] at a b
      simp only [Extern.findNext, h3, h2, a, b]; rfl
    have n2 : Extern.find fn = some e := by
      have a := noRow4; have b := noRow6
      simp only [Option.isNone_iff_eq_none] at a b
      simp only [Extern.find, h3, a, b, he]; rfl
    simp [callFunc, run_program, hf, h3, Option.isNone_iff_eq_none.1 h1, n1, n2, hrun]
  · split at h
    case isFalse => cases h
    rename_i ha
    simp only [Option.some.injEq, Prod.mk.injEq, decide_eq_false_iff_not] at h
    obtain ⟨rfl, hc⟩ := h
    unfold isSub at ha
    simp only [Bool.and_eq_true, beq_iff_eq] at ha
    obtain ⟨⟨h1, h2⟩, h3⟩ := ha
    obtain ⟨e, he, hrun⟩ := sub64_in x y c k k' k'' hc
    refine ⟨?_, hr, fun p => rfl⟩
    have n1 : Extern.findNext fn = none := by
      have a := noRow2; have b := noRow3
      simp only [Option.isNone_iff_eq_none] at a b
      simp only [Extern.findNext, h3, h2, a, b]; rfl
    have n2 : Extern.find fn = some e := by
      have a := noRow5; have b := noRow7
      simp only [Option.isNone_iff_eq_none] at a b
      simp only [Extern.find, h3, a, b, he]; rfl
    simp [callFunc, run_program, hf, h3, Option.isNone_iff_eq_none.1 h1, n1, n2, hrun]

end Go.Proofs.Ytpbhoamojocbpaa
