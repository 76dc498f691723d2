/- Texts of the seat, joined. -/
import Derived.Test.YtmikjgflenbljaaZz11
import Derived.Test.YtmikjgflenbljaaZz3
/- Points of three ints, as values and in blocks; small facts. -/
namespace Go.Proofs.Ytmikjgflenbljaa
open Go Go.RowKit
set_option linter.unusedSimpArgs false
set_option linter.unusedVariables false

abbrev sl (B n : Nat) : Value := .slice (some ⟨B, 0, none⟩) n n
abbrev sl0 : Value := .slice none 0 0
theorem one_inj {o : Obj} (B : Nat) : ∀ i j, domB [(0, o)] i = true → domB [(0, o)] j = true → (fun _ : Nat => B) i = (fun _ : Nat => B) j → i = j := by
  intro i j hi hj _
  have k : ∀ i, domB [(0, o)] i = true → i = 0 := fun i hi => by
    unfold domB at hi
    simp only [look] at hi
    split at hi
    · rename_i e; exact e.symm
    · cases hi
  rw [k i hi, k j hj]
def mnI (x y : Int) : Int := if y < x then y else x
def mxI (x y : Int) : Int := if x < y then y else x
abbrev wi (z : Int) : Int := IntKind.i64.wrap z
theorem wrapI {z : Int} (h : -9223372036854775808 ≤ z ∧ z < 9223372036854775808) : IntKind.i64.wrap z = z := by
  rw [IntKind.wrap_i64]
  omega
theorem tm_b {a w : Int} (hw : 0 < w) : -w < Int.tmod a w ∧ Int.tmod a w < w := by
  have h := Int.natAbs_tmod a w
  have h1 := Nat.mod_lt a.natAbs (show 0 < w.natAbs by omega)
  omega
def isI (z : Int) : Prop := -9223372036854775808 ≤ z ∧ z ≤ 9223372036854775807
abbrev P3 := Int × Int × Int
/-- A point as a value. -/
def vc (x y z : Int) : Value := .agg ⟨[.int .i64 x, .int .i64 y, .int .i64 z]⟩
def vv (a : P3) : Value := vc a.1 a.2.1 a.2.2
/-- A block of points. -/
def ovc (l : List P3) : Obj := .cells ⟨l.flatMap fun a => [.int .i64 a.1, .int .i64 a.2.1, .int .i64 a.2.2]⟩ 40 (0, 0)
def inP (a : P3) : Prop := isI a.1 ∧ isI a.2.1 ∧ isI a.2.2
end Go.Proofs.Ytmikjgflenbljaa
