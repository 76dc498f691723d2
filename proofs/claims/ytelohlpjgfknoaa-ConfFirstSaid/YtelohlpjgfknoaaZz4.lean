/- Texts of the seat, joined. -/
import Derived.Test.YtelohlpjgfknoaaProg
import Derived.Test.YtelohlpjgfknoaaZz3
/- Sums and differences of wide numbers. -/
namespace Go.Proofs.Ytelohlpjgfknoaa
open Go Go.RowKit
set_option linter.unusedSimpArgs false
set_option linter.unusedVariables false

abbrev Bw : Nat := 18446744073709551616
abbrev Mw : Nat := 115792089237316195423570985008687907853269984665640564039457584007913129639936
def W4 (a b c d : Nat) : Value := .agg #[.int .u64 (Int.ofNat a), .int .u64 (Int.ofNat b), .int .u64 (Int.ofNat c), .int .u64 (Int.ofNat d)]
def tp (l : List Value) : Value := .tuple ⟨l⟩
abbrev rt (v : Value) : Res := .ret v
abbrev bb (b : Bool) : Value := .bool b
abbrev u (a : Nat) : Value := .int .u64 (Int.ofNat a)
abbrev n : Option Bool := none
abbrev t : Option Bool := some true
abbrev f : Option Bool := some false
def ad (x y c : Nat) : Nat := (x + y + c) % Bw
def ac (x y c : Nat) : Nat := (x + y + c) / Bw
def sb (x y c : Nat) : Nat := (x + Bw - y - c) % Bw
def sc (x y c : Nat) : Nat := if x < y + c then 1 else 0

theorem mix : Try.prog.follows .mixedOrders = true := by kernel_rfl
theorem w4_ok (a b c d : Nat) : wfV noB (W4 a b c d) = true := rfl
theorem args_ok : ∀ {l : List Value}, (l.all fun v => wfV noB v) = true → wfA noB ⟨l⟩ = true
  | [], _ => rfl
  | v :: l, h => by
    rw [List.all_cons, Bool.and_eq_true] at h
    show (wfV noB v && wfL noB l) = true
    have := args_ok h.2
    rw [Bool.and_eq_true]
    exact ⟨h.1, this⟩

theorem top_bit {a : Nat} (ha : a < 18446744073709551616) : (!(IntKind.u64.wrap ↑((BitVec.ofInt 64 (Int.ofNat a) &&& BitVec.ofInt 64 9223372036854775808).toNat) == 0)) = decide (9223372036854775808 ≤ a) := by
  have h1 : (BitVec.ofInt 64 (Int.ofNat a) &&& BitVec.ofInt 64 9223372036854775808).toNat = (a / 2 ^ 63 % 2) * 2 ^ 63 := by
    rw [BitVec.toNat_and]
    have e1 : (BitVec.ofInt 64 (Int.ofNat a)).toNat = a := by
      simp [BitVec.toNat_ofInt]
      omega
    have e2 : (BitVec.ofInt 64 9223372036854775808).toNat = 2 ^ 63 := by rfl
    rw [e1, e2]
    apply Nat.eq_of_testBit_eq
    intro i
    rw [Nat.testBit_and, Nat.testBit_two_pow]
    by_cases h : 63 = i
    · subst h
      simp only [decide_true, Bool.and_true]
      rw [Nat.testBit_mul_two_pow]
      simp [Nat.testBit, Nat.shiftRight_eq_div_pow]
    · simp only [h, decide_false, Bool.and_false]
      rw [Nat.testBit_mul_two_pow]
      by_cases h2 : 63 ≤ i
      · simp only [h2, decide_true, Bool.true_and]
        have h3 : a / 2 ^ 63 % 2 < 2 ^ (i - 63) := Nat.lt_of_lt_of_le (Nat.mod_lt _ (by decide)) (by
          have : 2 ^ 1 ≤ 2 ^ (i - 63) := Nat.pow_le_pow_right (by decide) (by omega)
          simpa using this)
        exact (Nat.testBit_lt_two_pow h3).symm
      · simp [h2]
  rw [h1]
  have hd : a / 2 ^ 63 < 2 := by omega
  have hk : a / 2 ^ 63 = 0 ∨ a / 2 ^ 63 = 1 := by omega
  rcases hk with hk | hk
  · rw [hk]
    have : ¬ 9223372036854775808 ≤ a := by omega
    simp only [this, decide_false]
    decide
  · rw [hk]
    have : 9223372036854775808 ≤ a := by omega
    simp only [this, decide_true]
    decide
end Go.Proofs.Ytelohlpjgfknoaa
