/- Sums and differences of wide numbers. -/
import Derived.Test.YtpbhoamojocbpaaProg
import Derived.Test.YtpbhoamojocbpaaE12
namespace Go.Proofs.Ytpbhoamojocbpaa
open Go Go.RowKit
set_option linter.unusedSimpArgs false
set_option linter.unusedVariables false

abbrev Bw : Nat := 18446744073709551616
abbrev Mw : Nat := 115792089237316195423570985008687907853269984665640564039457584007913129639936
def W4 (a b c d : Nat) : Value := .agg #[.int .u64 (Int.ofNat a), .int .u64 (Int.ofNat b), .int .u64 (Int.ofNat c), .int .u64 (Int.ofNat d)]
def tp (l : List Value) : Value := .tuple ⟨l⟩
abbrev rt (v : Value) : Res := .ret v
abbrev bb (b : Bool) : Value := .bool b
abbrev u (a : Nat) : Value := .int .u64 (Int.ofNat a)
abbrev n : Option Bool := none
abbrev t : Option Bool := some true
abbrev f : Option Bool := some false
def ad (x y c : Nat) : Nat := (x + y + c) % Bw
def ac (x y c : Nat) : Nat := (x + y + c) / Bw
def sb (x y c : Nat) : Nat := (x + Bw - y - c) % Bw
def sc (x y c : Nat) : Nat := if x < y + c then 1 else 0

theorem mix : Try.prog.follows .mixedOrders = true := by kernel_rfl
theorem w4_ok (a b c d : Nat) : wfV noB (W4 a b c d) = true := rfl
theorem args_ok : ∀ {l : List Value}, (l.all fun v => wfV noB v) = true → wfA noB ⟨l⟩ = true
  | [], _ => rfl
  | v :: l, h => by
    rw [List.all_cons, Bool.and_eq_true] at h
    show (wfV noB v && wfL noB l) = true
    have := args_ok h.2
    rw [Bool.and_eq_true]
    exact ⟨h.1, this⟩

theorem below_raw (a0 a1 a2 a3 : Nat) : runA Try.prog 109 #[W4 a0 a1 a2 a3] [] [] = some (rt (bb (!(IntKind.u64.wrap ↑((BitVec.ofInt 64 (Int.ofNat a3) &&& BitVec.ofInt 64 9223372036854775808).toNat) == 0))), []) := by kernel_rfl
theorem top_bit {a : Nat} (ha : a < 18446744073709551616) : (!(IntKind.u64.wrap ↑((BitVec.ofInt 64 (Int.ofNat a) &&& BitVec.ofInt 64 9223372036854775808).toNat) == 0)) = decide (9223372036854775808 ≤ a) := by
  have h1 : (BitVec.ofInt 64 (Int.ofNat a) &&& BitVec.ofInt 64 9223372036854775808).toNat = (a / 2 ^ 63 % 2) * 2 ^ 63 := by
    rw [BitVec.toNat_and]
    have e1 : (BitVec.ofInt 64 (Int.ofNat a)).toNat = a := by
      simp [BitVec.toNat_ofInt]
      omega
    have e2 : (BitVec.ofInt 64 9223372036854775808).toNat = 2 ^ 63 := by rfl
    rw [e1, e2]
    apply Nat.eq_of_testBit_eq
    intro i
    rw [Nat.testBit_and, Nat.testBit_two_pow]
    by_cases h : 63 = i
    · subst h
      simp only [decide_true, Bool.and_true]
      rw [Nat.testBit_mul_two_pow]
      simp [Nat.testBit, Nat.shiftRight_eq_div_pow]
    · simp only [h, decide_false, Bool.and_false]
      rw [Nat.testBit_mul_two_pow]
      by_cases h2 : 63 ≤ i
      · simp only [h2, decide_true, Bool.true_and]
        have h3 : a / 2 ^ 63 % 2 < 2 ^ (i - 63) := Nat.lt_of_lt_of_le (Nat.mod_lt _ (by decide)) (by
          have : 2 ^ 1 ≤ 2 ^ (i - 63) := Nat.pow_le_pow_right (by decide) (by omega)
          simpa using this)
        exact (Nat.testBit_lt_two_pow h3).symm
      · simp [h2]
  rw [h1]
  have hd : a / 2 ^ 63 < 2 := by omega
  have hk : a / 2 ^ 63 = 0 ∨ a / 2 ^ 63 = 1 := by omega
  rcases hk with hk | hk
  · rw [hk]
    have : ¬ 9223372036854775808 ≤ a := by omega
    simp only [this, decide_false]
    decide
  · rw [hk]
    have : 9223372036854775808 ≤ a := by omega
    simp only [this, decide_true]
    decide
theorem below_c {a0 a1 a2 a3 : Nat} (h : a3 < Bw) : PureX Try.prog 109 #[W4 a0 a1 a2 a3] (rt (bb (decide (9223372036854775808 ≤ a3)))) := by
  have := runA_pure mix (below_raw a0 a1 a2 a3) trivial rfl rfl
  rwa [top_bit h] at this

theorem add_raw1 (a0 a1 a2 a3 b0 b1 b2 b3 : Nat) (p q r s : Bool) : runA Try.prog 119 #[W4 a0 a1 a2 a3, W4 b0 b1 b2 b3] [n, n, n, n, f, n, n, f, n, n, f, n, n, t, n, n, n, n] [(109, rt (bb p)), (109, rt (bb q)), (109, rt (bb r)), (109, rt (bb s))] =
    some (rt (tp [W4 (ad a0 b0 0) (ad a1 b1 (ac a0 b0 0)) (ad a2 b2 (ac a1 b1 (ac a0 b0 0))) (ad a3 b3 (ac a2 b2 (ac a1 b1 (ac a0 b0 0)))), bb (!(r == s))]),
      [decide ((ac a0 b0 0) > 1) = false, decide ((ac a1 b1 (ac a0 b0 0)) > 1) = false, decide ((ac a2 b2 (ac a1 b1 (ac a0 b0 0))) > 1) = false,
       PureX Try.prog 109 #[W4 a0 a1 a2 a3] (rt (bb p)), PureX Try.prog 109 #[W4 b0 b1 b2 b3] (rt (bb q)), (p == q) = true,
       PureX Try.prog 109 #[W4 (ad a0 b0 0) (ad a1 b1 (ac a0 b0 0)) (ad a2 b2 (ac a1 b1 (ac a0 b0 0))) (ad a3 b3 (ac a2 b2 (ac a1 b1 (ac a0 b0 0))))] (rt (bb r)), PureX Try.prog 109 #[W4 a0 a1 a2 a3] (rt (bb s))]) := by kernel_rfl
theorem add_raw2 (a0 a1 a2 a3 b0 b1 b2 b3 : Nat) (p q r s : Bool) : runA Try.prog 119 #[W4 a0 a1 a2 a3, W4 b0 b1 b2 b3] [n, n, n, n, f, n, n, f, n, n, f, n, n, f, n, n, n, n] [(109, rt (bb p)), (109, rt (bb q))] =
    some (rt (tp [W4 (ad a0 b0 0) (ad a1 b1 (ac a0 b0 0)) (ad a2 b2 (ac a1 b1 (ac a0 b0 0))) (ad a3 b3 (ac a2 b2 (ac a1 b1 (ac a0 b0 0)))), bb false]),
      [decide ((ac a0 b0 0) > 1) = false, decide ((ac a1 b1 (ac a0 b0 0)) > 1) = false, decide ((ac a2 b2 (ac a1 b1 (ac a0 b0 0))) > 1) = false,
       PureX Try.prog 109 #[W4 a0 a1 a2 a3] (rt (bb p)), PureX Try.prog 109 #[W4 b0 b1 b2 b3] (rt (bb q)), (p == q) = false]) := by kernel_rfl
theorem sub_raw1 (a0 a1 a2 a3 b0 b1 b2 b3 : Nat) (p q r s : Bool) : runA Try.prog 66 #[W4 a0 a1 a2 a3, W4 b0 b1 b2 b3] [n, n, n, n, f, n, n, f, n, n, f, n, n, t, n, n, n, n] [(109, rt (bb p)), (109, rt (bb q)), (109, rt (bb r)), (109, rt (bb s))] =
    some (rt (tp [W4 (sb a0 b0 0) (sb a1 b1 (sc a0 b0 0)) (sb a2 b2 (sc a1 b1 (sc a0 b0 0))) (sb a3 b3 (sc a2 b2 (sc a1 b1 (sc a0 b0 0)))), bb (!(r == s))]),
      [decide ((sc a0 b0 0) > 1) = false, decide ((sc a1 b1 (sc a0 b0 0)) > 1) = false, decide ((sc a2 b2 (sc a1 b1 (sc a0 b0 0))) > 1) = false,
       PureX Try.prog 109 #[W4 a0 a1 a2 a3] (rt (bb p)), PureX Try.prog 109 #[W4 b0 b1 b2 b3] (rt (bb q)), (!(p == q)) = true,
       PureX Try.prog 109 #[W4 (sb a0 b0 0) (sb a1 b1 (sc a0 b0 0)) (sb a2 b2 (sc a1 b1 (sc a0 b0 0))) (sb a3 b3 (sc a2 b2 (sc a1 b1 (sc a0 b0 0))))] (rt (bb r)), PureX Try.prog 109 #[W4 a0 a1 a2 a3] (rt (bb s))]) := by kernel_rfl
theorem sub_raw2 (a0 a1 a2 a3 b0 b1 b2 b3 : Nat) (p q r s : Bool) : runA Try.prog 66 #[W4 a0 a1 a2 a3, W4 b0 b1 b2 b3] [n, n, n, n, f, n, n, f, n, n, f, n, n, f, n, n, n, n] [(109, rt (bb p)), (109, rt (bb q))] =
    some (rt (tp [W4 (sb a0 b0 0) (sb a1 b1 (sc a0 b0 0)) (sb a2 b2 (sc a1 b1 (sc a0 b0 0))) (sb a3 b3 (sc a2 b2 (sc a1 b1 (sc a0 b0 0)))), bb false]),
      [decide ((sc a0 b0 0) > 1) = false, decide ((sc a1 b1 (sc a0 b0 0)) > 1) = false, decide ((sc a2 b2 (sc a1 b1 (sc a0 b0 0))) > 1) = false,
       PureX Try.prog 109 #[W4 a0 a1 a2 a3] (rt (bb p)), PureX Try.prog 109 #[W4 b0 b1 b2 b3] (rt (bb q)), (!(p == q)) = false]) := by kernel_rfl

end Go.Proofs.Ytpbhoamojocbpaa
