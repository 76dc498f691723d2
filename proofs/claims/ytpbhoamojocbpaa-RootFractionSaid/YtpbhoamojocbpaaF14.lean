/- The order of wide numbers, as the program tells it. -/
import Derived.Test.YtpbhoamojocbpaaF13
import Derived.Test.YtpbhoamojocbpaaD9
namespace Go.Proofs.Ytpbhoamojocbpaa
open Go Go.RowKit
set_option linter.unusedSimpArgs false
set_option linter.unusedVariables false

def liftW (n : Nat) : Nat := if 9223372036854775808 ≤ n then n - 9223372036854775808 else n + 9223372036854775808
theorem xor_top (a : Nat) (ha : a < 18446744073709551616) : bits BinOp.xor IntKind.u64 (a : Int) 9223372036854775808 = (liftW a : Int) := by
  have h := bits_xor_u64_nat a 9223372036854775808 ha (by omega)
  have e : bits BinOp.xor IntKind.u64 (a : Int) 9223372036854775808 = ((a ^^^ 9223372036854775808 : Nat) : Int) := h
  rw [e]
  congr 1
  have h2 : a ^^^ 9223372036854775808 = liftW a := by
    have m1 : (a ^^^ 2 ^ 63) % 2 ^ 63 = a % 2 ^ 63 ^^^ 2 ^ 63 % 2 ^ 63 := Nat.xor_mod_two_pow
    have m2 : (a ^^^ 2 ^ 63) / 2 ^ 63 = a / 2 ^ 63 ^^^ 2 ^ 63 / 2 ^ 63 := Nat.xor_div_two_pow
    rw [show (2 : Nat) ^ 63 % 2 ^ 63 = 0 from rfl, Nat.xor_zero] at m1
    rw [show (2 : Nat) ^ 63 / 2 ^ 63 = 1 from rfl] at m2
    have h3 : a / 2 ^ 63 = 0 ∨ a / 2 ^ 63 = 1 := by omega
    rw [show (2 : Nat) ^ 63 = 9223372036854775808 from rfl] at m1 m2 h3
    generalize a ^^^ 9223372036854775808 = x at *
    unfold liftW
    rcases h3 with h3 | h3
    · rw [h3, show (0 ^^^ 1 : Nat) = 1 from rfl] at m2
      rw [if_neg (by omega)]
      omega
    · rw [h3, show (1 ^^^ 1 : Nat) = 0 from rfl] at m2
      rw [if_pos (by omega)]
      omega
  exact h2

theorem cp_raw_lt (x y : Nat) : runA Try.prog 130 #[u x, u y] [f, f, t] [] = some (rt (.int .i64 (-1)), [(Int.ofNat x != Int.ofNat x) = false, (Int.ofNat y != Int.ofNat y) = false, decide (Int.ofNat x < Int.ofNat y) = true]) := by kernel_rfl
theorem cp_raw_gt (x y : Nat) : runA Try.prog 130 #[u x, u y] [f, f, f, t] [] = some (rt (.int .i64 1), [(Int.ofNat x != Int.ofNat x) = false, (Int.ofNat y != Int.ofNat y) = false, decide (Int.ofNat x < Int.ofNat y) = false, decide (Int.ofNat y < Int.ofNat x) = true]) := by kernel_rfl
theorem lf4_raw (x0 x1 x2 x3 : Nat) : runA Try.prog 129 #[W4 x0 x1 x2 x3] [] [] = some (rt (.agg #[u x0, u x1, u x2, .int .u64 (bits BinOp.xor IntKind.u64 (Int.ofNat x3) 9223372036854775808)]), []) := by kernel_rfl
/-- The order of two words that are not the same. -/
theorem cp_c {x y : Nat} (h : x ≠ y) : PureX Try.prog 130 #[u x, u y] (rt (.int .i64 ((x : Int) - y).sign)) := by
  have e : ∀ z : Int, (z != z) = false := fun z => by simp
  rcases Nat.lt_or_gt_of_ne h with h | h
  · rw [show ((x : Int) - y).sign = -1 from Int.sign_eq_neg_one_of_neg (by omega)]
    exact runA_pure mix (cp_raw_lt x y) ⟨e _, e _, decide_eq_true (show (x : Int) < (y : Int) by omega), trivial⟩ rfl rfl
  · rw [show ((x : Int) - y).sign = 1 from Int.sign_eq_one_of_pos (by omega)]
    exact runA_pure mix (cp_raw_gt x y) ⟨e _, e _, decide_eq_false (show ¬ (x : Int) < (y : Int) by omega), decide_eq_true (show (y : Int) < (x : Int) by omega), trivial⟩ rfl rfl
theorem lf4_c {x0 x1 x2 x3 : Nat} (h : x3 < 18446744073709551616) : PureX Try.prog 129 #[W4 x0 x1 x2 x3] (rt (W4 x0 x1 x2 (liftW x3))) := by
  have := runA_pure mix (lf4_raw x0 x1 x2 x3) trivial rfl rfl
  rw [show bits BinOp.xor IntKind.u64 (Int.ofNat x3) 9223372036854775808 = Int.ofNat (liftW x3) from xor_top x3 h] at this
  exact this

theorem cm_0 (a0 a1 a2 a3 b0 b1 b2 b3 x0 x1 x2 x3 y0 y1 y2 y3 : Nat) : runA Try.prog 106 #[W4 a0 a1 a2 a3, W4 b0 b1 b2 b3] [n, f, n, n, f, n, n, f, n, n, f, n, n] [(129, rt (W4 y0 y1 y2 y3)), (129, rt (W4 x0 x1 x2 x3))] = some (rt (.int .i64 0), [PureX Try.prog 129 #[W4 b0 b1 b2 b3] (rt (W4 y0 y1 y2 y3)), PureX Try.prog 129 #[W4 a0 a1 a2 a3] (rt (W4 x0 x1 x2 x3)), (Int.ofNat x0 != Int.ofNat y0) = false, (Int.ofNat x1 != Int.ofNat y1) = false, (Int.ofNat x2 != Int.ofNat y2) = false, (Int.ofNat x3 != Int.ofNat y3) = false]) := by kernel_rfl
theorem cm_1 (a0 a1 a2 a3 b0 b1 b2 b3 x0 x1 x2 x3 y0 y1 y2 y3 : Nat) (c0 : Int) : runA Try.prog 106 #[W4 a0 a1 a2 a3, W4 b0 b1 b2 b3] [n, t, n, n, f, n, n, f, n, n, f, n, n] [(129, rt (W4 y0 y1 y2 y3)), (129, rt (W4 x0 x1 x2 x3)), (130, rt (.int .i64 c0))] = some (rt (.int .i64 c0), [PureX Try.prog 129 #[W4 b0 b1 b2 b3] (rt (W4 y0 y1 y2 y3)), PureX Try.prog 129 #[W4 a0 a1 a2 a3] (rt (W4 x0 x1 x2 x3)), (Int.ofNat x0 != Int.ofNat y0) = true, PureX Try.prog 130 #[u x0, u y0] (rt (.int .i64 c0)), (Int.ofNat x1 != Int.ofNat y1) = false, (Int.ofNat x2 != Int.ofNat y2) = false, (Int.ofNat x3 != Int.ofNat y3) = false]) := by kernel_rfl
theorem cm_2 (a0 a1 a2 a3 b0 b1 b2 b3 x0 x1 x2 x3 y0 y1 y2 y3 : Nat) (c1 : Int) : runA Try.prog 106 #[W4 a0 a1 a2 a3, W4 b0 b1 b2 b3] [n, f, n, n, t, n, n, f, n, n, f, n, n] [(129, rt (W4 y0 y1 y2 y3)), (129, rt (W4 x0 x1 x2 x3)), (130, rt (.int .i64 c1))] = some (rt (.int .i64 c1), [PureX Try.prog 129 #[W4 b0 b1 b2 b3] (rt (W4 y0 y1 y2 y3)), PureX Try.prog 129 #[W4 a0 a1 a2 a3] (rt (W4 x0 x1 x2 x3)), (Int.ofNat x0 != Int.ofNat y0) = false, (Int.ofNat x1 != Int.ofNat y1) = true, PureX Try.prog 130 #[u x1, u y1] (rt (.int .i64 c1)), (Int.ofNat x2 != Int.ofNat y2) = false, (Int.ofNat x3 != Int.ofNat y3) = false]) := by kernel_rfl
theorem cm_3 (a0 a1 a2 a3 b0 b1 b2 b3 x0 x1 x2 x3 y0 y1 y2 y3 : Nat) (c0 c1 : Int) : runA Try.prog 106 #[W4 a0 a1 a2 a3, W4 b0 b1 b2 b3] [n, t, n, n, t, n, n, f, n, n, f, n, n] [(129, rt (W4 y0 y1 y2 y3)), (129, rt (W4 x0 x1 x2 x3)), (130, rt (.int .i64 c0)), (130, rt (.int .i64 c1))] = some (rt (.int .i64 c1), [PureX Try.prog 129 #[W4 b0 b1 b2 b3] (rt (W4 y0 y1 y2 y3)), PureX Try.prog 129 #[W4 a0 a1 a2 a3] (rt (W4 x0 x1 x2 x3)), (Int.ofNat x0 != Int.ofNat y0) = true, PureX Try.prog 130 #[u x0, u y0] (rt (.int .i64 c0)), (Int.ofNat x1 != Int.ofNat y1) = true, PureX Try.prog 130 #[u x1, u y1] (rt (.int .i64 c1)), (Int.ofNat x2 != Int.ofNat y2) = false, (Int.ofNat x3 != Int.ofNat y3) = false]) := by kernel_rfl
theorem cm_4 (a0 a1 a2 a3 b0 b1 b2 b3 x0 x1 x2 x3 y0 y1 y2 y3 : Nat) (c2 : Int) : runA Try.prog 106 #[W4 a0 a1 a2 a3, W4 b0 b1 b2 b3] [n, f, n, n, f, n, n, t, n, n, f, n, n] [(129, rt (W4 y0 y1 y2 y3)), (129, rt (W4 x0 x1 x2 x3)), (130, rt (.int .i64 c2))] = some (rt (.int .i64 c2), [PureX Try.prog 129 #[W4 b0 b1 b2 b3] (rt (W4 y0 y1 y2 y3)), PureX Try.prog 129 #[W4 a0 a1 a2 a3] (rt (W4 x0 x1 x2 x3)), (Int.ofNat x0 != Int.ofNat y0) = false, (Int.ofNat x1 != Int.ofNat y1) = false, (Int.ofNat x2 != Int.ofNat y2) = true, PureX Try.prog 130 #[u x2, u y2] (rt (.int .i64 c2)), (Int.ofNat x3 != Int.ofNat y3) = false]) := by kernel_rfl
theorem cm_5 (a0 a1 a2 a3 b0 b1 b2 b3 x0 x1 x2 x3 y0 y1 y2 y3 : Nat) (c0 c2 : Int) : runA Try.prog 106 #[W4 a0 a1 a2 a3, W4 b0 b1 b2 b3] [n, t, n, n, f, n, n, t, n, n, f, n, n] [(129, rt (W4 y0 y1 y2 y3)), (129, rt (W4 x0 x1 x2 x3)), (130, rt (.int .i64 c0)), (130, rt (.int .i64 c2))] = some (rt (.int .i64 c2), [PureX Try.prog 129 #[W4 b0 b1 b2 b3] (rt (W4 y0 y1 y2 y3)), PureX Try.prog 129 #[W4 a0 a1 a2 a3] (rt (W4 x0 x1 x2 x3)), (Int.ofNat x0 != Int.ofNat y0) = true, PureX Try.prog 130 #[u x0, u y0] (rt (.int .i64 c0)), (Int.ofNat x1 != Int.ofNat y1) = false, (Int.ofNat x2 != Int.ofNat y2) = true, PureX Try.prog 130 #[u x2, u y2] (rt (.int .i64 c2)), (Int.ofNat x3 != Int.ofNat y3) = false]) := by kernel_rfl
theorem cm_6 (a0 a1 a2 a3 b0 b1 b2 b3 x0 x1 x2 x3 y0 y1 y2 y3 : Nat) (c1 c2 : Int) : runA Try.prog 106 #[W4 a0 a1 a2 a3, W4 b0 b1 b2 b3] [n, f, n, n, t, n, n, t, n, n, f, n, n] [(129, rt (W4 y0 y1 y2 y3)), (129, rt (W4 x0 x1 x2 x3)), (130, rt (.int .i64 c1)), (130, rt (.int .i64 c2))] = some (rt (.int .i64 c2), [PureX Try.prog 129 #[W4 b0 b1 b2 b3] (rt (W4 y0 y1 y2 y3)), PureX Try.prog 129 #[W4 a0 a1 a2 a3] (rt (W4 x0 x1 x2 x3)), (Int.ofNat x0 != Int.ofNat y0) = false, (Int.ofNat x1 != Int.ofNat y1) = true, PureX Try.prog 130 #[u x1, u y1] (rt (.int .i64 c1)), (Int.ofNat x2 != Int.ofNat y2) = true, PureX Try.prog 130 #[u x2, u y2] (rt (.int .i64 c2)), (Int.ofNat x3 != Int.ofNat y3) = false]) := by kernel_rfl
theorem cm_7 (a0 a1 a2 a3 b0 b1 b2 b3 x0 x1 x2 x3 y0 y1 y2 y3 : Nat) (c0 c1 c2 : Int) : runA Try.prog 106 #[W4 a0 a1 a2 a3, W4 b0 b1 b2 b3] [n, t, n, n, t, n, n, t, n, n, f, n, n] [(129, rt (W4 y0 y1 y2 y3)), (129, rt (W4 x0 x1 x2 x3)), (130, rt (.int .i64 c0)), (130, rt (.int .i64 c1)), (130, rt (.int .i64 c2))] = some (rt (.int .i64 c2), [PureX Try.prog 129 #[W4 b0 b1 b2 b3] (rt (W4 y0 y1 y2 y3)), PureX Try.prog 129 #[W4 a0 a1 a2 a3] (rt (W4 x0 x1 x2 x3)), (Int.ofNat x0 != Int.ofNat y0) = true, PureX Try.prog 130 #[u x0, u y0] (rt (.int .i64 c0)), (Int.ofNat x1 != Int.ofNat y1) = true, PureX Try.prog 130 #[u x1, u y1] (rt (.int .i64 c1)), (Int.ofNat x2 != Int.ofNat y2) = true, PureX Try.prog 130 #[u x2, u y2] (rt (.int .i64 c2)), (Int.ofNat x3 != Int.ofNat y3) = false]) := by kernel_rfl
theorem cm_8 (a0 a1 a2 a3 b0 b1 b2 b3 x0 x1 x2 x3 y0 y1 y2 y3 : Nat) (c3 : Int) : runA Try.prog 106 #[W4 a0 a1 a2 a3, W4 b0 b1 b2 b3] [n, f, n, n, f, n, n, f, n, n, t, n, n] [(129, rt (W4 y0 y1 y2 y3)), (129, rt (W4 x0 x1 x2 x3)), (130, rt (.int .i64 c3))] = some (rt (.int .i64 c3), [PureX Try.prog 129 #[W4 b0 b1 b2 b3] (rt (W4 y0 y1 y2 y3)), PureX Try.prog 129 #[W4 a0 a1 a2 a3] (rt (W4 x0 x1 x2 x3)), (Int.ofNat x0 != Int.ofNat y0) = false, (Int.ofNat x1 != Int.ofNat y1) = false, (Int.ofNat x2 != Int.ofNat y2) = false, (Int.ofNat x3 != Int.ofNat y3) = true, PureX Try.prog 130 #[u x3, u y3] (rt (.int .i64 c3))]) := by kernel_rfl
theorem cm_9 (a0 a1 a2 a3 b0 b1 b2 b3 x0 x1 x2 x3 y0 y1 y2 y3 : Nat) (c0 c3 : Int) : runA Try.prog 106 #[W4 a0 a1 a2 a3, W4 b0 b1 b2 b3] [n, t, n, n, f, n, n, f, n, n, t, n, n] [(129, rt (W4 y0 y1 y2 y3)), (129, rt (W4 x0 x1 x2 x3)), (130, rt (.int .i64 c0)), (130, rt (.int .i64 c3))] = some (rt (.int .i64 c3), [PureX Try.prog 129 #[W4 b0 b1 b2 b3] (rt (W4 y0 y1 y2 y3)), PureX Try.prog 129 #[W4 a0 a1 a2 a3] (rt (W4 x0 x1 x2 x3)), (Int.ofNat x0 != Int.ofNat y0) = true, PureX Try.prog 130 #[u x0, u y0] (rt (.int .i64 c0)), (Int.ofNat x1 != Int.ofNat y1) = false, (Int.ofNat x2 != Int.ofNat y2) = false, (Int.ofNat x3 != Int.ofNat y3) = true, PureX Try.prog 130 #[u x3, u y3] (rt (.int .i64 c3))]) := by kernel_rfl
theorem cm_10 (a0 a1 a2 a3 b0 b1 b2 b3 x0 x1 x2 x3 y0 y1 y2 y3 : Nat) (c1 c3 : Int) : runA Try.prog 106 #[W4 a0 a1 a2 a3, W4 b0 b1 b2 b3] [n, f, n, n, t, n, n, f, n, n, t, n, n] [(129, rt (W4 y0 y1 y2 y3)), (129, rt (W4 x0 x1 x2 x3)), (130, rt (.int .i64 c1)), (130, rt (.int .i64 c3))] = some (rt (.int .i64 c3), [PureX Try.prog 129 #[W4 b0 b1 b2 b3] (rt (W4 y0 y1 y2 y3)), PureX Try.prog 129 #[W4 a0 a1 a2 a3] (rt (W4 x0 x1 x2 x3)), (Int.ofNat x0 != Int.ofNat y0) = false, (Int.ofNat x1 != Int.ofNat y1) = true, PureX Try.prog 130 #[u x1, u y1] (rt (.int .i64 c1)), (Int.ofNat x2 != Int.ofNat y2) = false, (Int.ofNat x3 != Int.ofNat y3) = true, PureX Try.prog 130 #[u x3, u y3] (rt (.int .i64 c3))]) := by kernel_rfl
theorem cm_11 (a0 a1 a2 a3 b0 b1 b2 b3 x0 x1 x2 x3 y0 y1 y2 y3 : Nat) (c0 c1 c3 : Int) : runA Try.prog 106 #[W4 a0 a1 a2 a3, W4 b0 b1 b2 b3] [n, t, n, n, t, n, n, f, n, n, t, n, n] [(129, rt (W4 y0 y1 y2 y3)), (129, rt (W4 x0 x1 x2 x3)), (130, rt (.int .i64 c0)), (130, rt (.int .i64 c1)), (130, rt (.int .i64 c3))] = some (rt (.int .i64 c3), [PureX Try.prog 129 #[W4 b0 b1 b2 b3] (rt (W4 y0 y1 y2 y3)), PureX Try.prog 129 #[W4 a0 a1 a2 a3] (rt (W4 x0 x1 x2 x3)), (Int.ofNat x0 != Int.ofNat y0) = true, PureX Try.prog 130 #[u x0, u y0] (rt (.int .i64 c0)), (Int.ofNat x1 != Int.ofNat y1) = true, PureX Try.prog 130 #[u x1, u y1] (rt (.int .i64 c1)), (Int.ofNat x2 != Int.ofNat y2) = false, (Int.ofNat x3 != Int.ofNat y3) = true, PureX Try.prog 130 #[u x3, u y3] (rt (.int .i64 c3))]) := by kernel_rfl
theorem cm_12 (a0 a1 a2 a3 b0 b1 b2 b3 x0 x1 x2 x3 y0 y1 y2 y3 : Nat) (c2 c3 : Int) : runA Try.prog 106 #[W4 a0 a1 a2 a3, W4 b0 b1 b2 b3] [n, f, n, n, f, n, n, t, n, n, t, n, n] [(129, rt (W4 y0 y1 y2 y3)), (129, rt (W4 x0 x1 x2 x3)), (130, rt (.int .i64 c2)), (130, rt (.int .i64 c3))] = some (rt (.int .i64 c3), [PureX Try.prog 129 #[W4 b0 b1 b2 b3] (rt (W4 y0 y1 y2 y3)), PureX Try.prog 129 #[W4 a0 a1 a2 a3] (rt (W4 x0 x1 x2 x3)), (Int.ofNat x0 != Int.ofNat y0) = false, (Int.ofNat x1 != Int.ofNat y1) = false, (Int.ofNat x2 != Int.ofNat y2) = true, PureX Try.prog 130 #[u x2, u y2] (rt (.int .i64 c2)), (Int.ofNat x3 != Int.ofNat y3) = true, PureX Try.prog 130 #[u x3, u y3] (rt (.int .i64 c3))]) := by kernel_rfl
theorem cm_13 (a0 a1 a2 a3 b0 b1 b2 b3 x0 x1 x2 x3 y0 y1 y2 y3 : Nat) (c0 c2 c3 : Int) : runA Try.prog 106 #[W4 a0 a1 a2 a3, W4 b0 b1 b2 b3] [n, t, n, n, f, n, n, t, n, n, t, n, n] [(129, rt (W4 y0 y1 y2 y3)), (129, rt (W4 x0 x1 x2 x3)), (130, rt (.int .i64 c0)), (130, rt (.int .i64 c2)), (130, rt (.int .i64 c3))] = some (rt (.int .i64 c3), [PureX Try.prog 129 #[W4 b0 b1 b2 b3] (rt (W4 y0 y1 y2 y3)), PureX Try.prog 129 #[W4 a0 a1 a2 a3] (rt (W4 x0 x1 x2 x3)), (Int.ofNat x0 != Int.ofNat y0) = true, PureX Try.prog 130 #[u x0, u y0] (rt (.int .i64 c0)), (Int.ofNat x1 != Int.ofNat y1) = false, (Int.ofNat x2 != Int.ofNat y2) = true, PureX Try.prog 130 #[u x2, u y2] (rt (.int .i64 c2)), (Int.ofNat x3 != Int.ofNat y3) = true, PureX Try.prog 130 #[u x3, u y3] (rt (.int .i64 c3))]) := by kernel_rfl
theorem cm_14 (a0 a1 a2 a3 b0 b1 b2 b3 x0 x1 x2 x3 y0 y1 y2 y3 : Nat) (c1 c2 c3 : Int) : runA Try.prog 106 #[W4 a0 a1 a2 a3, W4 b0 b1 b2 b3] [n, f, n, n, t, n, n, t, n, n, t, n, n] [(129, rt (W4 y0 y1 y2 y3)), (129, rt (W4 x0 x1 x2 x3)), (130, rt (.int .i64 c1)), (130, rt (.int .i64 c2)), (130, rt (.int .i64 c3))] = some (rt (.int .i64 c3), [PureX Try.prog 129 #[W4 b0 b1 b2 b3] (rt (W4 y0 y1 y2 y3)), PureX Try.prog 129 #[W4 a0 a1 a2 a3] (rt (W4 x0 x1 x2 x3)), (Int.ofNat x0 != Int.ofNat y0) = false, (Int.ofNat x1 != Int.ofNat y1) = true, PureX Try.prog 130 #[u x1, u y1] (rt (.int .i64 c1)), (Int.ofNat x2 != Int.ofNat y2) = true, PureX Try.prog 130 #[u x2, u y2] (rt (.int .i64 c2)), (Int.ofNat x3 != Int.ofNat y3) = true, PureX Try.prog 130 #[u x3, u y3] (rt (.int .i64 c3))]) := by kernel_rfl
theorem cm_15 (a0 a1 a2 a3 b0 b1 b2 b3 x0 x1 x2 x3 y0 y1 y2 y3 : Nat) (c0 c1 c2 c3 : Int) : runA Try.prog 106 #[W4 a0 a1 a2 a3, W4 b0 b1 b2 b3] [n, t, n, n, t, n, n, t, n, n, t, n, n] [(129, rt (W4 y0 y1 y2 y3)), (129, rt (W4 x0 x1 x2 x3)), (130, rt (.int .i64 c0)), (130, rt (.int .i64 c1)), (130, rt (.int .i64 c2)), (130, rt (.int .i64 c3))] = some (rt (.int .i64 c3), [PureX Try.prog 129 #[W4 b0 b1 b2 b3] (rt (W4 y0 y1 y2 y3)), PureX Try.prog 129 #[W4 a0 a1 a2 a3] (rt (W4 x0 x1 x2 x3)), (Int.ofNat x0 != Int.ofNat y0) = true, PureX Try.prog 130 #[u x0, u y0] (rt (.int .i64 c0)), (Int.ofNat x1 != Int.ofNat y1) = true, PureX Try.prog 130 #[u x1, u y1] (rt (.int .i64 c1)), (Int.ofNat x2 != Int.ofNat y2) = true, PureX Try.prog 130 #[u x2, u y2] (rt (.int .i64 c2)), (Int.ofNat x3 != Int.ofNat y3) = true, PureX Try.prog 130 #[u x3, u y3] (rt (.int .i64 c3))]) := by kernel_rfl

theorem sign_top {x y X Y : Nat} (hx : x < 18446744073709551616) (hy : y < 18446744073709551616) (h : X ≠ Y) : (((x + 18446744073709551616 * X : Nat) : Int) - ((y + 18446744073709551616 * Y : Nat) : Int)).sign = ((X : Int) - Y).sign := by
  rcases Nat.lt_or_gt_of_ne h with h | h
  · rw [Int.sign_eq_neg_one_of_neg (show (X : Int) - Y < 0 by omega), Int.sign_eq_neg_one_of_neg (by omega)]
  · rw [Int.sign_eq_one_of_pos (show 0 < (X : Int) - Y by omega), Int.sign_eq_one_of_pos (by omega)]
theorem sign_low {x y X : Nat} : (((x + 18446744073709551616 * X : Nat) : Int) - ((y + 18446744073709551616 * X : Nat) : Int)).sign = ((x : Int) - y).sign := by
  congr 1
  omega
theorem ne_test {x y : Nat} (h : x ≠ y) : (Int.ofNat x != Int.ofNat y) = true := by
  rw [bne_iff_ne]; exact fun e => h (Int.ofNat.inj e)
theorem eq_test (x : Nat) : (Int.ofNat x != Int.ofNat x) = false := by simp
set_option maxRecDepth 100000 in
/-- The order of two rows of words. -/
theorem cmp_w {a0 a1 a2 a3 b0 b1 b2 b3 : Nat} (ha0 : a0 < 18446744073709551616) (ha1 : a1 < 18446744073709551616) (ha2 : a2 < 18446744073709551616) (ha3 : a3 < 18446744073709551616) (hb0 : b0 < 18446744073709551616) (hb1 : b1 < 18446744073709551616) (hb2 : b2 < 18446744073709551616) (hb3 : b3 < 18446744073709551616) :
    PureX Try.prog 106 #[W4 a0 a1 a2 a3, W4 b0 b1 b2 b3] (rt (.int .i64 ((nvl [a0, a1, a2, liftW a3] : Int) - (nvl [b0, b1, b2, liftW b3] : Int)).sign)) := by
  have la := lf4_c (x0 := a0) (x1 := a1) (x2 := a2) ha3
  have lb := lf4_c (x0 := b0) (x1 := b1) (x2 := b2) hb3
  have hA : liftW a3 < 18446744073709551616 := by unfold liftW; split <;> omega
  have hB : liftW b3 < 18446744073709551616 := by unfold liftW; split <;> omega
  generalize liftW a3 = A at *
  generalize liftW b3 = B at *
  simp only [nvl, Nat.mul_zero, Nat.add_zero]
  by_cases e3 : A = B
  · subst e3
    by_cases e2 : a2 = b2
    · subst e2
      by_cases e1 : a1 = b1
      · subst e1
        by_cases e0 : a0 = b0
        · subst e0
          have r := runA_pure mix (cm_0 a0 a1 a2 a3 a0 a1 a2 b3 a0 a1 a2 A a0 a1 a2 A ) ⟨lb, la, eq_test _, eq_test _, eq_test _, eq_test _, trivial⟩ rfl rfl
          rw [Int.sub_self]; exact r
        · have r := runA_pure mix (cm_1 a0 a1 a2 a3 b0 a1 a2 b3 a0 a1 a2 A b0 a1 a2 A _) ⟨lb, la, ne_test e0, cp_c e0, eq_test _, eq_test _, eq_test _, trivial⟩ rfl rfl
          rw [sign_low]; exact r
      · by_cases e0 : a0 = b0
        · subst e0
          have r := runA_pure mix (cm_2 a0 a1 a2 a3 a0 b1 a2 b3 a0 a1 a2 A a0 b1 a2 A _) ⟨lb, la, eq_test _, ne_test e1, cp_c e1, eq_test _, eq_test _, trivial⟩ rfl rfl
          rw [sign_top ha0 ha0 (by omega), sign_low]; exact r
        · have r := runA_pure mix (cm_3 a0 a1 a2 a3 b0 b1 a2 b3 a0 a1 a2 A b0 b1 a2 A _ _) ⟨lb, la, ne_test e0, cp_c e0, ne_test e1, cp_c e1, eq_test _, eq_test _, trivial⟩ rfl rfl
          rw [sign_top ha0 hb0 (by omega), sign_low]; exact r
    · by_cases e1 : a1 = b1
      · subst e1
        by_cases e0 : a0 = b0
        · subst e0
          have r := runA_pure mix (cm_4 a0 a1 a2 a3 a0 a1 b2 b3 a0 a1 a2 A a0 a1 b2 A _) ⟨lb, la, eq_test _, eq_test _, ne_test e2, cp_c e2, eq_test _, trivial⟩ rfl rfl
          rw [sign_top ha0 ha0 (by omega), sign_top ha1 ha1 (by omega), sign_low]; exact r
        · have r := runA_pure mix (cm_5 a0 a1 a2 a3 b0 a1 b2 b3 a0 a1 a2 A b0 a1 b2 A _ _) ⟨lb, la, ne_test e0, cp_c e0, eq_test _, ne_test e2, cp_c e2, eq_test _, trivial⟩ rfl rfl
          rw [sign_top ha0 hb0 (by omega), sign_top ha1 ha1 (by omega), sign_low]; exact r
      · by_cases e0 : a0 = b0
        · subst e0
          have r := runA_pure mix (cm_6 a0 a1 a2 a3 a0 b1 b2 b3 a0 a1 a2 A a0 b1 b2 A _ _) ⟨lb, la, eq_test _, ne_test e1, cp_c e1, ne_test e2, cp_c e2, eq_test _, trivial⟩ rfl rfl
          rw [sign_top ha0 ha0 (by omega), sign_top ha1 hb1 (by omega), sign_low]; exact r
        · have r := runA_pure mix (cm_7 a0 a1 a2 a3 b0 b1 b2 b3 a0 a1 a2 A b0 b1 b2 A _ _ _) ⟨lb, la, ne_test e0, cp_c e0, ne_test e1, cp_c e1, ne_test e2, cp_c e2, eq_test _, trivial⟩ rfl rfl
          rw [sign_top ha0 hb0 (by omega), sign_top ha1 hb1 (by omega), sign_low]; exact r
  · by_cases e2 : a2 = b2
    · subst e2
      by_cases e1 : a1 = b1
      · subst e1
        by_cases e0 : a0 = b0
        · subst e0
          have r := runA_pure mix (cm_8 a0 a1 a2 a3 a0 a1 a2 b3 a0 a1 a2 A a0 a1 a2 B _) ⟨lb, la, eq_test _, eq_test _, eq_test _, ne_test e3, cp_c e3, trivial⟩ rfl rfl
          rw [sign_top ha0 ha0 (by omega), sign_top ha1 ha1 (by omega), sign_top ha2 ha2 e3]; exact r
        · have r := runA_pure mix (cm_9 a0 a1 a2 a3 b0 a1 a2 b3 a0 a1 a2 A b0 a1 a2 B _ _) ⟨lb, la, ne_test e0, cp_c e0, eq_test _, eq_test _, ne_test e3, cp_c e3, trivial⟩ rfl rfl
          rw [sign_top ha0 hb0 (by omega), sign_top ha1 ha1 (by omega), sign_top ha2 ha2 e3]; exact r
      · by_cases e0 : a0 = b0
        · subst e0
          have r := runA_pure mix (cm_10 a0 a1 a2 a3 a0 b1 a2 b3 a0 a1 a2 A a0 b1 a2 B _ _) ⟨lb, la, eq_test _, ne_test e1, cp_c e1, eq_test _, ne_test e3, cp_c e3, trivial⟩ rfl rfl
          rw [sign_top ha0 ha0 (by omega), sign_top ha1 hb1 (by omega), sign_top ha2 ha2 e3]; exact r
        · have r := runA_pure mix (cm_11 a0 a1 a2 a3 b0 b1 a2 b3 a0 a1 a2 A b0 b1 a2 B _ _ _) ⟨lb, la, ne_test e0, cp_c e0, ne_test e1, cp_c e1, eq_test _, ne_test e3, cp_c e3, trivial⟩ rfl rfl
          rw [sign_top ha0 hb0 (by omega), sign_top ha1 hb1 (by omega), sign_top ha2 ha2 e3]; exact r
    · by_cases e1 : a1 = b1
      · subst e1
        by_cases e0 : a0 = b0
        · subst e0
          have r := runA_pure mix (cm_12 a0 a1 a2 a3 a0 a1 b2 b3 a0 a1 a2 A a0 a1 b2 B _ _) ⟨lb, la, eq_test _, eq_test _, ne_test e2, cp_c e2, ne_test e3, cp_c e3, trivial⟩ rfl rfl
          rw [sign_top ha0 ha0 (by omega), sign_top ha1 ha1 (by omega), sign_top ha2 hb2 e3]; exact r
        · have r := runA_pure mix (cm_13 a0 a1 a2 a3 b0 a1 b2 b3 a0 a1 a2 A b0 a1 b2 B _ _ _) ⟨lb, la, ne_test e0, cp_c e0, eq_test _, ne_test e2, cp_c e2, ne_test e3, cp_c e3, trivial⟩ rfl rfl
          rw [sign_top ha0 hb0 (by omega), sign_top ha1 ha1 (by omega), sign_top ha2 hb2 e3]; exact r
      · by_cases e0 : a0 = b0
        · subst e0
          have r := runA_pure mix (cm_14 a0 a1 a2 a3 a0 b1 b2 b3 a0 a1 a2 A a0 b1 b2 B _ _ _) ⟨lb, la, eq_test _, ne_test e1, cp_c e1, ne_test e2, cp_c e2, ne_test e3, cp_c e3, trivial⟩ rfl rfl
          rw [sign_top ha0 ha0 (by omega), sign_top ha1 hb1 (by omega), sign_top ha2 hb2 e3]; exact r
        · have r := runA_pure mix (cm_15 a0 a1 a2 a3 b0 b1 b2 b3 a0 a1 a2 A b0 b1 b2 B _ _ _ _) ⟨lb, la, ne_test e0, cp_c e0, ne_test e1, cp_c e1, ne_test e2, cp_c e2, ne_test e3, cp_c e3, trivial⟩ rfl rfl
          rw [sign_top ha0 hb0 (by omega), sign_top ha1 hb1 (by omega), sign_top ha2 hb2 e3]; exact r

theorem lift_z {x : Int} (hx : inR x) : ∃ a0 a1 a2 a3, wz x = W4 a0 a1 a2 a3 ∧ a0 < 18446744073709551616 ∧ a1 < 18446744073709551616 ∧ a2 < 18446744073709551616 ∧ a3 < 18446744073709551616 ∧ ((nvl [a0, a1, a2, liftW a3] : Nat) : Int) = x + 57896044618658097711785492504343953926634992332820282019728792003956564819968 := by
  obtain ⟨a0, a1, a2, a3, e, h0, h1, h2, h3, hv⟩ := W4_words (x := nz x)
  refine ⟨a0, a1, a2, a3, e, h0, h1, h2, h3, ?_⟩
  have hc := nz_cast x
  rw [Nat.mod_eq_of_lt (nz_lt x)] at hv
  unfold inR at hx
  unfold Mw at hc
  unfold liftW
  simp only [nvl, Nat.mul_zero, Nat.add_zero] at hv ⊢
  split <;> omega
/-- Cmp. -/
theorem cmp_z {x y : Int} (hx : inR x) (hy : inR y) : PureX Try.prog 106 #[wz x, wz y] (rt (.int .i64 (x - y).sign)) := by
  obtain ⟨a0, a1, a2, a3, ea, ha0, ha1, ha2, ha3, hva⟩ := lift_z hx
  obtain ⟨b0, b1, b2, b3, eb, hb0, hb1, hb2, hb3, hvb⟩ := lift_z hy
  have h := cmp_w ha0 ha1 ha2 ha3 hb0 hb1 hb2 hb3
  rw [hva, hvb, show x + 57896044618658097711785492504343953926634992332820282019728792003956564819968 - (y + 57896044618658097711785492504343953926634992332820282019728792003956564819968) = x - y by omega] at h
  rw [ea, eb]
  exact h

end Go.Proofs.Ytpbhoamojocbpaa
