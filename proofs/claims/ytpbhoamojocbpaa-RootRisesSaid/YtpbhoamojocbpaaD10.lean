/- How long a number is, and the long division, way by way. -/
import Derived.Test.YtpbhoamojocbpaaD9
namespace Go.Proofs.Ytpbhoamojocbpaa
open Go Go.RowKit
set_option linter.unusedSimpArgs false
set_option linter.unusedVariables false

theorem len_1 (x0 x1 x2 x3 : Nat) : runA Try.prog 122 #[W4 x0 x1 x2 x3] [n, f, n, n, f, n, n, f, n, n, t, n] [] = some (rt (.int .i64 1), [(Int.ofNat x3 != 0) = false, (Int.ofNat x2 != 0) = false, (Int.ofNat x1 != 0) = false, (Int.ofNat x0 != 0) = true]) := by kernel_rfl
theorem len_2 (x0 x1 x2 x3 : Nat) : runA Try.prog 122 #[W4 x0 x1 x2 x3] [n, f, n, n, f, n, n, t, n] [] = some (rt (.int .i64 2), [(Int.ofNat x3 != 0) = false, (Int.ofNat x2 != 0) = false, (Int.ofNat x1 != 0) = true]) := by kernel_rfl
theorem len_3 (x0 x1 x2 x3 : Nat) : runA Try.prog 122 #[W4 x0 x1 x2 x3] [n, f, n, n, t, n] [] = some (rt (.int .i64 3), [(Int.ofNat x3 != 0) = false, (Int.ofNat x2 != 0) = true]) := by kernel_rfl
theorem len_4 (x0 x1 x2 x3 : Nat) : runA Try.prog 122 #[W4 x0 x1 x2 x3] [n, t, n] [] = some (rt (.int .i64 4), [(Int.ofNat x3 != 0) = true]) := by kernel_rfl
theorem dv_1 (a0 a1 a2 a3 b0 b1 b2 b3 s x0 x1 x2 x3 x4 v0 v1 v2 v3 v4 r r30 q3 r20 q2 r10 q1 r00 q0 : Nat) : runB Try.prog 100 #[W4 a0 a1 a2 a3, W4 b0 b1 b2 b3] [] [] [(122, rt (.int .i64 1)), (123, rt (.int .i64 (Int.ofNat s))), (124, rt (V5 [x0, x1, x2, x3, x4])), (124, rt (V5 [v0, v1, v2, v3, v4])), (127, rt (wv r))] [(126, rt (u q3), HD [x0, x1, x2, r30, 0] [v0, v1, v2, v3, v4]), (126, rt (u q2), HD [x0, x1, r20, 0, 0] [v0, v1, v2, v3, v4]), (126, rt (u q1), HD [x0, r10, 0, 0, 0] [v0, v1, v2, v3, v4]), (126, rt (u q0), HD [r00, 0, 0, 0, 0] [v0, v1, v2, v3, v4])] =
    some (rt (tp [W4 q0 q1 q2 q3, wv r]), [], [PureX Try.prog 122 #[W4 b0 b1 b2 b3] (rt (.int .i64 1)), PureX Try.prog 123 #[u b0] (rt (.int .i64 (Int.ofNat s))), PureX Try.prog 124 #[W4 a0 a1 a2 a3, .int .i64 (Int.ofNat s)] (rt (V5 [x0, x1, x2, x3, x4])), PureX Try.prog 124 #[W4 b0 b1 b2 b3, .int .i64 (Int.ofNat s)] (rt (V5 [v0, v1, v2, v3, v4])), CallsV Try.prog (.func 126) #[slU 3 1, slV 1] (HD [x0, x1, x2, x3, x4] [v0, v1, v2, v3, v4]) (rt (u q3)) (HD [x0, x1, x2, r30, 0] [v0, v1, v2, v3, v4]), CallsV Try.prog (.func 126) #[slU 2 1, slV 1] (HD [x0, x1, x2, r30, 0] [v0, v1, v2, v3, v4]) (rt (u q2)) (HD [x0, x1, r20, 0, 0] [v0, v1, v2, v3, v4]), CallsV Try.prog (.func 126) #[slU 1 1, slV 1] (HD [x0, x1, r20, 0, 0] [v0, v1, v2, v3, v4]) (rt (u q1)) (HD [x0, r10, 0, 0, 0] [v0, v1, v2, v3, v4]), CallsV Try.prog (.func 126) #[slU 0 1, slV 1] (HD [x0, r10, 0, 0, 0] [v0, v1, v2, v3, v4]) (rt (u q0)) (HD [r00, 0, 0, 0, 0] [v0, v1, v2, v3, v4]), PureX Try.prog 127 #[V5 [r00, 0, 0, 0, 0], .int .i64 (Int.ofNat s)] (rt (wv r))]) := by kernel_rfl
theorem dv_2 (a0 a1 a2 a3 b0 b1 b2 b3 s x0 x1 x2 x3 x4 v0 v1 v2 v3 v4 r r20 r21 q2 r10 r11 q1 r00 r01 q0 : Nat) : runB Try.prog 100 #[W4 a0 a1 a2 a3, W4 b0 b1 b2 b3] [] [] [(122, rt (.int .i64 2)), (123, rt (.int .i64 (Int.ofNat s))), (124, rt (V5 [x0, x1, x2, x3, x4])), (124, rt (V5 [v0, v1, v2, v3, v4])), (127, rt (wv r))] [(126, rt (u q2), HD [x0, x1, r20, r21, 0] [v0, v1, v2, v3, v4]), (126, rt (u q1), HD [x0, r10, r11, 0, 0] [v0, v1, v2, v3, v4]), (126, rt (u q0), HD [r00, r01, 0, 0, 0] [v0, v1, v2, v3, v4])] =
    some (rt (tp [W4 q0 q1 q2 0, wv r]), [], [PureX Try.prog 122 #[W4 b0 b1 b2 b3] (rt (.int .i64 2)), PureX Try.prog 123 #[u b1] (rt (.int .i64 (Int.ofNat s))), PureX Try.prog 124 #[W4 a0 a1 a2 a3, .int .i64 (Int.ofNat s)] (rt (V5 [x0, x1, x2, x3, x4])), PureX Try.prog 124 #[W4 b0 b1 b2 b3, .int .i64 (Int.ofNat s)] (rt (V5 [v0, v1, v2, v3, v4])), CallsV Try.prog (.func 126) #[slU 2 2, slV 2] (HD [x0, x1, x2, x3, x4] [v0, v1, v2, v3, v4]) (rt (u q2)) (HD [x0, x1, r20, r21, 0] [v0, v1, v2, v3, v4]), CallsV Try.prog (.func 126) #[slU 1 2, slV 2] (HD [x0, x1, r20, r21, 0] [v0, v1, v2, v3, v4]) (rt (u q1)) (HD [x0, r10, r11, 0, 0] [v0, v1, v2, v3, v4]), CallsV Try.prog (.func 126) #[slU 0 2, slV 2] (HD [x0, r10, r11, 0, 0] [v0, v1, v2, v3, v4]) (rt (u q0)) (HD [r00, r01, 0, 0, 0] [v0, v1, v2, v3, v4]), PureX Try.prog 127 #[V5 [r00, r01, 0, 0, 0], .int .i64 (Int.ofNat s)] (rt (wv r))]) := by kernel_rfl
theorem dv_3 (a0 a1 a2 a3 b0 b1 b2 b3 s x0 x1 x2 x3 x4 v0 v1 v2 v3 v4 r r10 r11 r12 q1 r00 r01 r02 q0 : Nat) : runB Try.prog 100 #[W4 a0 a1 a2 a3, W4 b0 b1 b2 b3] [] [] [(122, rt (.int .i64 3)), (123, rt (.int .i64 (Int.ofNat s))), (124, rt (V5 [x0, x1, x2, x3, x4])), (124, rt (V5 [v0, v1, v2, v3, v4])), (127, rt (wv r))] [(126, rt (u q1), HD [x0, r10, r11, r12, 0] [v0, v1, v2, v3, v4]), (126, rt (u q0), HD [r00, r01, r02, 0, 0] [v0, v1, v2, v3, v4])] =
    some (rt (tp [W4 q0 q1 0 0, wv r]), [], [PureX Try.prog 122 #[W4 b0 b1 b2 b3] (rt (.int .i64 3)), PureX Try.prog 123 #[u b2] (rt (.int .i64 (Int.ofNat s))), PureX Try.prog 124 #[W4 a0 a1 a2 a3, .int .i64 (Int.ofNat s)] (rt (V5 [x0, x1, x2, x3, x4])), PureX Try.prog 124 #[W4 b0 b1 b2 b3, .int .i64 (Int.ofNat s)] (rt (V5 [v0, v1, v2, v3, v4])), CallsV Try.prog (.func 126) #[slU 1 3, slV 3] (HD [x0, x1, x2, x3, x4] [v0, v1, v2, v3, v4]) (rt (u q1)) (HD [x0, r10, r11, r12, 0] [v0, v1, v2, v3, v4]), CallsV Try.prog (.func 126) #[slU 0 3, slV 3] (HD [x0, r10, r11, r12, 0] [v0, v1, v2, v3, v4]) (rt (u q0)) (HD [r00, r01, r02, 0, 0] [v0, v1, v2, v3, v4]), PureX Try.prog 127 #[V5 [r00, r01, r02, 0, 0], .int .i64 (Int.ofNat s)] (rt (wv r))]) := by kernel_rfl
theorem dv_4 (a0 a1 a2 a3 b0 b1 b2 b3 s x0 x1 x2 x3 x4 v0 v1 v2 v3 v4 r r00 r01 r02 r03 q0 : Nat) : runB Try.prog 100 #[W4 a0 a1 a2 a3, W4 b0 b1 b2 b3] [] [] [(122, rt (.int .i64 4)), (123, rt (.int .i64 (Int.ofNat s))), (124, rt (V5 [x0, x1, x2, x3, x4])), (124, rt (V5 [v0, v1, v2, v3, v4])), (127, rt (wv r))] [(126, rt (u q0), HD [r00, r01, r02, r03, 0] [v0, v1, v2, v3, v4])] =
    some (rt (tp [W4 q0 0 0 0, wv r]), [], [PureX Try.prog 122 #[W4 b0 b1 b2 b3] (rt (.int .i64 4)), PureX Try.prog 123 #[u b3] (rt (.int .i64 (Int.ofNat s))), PureX Try.prog 124 #[W4 a0 a1 a2 a3, .int .i64 (Int.ofNat s)] (rt (V5 [x0, x1, x2, x3, x4])), PureX Try.prog 124 #[W4 b0 b1 b2 b3, .int .i64 (Int.ofNat s)] (rt (V5 [v0, v1, v2, v3, v4])), CallsV Try.prog (.func 126) #[slU 0 4, slV 4] (HD [x0, x1, x2, x3, x4] [v0, v1, v2, v3, v4]) (rt (u q0)) (HD [r00, r01, r02, r03, 0] [v0, v1, v2, v3, v4]), PureX Try.prog 127 #[V5 [r00, r01, r02, r03, 0], .int .i64 (Int.ofNat s)] (rt (wv r))]) := by kernel_rfl

theorem lead_top {x : Nat} (h0 : x ≠ 0) (h1 : x < 18446744073709551616) : ∃ s : Nat, 64 - (Lib.bitLen x : Int) = (s : Int) ∧ s < 64 ∧ 9223372036854775808 ≤ x * 2 ^ s ∧ (x + 1) * 2 ^ s ≤ 18446744073709551616 := by
  obtain ⟨b1, b2, b3⟩ := Lib.bitLenAux_bounds 64 x (by omega) h0
  have b4 : Lib.bitLen x ≤ 64 := Lib.bitLen_le x 64 (Nat.le_refl _) (by omega)
  have e : Lib.bitLenAux 64 x = Lib.bitLen x := rfl
  rw [e] at b1 b2 b3
  clear e
  generalize Lib.bitLen x = L at *
  refine ⟨64 - L, by omega, by omega, ?_, ?_⟩
  · have h2 : 2 ^ (L - 1) * 2 ^ (64 - L) ≤ x * 2 ^ (64 - L) := Nat.mul_le_mul_right _ b2
    rw [← Nat.pow_add, show L - 1 + (64 - L) = 63 by omega] at h2
    exact h2
  · have h2 : (x + 1) * 2 ^ (64 - L) ≤ 2 ^ L * 2 ^ (64 - L) := Nat.mul_le_mul_right _ b3
    rw [← Nat.pow_add, show L + (64 - L) = 64 by omega] at h2
    exact h2
/-- How many noughts stand ahead: so many that the highest bit comes to the top. -/
theorem lead_c {x : Nat} (h0 : x ≠ 0) (h1 : x < 18446744073709551616) : ∃ s : Nat, s < 64 ∧ 9223372036854775808 ≤ x * 2 ^ s ∧ (x + 1) * 2 ^ s ≤ 18446744073709551616 ∧ PureX Try.prog 123 #[u x] (rt (.int .i64 (Int.ofNat s))) := by
  obtain ⟨s, e, hs, k1, k2⟩ := lead_top h0 h1
  refine ⟨s, hs, k1, k2, fun w => ?_⟩
  have h := Try.bits_LeadingZeros64 (x : Int) w (by omega) (by omega)
  rw [show ((x : Int)).toNat = x by omega, e] at h
  refine h.mono ?_
  rintro e w' ⟨rfl, rfl⟩
  exact ⟨rfl, Below.refl _ _⟩

end Go.Proofs.Ytpbhoamojocbpaa
