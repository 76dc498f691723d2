/- What putBack of package quot comes to, place by place. -/
import Derived.Test.YtpbhoamojocbpaaD3
namespace Go.Proofs.Ytpbhoamojocbpaa
open Go Go.RowKit
set_option linter.unusedSimpArgs false
set_option linter.unusedVariables false

/-- The carry behind some words. -/
def pbO : List Nat → List Nat → Nat → Nat
  | w :: r, v :: vs, c => pbO r vs ((w + v + c) / 18446744073709551616)
  | _, _, c => c
theorem pb_10 (w0 w1 w2 w3 w4 v0 v1 v2 v3 v4 : Nat) : runB Try.prog 140 #[slU 0 1, slV 1] (HD [w0, w1, w2, w3, w4] [v0, v1, v2, v3, v4]) [n, n, n, f] [] [] =
    some (rt (bb (Int.ofNat (pbC [w0, w1] [v0] 0) != 0)), HE ([] ++ pbW [w0, w1] [v0] 0 ++ [w2, w3, w4]) [v0, v1, v2, v3, v4], [decide (1 < pbO [w0] [v0] 0) = false]) := by kernel_rfl
theorem pb_11 (w0 w1 w2 w3 w4 v0 v1 v2 v3 v4 : Nat) : runB Try.prog 140 #[slU 1 1, slV 1] (HD [w0, w1, w2, w3, w4] [v0, v1, v2, v3, v4]) [n, n, n, f] [] [] =
    some (rt (bb (Int.ofNat (pbC [w1, w2] [v0] 0) != 0)), HE ([w0] ++ pbW [w1, w2] [v0] 0 ++ [w3, w4]) [v0, v1, v2, v3, v4], [decide (1 < pbO [w1] [v0] 0) = false]) := by kernel_rfl
theorem pb_12 (w0 w1 w2 w3 w4 v0 v1 v2 v3 v4 : Nat) : runB Try.prog 140 #[slU 2 1, slV 1] (HD [w0, w1, w2, w3, w4] [v0, v1, v2, v3, v4]) [n, n, n, f] [] [] =
    some (rt (bb (Int.ofNat (pbC [w2, w3] [v0] 0) != 0)), HE ([w0, w1] ++ pbW [w2, w3] [v0] 0 ++ [w4]) [v0, v1, v2, v3, v4], [decide (1 < pbO [w2] [v0] 0) = false]) := by kernel_rfl
theorem pb_13 (w0 w1 w2 w3 w4 v0 v1 v2 v3 v4 : Nat) : runB Try.prog 140 #[slU 3 1, slV 1] (HD [w0, w1, w2, w3, w4] [v0, v1, v2, v3, v4]) [n, n, n, f] [] [] =
    some (rt (bb (Int.ofNat (pbC [w3, w4] [v0] 0) != 0)), HE ([w0, w1, w2] ++ pbW [w3, w4] [v0] 0 ++ []) [v0, v1, v2, v3, v4], [decide (1 < pbO [w3] [v0] 0) = false]) := by kernel_rfl
theorem pb_20 (w0 w1 w2 w3 w4 v0 v1 v2 v3 v4 : Nat) : runB Try.prog 140 #[slU 0 2, slV 2] (HD [w0, w1, w2, w3, w4] [v0, v1, v2, v3, v4]) [n, n, n, f, n, f] [] [] =
    some (rt (bb (Int.ofNat (pbC [w0, w1, w2] [v0, v1] 0) != 0)), HE ([] ++ pbW [w0, w1, w2] [v0, v1] 0 ++ [w3, w4]) [v0, v1, v2, v3, v4], [decide (1 < pbO [w0] [v0] 0) = false, decide (1 < pbO [w0, w1] [v0, v1] 0) = false]) := by kernel_rfl
theorem pb_21 (w0 w1 w2 w3 w4 v0 v1 v2 v3 v4 : Nat) : runB Try.prog 140 #[slU 1 2, slV 2] (HD [w0, w1, w2, w3, w4] [v0, v1, v2, v3, v4]) [n, n, n, f, n, f] [] [] =
    some (rt (bb (Int.ofNat (pbC [w1, w2, w3] [v0, v1] 0) != 0)), HE ([w0] ++ pbW [w1, w2, w3] [v0, v1] 0 ++ [w4]) [v0, v1, v2, v3, v4], [decide (1 < pbO [w1] [v0] 0) = false, decide (1 < pbO [w1, w2] [v0, v1] 0) = false]) := by kernel_rfl
theorem pb_22 (w0 w1 w2 w3 w4 v0 v1 v2 v3 v4 : Nat) : runB Try.prog 140 #[slU 2 2, slV 2] (HD [w0, w1, w2, w3, w4] [v0, v1, v2, v3, v4]) [n, n, n, f, n, f] [] [] =
    some (rt (bb (Int.ofNat (pbC [w2, w3, w4] [v0, v1] 0) != 0)), HE ([w0, w1] ++ pbW [w2, w3, w4] [v0, v1] 0 ++ []) [v0, v1, v2, v3, v4], [decide (1 < pbO [w2] [v0] 0) = false, decide (1 < pbO [w2, w3] [v0, v1] 0) = false]) := by kernel_rfl
theorem pb_30 (w0 w1 w2 w3 w4 v0 v1 v2 v3 v4 : Nat) : runB Try.prog 140 #[slU 0 3, slV 3] (HD [w0, w1, w2, w3, w4] [v0, v1, v2, v3, v4]) [n, n, n, f, n, f, n, f] [] [] =
    some (rt (bb (Int.ofNat (pbC [w0, w1, w2, w3] [v0, v1, v2] 0) != 0)), HE ([] ++ pbW [w0, w1, w2, w3] [v0, v1, v2] 0 ++ [w4]) [v0, v1, v2, v3, v4], [decide (1 < pbO [w0] [v0] 0) = false, decide (1 < pbO [w0, w1] [v0, v1] 0) = false, decide (1 < pbO [w0, w1, w2] [v0, v1, v2] 0) = false]) := by kernel_rfl
theorem pb_31 (w0 w1 w2 w3 w4 v0 v1 v2 v3 v4 : Nat) : runB Try.prog 140 #[slU 1 3, slV 3] (HD [w0, w1, w2, w3, w4] [v0, v1, v2, v3, v4]) [n, n, n, f, n, f, n, f] [] [] =
    some (rt (bb (Int.ofNat (pbC [w1, w2, w3, w4] [v0, v1, v2] 0) != 0)), HE ([w0] ++ pbW [w1, w2, w3, w4] [v0, v1, v2] 0 ++ []) [v0, v1, v2, v3, v4], [decide (1 < pbO [w1] [v0] 0) = false, decide (1 < pbO [w1, w2] [v0, v1] 0) = false, decide (1 < pbO [w1, w2, w3] [v0, v1, v2] 0) = false]) := by kernel_rfl
theorem pb_40 (w0 w1 w2 w3 w4 v0 v1 v2 v3 v4 : Nat) : runB Try.prog 140 #[slU 0 4, slV 4] (HD [w0, w1, w2, w3, w4] [v0, v1, v2, v3, v4]) [n, n, n, f, n, f, n, f, n, f] [] [] =
    some (rt (bb (Int.ofNat (pbC [w0, w1, w2, w3, w4] [v0, v1, v2, v3] 0) != 0)), HE ([] ++ pbW [w0, w1, w2, w3, w4] [v0, v1, v2, v3] 0 ++ []) [v0, v1, v2, v3, v4], [decide (1 < pbO [w0] [v0] 0) = false, decide (1 < pbO [w0, w1] [v0, v1] 0) = false, decide (1 < pbO [w0, w1, w2] [v0, v1, v2] 0) = false, decide (1 < pbO [w0, w1, w2, w3] [v0, v1, v2, v3] 0) = false]) := by kernel_rfl

end Go.Proofs.Ytpbhoamojocbpaa
