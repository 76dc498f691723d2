/- What takeAway of package quot comes to, place by place. -/
import Derived.Test.YtpbhoamojocbpaaD2
namespace Go.Proofs.Ytpbhoamojocbpaa
open Go Go.RowKit
set_option linter.unusedSimpArgs false
set_option linter.unusedVariables false

/-- A block of words. -/
def ub (l : List Nat) : Obj := .cells ⟨l.map u⟩ 86 (0, 0)
/-- The two blocks of words that a division has. -/
def HD (x v : List Nat) : Hp := [(1006, ub v), (1005, ub x)]
def HE (x v : List Nat) : Hp := [(1005, ub x), (1006, ub v)]
/-- A row of words of them. -/
def slU (i n : Nat) : Value := .slice (some ⟨1005, i, none⟩) (n + 1) (5 - i)
def slV (n : Nat) : Value := .slice (some ⟨1006, 0, none⟩) n 5

theorem ta_10 (w0 w1 w2 w3 w4 v0 v1 v2 v3 v4 q h0 l0 : Nat) : runB Try.prog 139 #[slU 0 1, slV 1, u q] (HD [w0, w1, w2, w3, w4] [v0, v1, v2, v3, v4]) [n, n, n, n, f] [(142, rt (tp [u h0, u l0]))] [] =
    some (rt (bb (Int.ofNat (tkB [(w0, h0, l0)] w1) != 0)), HE ([] ++ tkW [(w0, h0, l0)] w1 ++ [w2, w3, w4]) [v0, v1, v2, v3, v4], [PureX Try.prog 142 #[u v0, u q] (rt (tp [u h0, u l0])), decide (1 < taO [(w0, h0, l0)] 0 0) = false]) := by kernel_rfl
theorem ta_11 (w0 w1 w2 w3 w4 v0 v1 v2 v3 v4 q h0 l0 : Nat) : runB Try.prog 139 #[slU 1 1, slV 1, u q] (HD [w0, w1, w2, w3, w4] [v0, v1, v2, v3, v4]) [n, n, n, n, f] [(142, rt (tp [u h0, u l0]))] [] =
    some (rt (bb (Int.ofNat (tkB [(w1, h0, l0)] w2) != 0)), HE ([w0] ++ tkW [(w1, h0, l0)] w2 ++ [w3, w4]) [v0, v1, v2, v3, v4], [PureX Try.prog 142 #[u v0, u q] (rt (tp [u h0, u l0])), decide (1 < taO [(w1, h0, l0)] 0 0) = false]) := by kernel_rfl
theorem ta_12 (w0 w1 w2 w3 w4 v0 v1 v2 v3 v4 q h0 l0 : Nat) : runB Try.prog 139 #[slU 2 1, slV 1, u q] (HD [w0, w1, w2, w3, w4] [v0, v1, v2, v3, v4]) [n, n, n, n, f] [(142, rt (tp [u h0, u l0]))] [] =
    some (rt (bb (Int.ofNat (tkB [(w2, h0, l0)] w3) != 0)), HE ([w0, w1] ++ tkW [(w2, h0, l0)] w3 ++ [w4]) [v0, v1, v2, v3, v4], [PureX Try.prog 142 #[u v0, u q] (rt (tp [u h0, u l0])), decide (1 < taO [(w2, h0, l0)] 0 0) = false]) := by kernel_rfl
theorem ta_13 (w0 w1 w2 w3 w4 v0 v1 v2 v3 v4 q h0 l0 : Nat) : runB Try.prog 139 #[slU 3 1, slV 1, u q] (HD [w0, w1, w2, w3, w4] [v0, v1, v2, v3, v4]) [n, n, n, n, f] [(142, rt (tp [u h0, u l0]))] [] =
    some (rt (bb (Int.ofNat (tkB [(w3, h0, l0)] w4) != 0)), HE ([w0, w1, w2] ++ tkW [(w3, h0, l0)] w4 ++ []) [v0, v1, v2, v3, v4], [PureX Try.prog 142 #[u v0, u q] (rt (tp [u h0, u l0])), decide (1 < taO [(w3, h0, l0)] 0 0) = false]) := by kernel_rfl
theorem ta_20 (w0 w1 w2 w3 w4 v0 v1 v2 v3 v4 q h0 h1 l0 l1 : Nat) : runB Try.prog 139 #[slU 0 2, slV 2, u q] (HD [w0, w1, w2, w3, w4] [v0, v1, v2, v3, v4]) [n, n, n, n, n, f, n, f] [(142, rt (tp [u h0, u l0])), (142, rt (tp [u h1, u l1]))] [] =
    some (rt (bb (Int.ofNat (tkB [(w0, h0, l0), (w1, h1, l1)] w2) != 0)), HE ([] ++ tkW [(w0, h0, l0), (w1, h1, l1)] w2 ++ [w3, w4]) [v0, v1, v2, v3, v4], [PureX Try.prog 142 #[u v0, u q] (rt (tp [u h0, u l0])), PureX Try.prog 142 #[u v1, u q] (rt (tp [u h1, u l1])), decide (1 < taO [(w0, h0, l0)] 0 0) = false, decide (1 < taO [(w0, h0, l0), (w1, h1, l1)] 0 0) = false]) := by kernel_rfl
theorem ta_21 (w0 w1 w2 w3 w4 v0 v1 v2 v3 v4 q h0 h1 l0 l1 : Nat) : runB Try.prog 139 #[slU 1 2, slV 2, u q] (HD [w0, w1, w2, w3, w4] [v0, v1, v2, v3, v4]) [n, n, n, n, n, f, n, f] [(142, rt (tp [u h0, u l0])), (142, rt (tp [u h1, u l1]))] [] =
    some (rt (bb (Int.ofNat (tkB [(w1, h0, l0), (w2, h1, l1)] w3) != 0)), HE ([w0] ++ tkW [(w1, h0, l0), (w2, h1, l1)] w3 ++ [w4]) [v0, v1, v2, v3, v4], [PureX Try.prog 142 #[u v0, u q] (rt (tp [u h0, u l0])), PureX Try.prog 142 #[u v1, u q] (rt (tp [u h1, u l1])), decide (1 < taO [(w1, h0, l0)] 0 0) = false, decide (1 < taO [(w1, h0, l0), (w2, h1, l1)] 0 0) = false]) := by kernel_rfl
theorem ta_22 (w0 w1 w2 w3 w4 v0 v1 v2 v3 v4 q h0 h1 l0 l1 : Nat) : runB Try.prog 139 #[slU 2 2, slV 2, u q] (HD [w0, w1, w2, w3, w4] [v0, v1, v2, v3, v4]) [n, n, n, n, n, f, n, f] [(142, rt (tp [u h0, u l0])), (142, rt (tp [u h1, u l1]))] [] =
    some (rt (bb (Int.ofNat (tkB [(w2, h0, l0), (w3, h1, l1)] w4) != 0)), HE ([w0, w1] ++ tkW [(w2, h0, l0), (w3, h1, l1)] w4 ++ []) [v0, v1, v2, v3, v4], [PureX Try.prog 142 #[u v0, u q] (rt (tp [u h0, u l0])), PureX Try.prog 142 #[u v1, u q] (rt (tp [u h1, u l1])), decide (1 < taO [(w2, h0, l0)] 0 0) = false, decide (1 < taO [(w2, h0, l0), (w3, h1, l1)] 0 0) = false]) := by kernel_rfl
theorem ta_30 (w0 w1 w2 w3 w4 v0 v1 v2 v3 v4 q h0 h1 h2 l0 l1 l2 : Nat) : runB Try.prog 139 #[slU 0 3, slV 3, u q] (HD [w0, w1, w2, w3, w4] [v0, v1, v2, v3, v4]) [n, n, n, n, n, f, n, n, f, n, f] [(142, rt (tp [u h0, u l0])), (142, rt (tp [u h1, u l1])), (142, rt (tp [u h2, u l2]))] [] =
    some (rt (bb (Int.ofNat (tkB [(w0, h0, l0), (w1, h1, l1), (w2, h2, l2)] w3) != 0)), HE ([] ++ tkW [(w0, h0, l0), (w1, h1, l1), (w2, h2, l2)] w3 ++ [w4]) [v0, v1, v2, v3, v4], [PureX Try.prog 142 #[u v0, u q] (rt (tp [u h0, u l0])), PureX Try.prog 142 #[u v1, u q] (rt (tp [u h1, u l1])), decide (1 < taO [(w0, h0, l0)] 0 0) = false, PureX Try.prog 142 #[u v2, u q] (rt (tp [u h2, u l2])), decide (1 < taO [(w0, h0, l0), (w1, h1, l1)] 0 0) = false, decide (1 < taO [(w0, h0, l0), (w1, h1, l1), (w2, h2, l2)] 0 0) = false]) := by kernel_rfl
theorem ta_31 (w0 w1 w2 w3 w4 v0 v1 v2 v3 v4 q h0 h1 h2 l0 l1 l2 : Nat) : runB Try.prog 139 #[slU 1 3, slV 3, u q] (HD [w0, w1, w2, w3, w4] [v0, v1, v2, v3, v4]) [n, n, n, n, n, f, n, n, f, n, f] [(142, rt (tp [u h0, u l0])), (142, rt (tp [u h1, u l1])), (142, rt (tp [u h2, u l2]))] [] =
    some (rt (bb (Int.ofNat (tkB [(w1, h0, l0), (w2, h1, l1), (w3, h2, l2)] w4) != 0)), HE ([w0] ++ tkW [(w1, h0, l0), (w2, h1, l1), (w3, h2, l2)] w4 ++ []) [v0, v1, v2, v3, v4], [PureX Try.prog 142 #[u v0, u q] (rt (tp [u h0, u l0])), PureX Try.prog 142 #[u v1, u q] (rt (tp [u h1, u l1])), decide (1 < taO [(w1, h0, l0)] 0 0) = false, PureX Try.prog 142 #[u v2, u q] (rt (tp [u h2, u l2])), decide (1 < taO [(w1, h0, l0), (w2, h1, l1)] 0 0) = false, decide (1 < taO [(w1, h0, l0), (w2, h1, l1), (w3, h2, l2)] 0 0) = false]) := by kernel_rfl
theorem ta_40 (w0 w1 w2 w3 w4 v0 v1 v2 v3 v4 q h0 h1 h2 h3 l0 l1 l2 l3 : Nat) : runB Try.prog 139 #[slU 0 4, slV 4, u q] (HD [w0, w1, w2, w3, w4] [v0, v1, v2, v3, v4]) [n, n, n, n, n, f, n, n, f, n, n, f, n, f] [(142, rt (tp [u h0, u l0])), (142, rt (tp [u h1, u l1])), (142, rt (tp [u h2, u l2])), (142, rt (tp [u h3, u l3]))] [] =
    some (rt (bb (Int.ofNat (tkB [(w0, h0, l0), (w1, h1, l1), (w2, h2, l2), (w3, h3, l3)] w4) != 0)), HE ([] ++ tkW [(w0, h0, l0), (w1, h1, l1), (w2, h2, l2), (w3, h3, l3)] w4 ++ []) [v0, v1, v2, v3, v4], [PureX Try.prog 142 #[u v0, u q] (rt (tp [u h0, u l0])), PureX Try.prog 142 #[u v1, u q] (rt (tp [u h1, u l1])), decide (1 < taO [(w0, h0, l0)] 0 0) = false, PureX Try.prog 142 #[u v2, u q] (rt (tp [u h2, u l2])), decide (1 < taO [(w0, h0, l0), (w1, h1, l1)] 0 0) = false, PureX Try.prog 142 #[u v3, u q] (rt (tp [u h3, u l3])), decide (1 < taO [(w0, h0, l0), (w1, h1, l1), (w2, h2, l2)] 0 0) = false, decide (1 < taO [(w0, h0, l0), (w1, h1, l1), (w2, h2, l2), (w3, h3, l3)] 0 0) = false]) := by kernel_rfl

end Go.Proofs.Ytpbhoamojocbpaa
