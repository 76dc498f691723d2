/- Texts of the seat, joined. -/
import Derived.Test.YtcmfgabhgodlaaaGreatDoorZz9
/- What digit of package quot comes to, place by place. -/
namespace Go.Proofs.YtcmfgabhgodlaaaGreatDoor
open Go Go.RowKit
set_option linter.unusedSimpArgs false
set_option linter.unusedVariables false

def dec1 (k : Value) : Value := match k with | .int .u64 z => .int .u64 (IntKind.u64.wrap (z - 1)) | v => v
theorem dg_100 (w0 w1 w2 w3 w4 v0 v1 v2 v3 v4 q x0 x1 x2 x3 x4 : Nat) : runB Tryz.prog 112 #[slU 0 1, slV 1] (HD [w0, w1, w2, w3, w4] [v0, v1, v2, v3, v4]) [] [(116, rt (u q))] [(117, rt (bb false), HD [x0, x1, x2, x3, x4] [v0, v1, v2, v3, v4])] =
    some (rt (u q), HD [x0, x1, x2, x3, x4] [v0, v1, v2, v3, v4], [PureX Tryz.prog 116 #[u w1, u w0, u v0] (rt (u q)), CallsV Tryz.prog (.func 117) #[slU 0 1, slV 1, u q] (HD [w0, w1, w2, w3, w4] [v0, v1, v2, v3, v4]) (rt (bb false)) (HD [x0, x1, x2, x3, x4] [v0, v1, v2, v3, v4])]) := by kernel_rfl
theorem dg_101 (w0 w1 w2 w3 w4 v0 v1 v2 v3 v4 q x0 x1 x2 x3 x4 y0 y1 y2 y3 y4 : Nat) : runB Tryz.prog 112 #[slU 0 1, slV 1] (HD [w0, w1, w2, w3, w4] [v0, v1, v2, v3, v4]) [] [(116, rt (u q))] [(117, rt (bb true), HD [x0, x1, x2, x3, x4] [v0, v1, v2, v3, v4]), (118, rt (bb true), HD [y0, y1, y2, y3, y4] [v0, v1, v2, v3, v4])] =
    some (rt (dec1 (u q)), HD [y0, y1, y2, y3, y4] [v0, v1, v2, v3, v4], [PureX Tryz.prog 116 #[u w1, u w0, u v0] (rt (u q)), CallsV Tryz.prog (.func 117) #[slU 0 1, slV 1, u q] (HD [w0, w1, w2, w3, w4] [v0, v1, v2, v3, v4]) (rt (bb true)) (HD [x0, x1, x2, x3, x4] [v0, v1, v2, v3, v4]), CallsV Tryz.prog (.func 118) #[slU 0 1, slV 1] (HD [x0, x1, x2, x3, x4] [v0, v1, v2, v3, v4]) (rt (bb true)) (HD [y0, y1, y2, y3, y4] [v0, v1, v2, v3, v4])]) := by kernel_rfl
theorem dg_102 (w0 w1 w2 w3 w4 v0 v1 v2 v3 v4 q x0 x1 x2 x3 x4 y0 y1 y2 y3 y4 z0 z1 z2 z3 z4 : Nat) : runB Tryz.prog 112 #[slU 0 1, slV 1] (HD [w0, w1, w2, w3, w4] [v0, v1, v2, v3, v4]) [] [(116, rt (u q))] [(117, rt (bb true), HD [x0, x1, x2, x3, x4] [v0, v1, v2, v3, v4]), (118, rt (bb false), HD [y0, y1, y2, y3, y4] [v0, v1, v2, v3, v4]), (118, rt (bb true), HD [z0, z1, z2, z3, z4] [v0, v1, v2, v3, v4])] =
    some (rt (dec1 (dec1 (u q))), HD [z0, z1, z2, z3, z4] [v0, v1, v2, v3, v4], [PureX Tryz.prog 116 #[u w1, u w0, u v0] (rt (u q)), CallsV Tryz.prog (.func 117) #[slU 0 1, slV 1, u q] (HD [w0, w1, w2, w3, w4] [v0, v1, v2, v3, v4]) (rt (bb true)) (HD [x0, x1, x2, x3, x4] [v0, v1, v2, v3, v4]), CallsV Tryz.prog (.func 118) #[slU 0 1, slV 1] (HD [x0, x1, x2, x3, x4] [v0, v1, v2, v3, v4]) (rt (bb false)) (HD [y0, y1, y2, y3, y4] [v0, v1, v2, v3, v4]), CallsV Tryz.prog (.func 118) #[slU 0 1, slV 1] (HD [y0, y1, y2, y3, y4] [v0, v1, v2, v3, v4]) (rt (bb true)) (HD [z0, z1, z2, z3, z4] [v0, v1, v2, v3, v4])]) := by kernel_rfl
theorem dg_110 (w0 w1 w2 w3 w4 v0 v1 v2 v3 v4 q x0 x1 x2 x3 x4 : Nat) : runB Tryz.prog 112 #[slU 1 1, slV 1] (HD [w0, w1, w2, w3, w4] [v0, v1, v2, v3, v4]) [] [(116, rt (u q))] [(117, rt (bb false), HD [x0, x1, x2, x3, x4] [v0, v1, v2, v3, v4])] =
    some (rt (u q), HD [x0, x1, x2, x3, x4] [v0, v1, v2, v3, v4], [PureX Tryz.prog 116 #[u w2, u w1, u v0] (rt (u q)), CallsV Tryz.prog (.func 117) #[slU 1 1, slV 1, u q] (HD [w0, w1, w2, w3, w4] [v0, v1, v2, v3, v4]) (rt (bb false)) (HD [x0, x1, x2, x3, x4] [v0, v1, v2, v3, v4])]) := by kernel_rfl
theorem dg_111 (w0 w1 w2 w3 w4 v0 v1 v2 v3 v4 q x0 x1 x2 x3 x4 y0 y1 y2 y3 y4 : Nat) : runB Tryz.prog 112 #[slU 1 1, slV 1] (HD [w0, w1, w2, w3, w4] [v0, v1, v2, v3, v4]) [] [(116, rt (u q))] [(117, rt (bb true), HD [x0, x1, x2, x3, x4] [v0, v1, v2, v3, v4]), (118, rt (bb true), HD [y0, y1, y2, y3, y4] [v0, v1, v2, v3, v4])] =
    some (rt (dec1 (u q)), HD [y0, y1, y2, y3, y4] [v0, v1, v2, v3, v4], [PureX Tryz.prog 116 #[u w2, u w1, u v0] (rt (u q)), CallsV Tryz.prog (.func 117) #[slU 1 1, slV 1, u q] (HD [w0, w1, w2, w3, w4] [v0, v1, v2, v3, v4]) (rt (bb true)) (HD [x0, x1, x2, x3, x4] [v0, v1, v2, v3, v4]), CallsV Tryz.prog (.func 118) #[slU 1 1, slV 1] (HD [x0, x1, x2, x3, x4] [v0, v1, v2, v3, v4]) (rt (bb true)) (HD [y0, y1, y2, y3, y4] [v0, v1, v2, v3, v4])]) := by kernel_rfl
theorem dg_112 (w0 w1 w2 w3 w4 v0 v1 v2 v3 v4 q x0 x1 x2 x3 x4 y0 y1 y2 y3 y4 z0 z1 z2 z3 z4 : Nat) : runB Tryz.prog 112 #[slU 1 1, slV 1] (HD [w0, w1, w2, w3, w4] [v0, v1, v2, v3, v4]) [] [(116, rt (u q))] [(117, rt (bb true), HD [x0, x1, x2, x3, x4] [v0, v1, v2, v3, v4]), (118, rt (bb false), HD [y0, y1, y2, y3, y4] [v0, v1, v2, v3, v4]), (118, rt (bb true), HD [z0, z1, z2, z3, z4] [v0, v1, v2, v3, v4])] =
    some (rt (dec1 (dec1 (u q))), HD [z0, z1, z2, z3, z4] [v0, v1, v2, v3, v4], [PureX Tryz.prog 116 #[u w2, u w1, u v0] (rt (u q)), CallsV Tryz.prog (.func 117) #[slU 1 1, slV 1, u q] (HD [w0, w1, w2, w3, w4] [v0, v1, v2, v3, v4]) (rt (bb true)) (HD [x0, x1, x2, x3, x4] [v0, v1, v2, v3, v4]), CallsV Tryz.prog (.func 118) #[slU 1 1, slV 1] (HD [x0, x1, x2, x3, x4] [v0, v1, v2, v3, v4]) (rt (bb false)) (HD [y0, y1, y2, y3, y4] [v0, v1, v2, v3, v4]), CallsV Tryz.prog (.func 118) #[slU 1 1, slV 1] (HD [y0, y1, y2, y3, y4] [v0, v1, v2, v3, v4]) (rt (bb true)) (HD [z0, z1, z2, z3, z4] [v0, v1, v2, v3, v4])]) := by kernel_rfl
theorem dg_120 (w0 w1 w2 w3 w4 v0 v1 v2 v3 v4 q x0 x1 x2 x3 x4 : Nat) : runB Tryz.prog 112 #[slU 2 1, slV 1] (HD [w0, w1, w2, w3, w4] [v0, v1, v2, v3, v4]) [] [(116, rt (u q))] [(117, rt (bb false), HD [x0, x1, x2, x3, x4] [v0, v1, v2, v3, v4])] =
    some (rt (u q), HD [x0, x1, x2, x3, x4] [v0, v1, v2, v3, v4], [PureX Tryz.prog 116 #[u w3, u w2, u v0] (rt (u q)), CallsV Tryz.prog (.func 117) #[slU 2 1, slV 1, u q] (HD [w0, w1, w2, w3, w4] [v0, v1, v2, v3, v4]) (rt (bb false)) (HD [x0, x1, x2, x3, x4] [v0, v1, v2, v3, v4])]) := by kernel_rfl
theorem dg_121 (w0 w1 w2 w3 w4 v0 v1 v2 v3 v4 q x0 x1 x2 x3 x4 y0 y1 y2 y3 y4 : Nat) : runB Tryz.prog 112 #[slU 2 1, slV 1] (HD [w0, w1, w2, w3, w4] [v0, v1, v2, v3, v4]) [] [(116, rt (u q))] [(117, rt (bb true), HD [x0, x1, x2, x3, x4] [v0, v1, v2, v3, v4]), (118, rt (bb true), HD [y0, y1, y2, y3, y4] [v0, v1, v2, v3, v4])] =
    some (rt (dec1 (u q)), HD [y0, y1, y2, y3, y4] [v0, v1, v2, v3, v4], [PureX Tryz.prog 116 #[u w3, u w2, u v0] (rt (u q)), CallsV Tryz.prog (.func 117) #[slU 2 1, slV 1, u q] (HD [w0, w1, w2, w3, w4] [v0, v1, v2, v3, v4]) (rt (bb true)) (HD [x0, x1, x2, x3, x4] [v0, v1, v2, v3, v4]), CallsV Tryz.prog (.func 118) #[slU 2 1, slV 1] (HD [x0, x1, x2, x3, x4] [v0, v1, v2, v3, v4]) (rt (bb true)) (HD [y0, y1, y2, y3, y4] [v0, v1, v2, v3, v4])]) := by kernel_rfl
theorem dg_122 (w0 w1 w2 w3 w4 v0 v1 v2 v3 v4 q x0 x1 x2 x3 x4 y0 y1 y2 y3 y4 z0 z1 z2 z3 z4 : Nat) : runB Tryz.prog 112 #[slU 2 1, slV 1] (HD [w0, w1, w2, w3, w4] [v0, v1, v2, v3, v4]) [] [(116, rt (u q))] [(117, rt (bb true), HD [x0, x1, x2, x3, x4] [v0, v1, v2, v3, v4]), (118, rt (bb false), HD [y0, y1, y2, y3, y4] [v0, v1, v2, v3, v4]), (118, rt (bb true), HD [z0, z1, z2, z3, z4] [v0, v1, v2, v3, v4])] =
    some (rt (dec1 (dec1 (u q))), HD [z0, z1, z2, z3, z4] [v0, v1, v2, v3, v4], [PureX Tryz.prog 116 #[u w3, u w2, u v0] (rt (u q)), CallsV Tryz.prog (.func 117) #[slU 2 1, slV 1, u q] (HD [w0, w1, w2, w3, w4] [v0, v1, v2, v3, v4]) (rt (bb true)) (HD [x0, x1, x2, x3, x4] [v0, v1, v2, v3, v4]), CallsV Tryz.prog (.func 118) #[slU 2 1, slV 1] (HD [x0, x1, x2, x3, x4] [v0, v1, v2, v3, v4]) (rt (bb false)) (HD [y0, y1, y2, y3, y4] [v0, v1, v2, v3, v4]), CallsV Tryz.prog (.func 118) #[slU 2 1, slV 1] (HD [y0, y1, y2, y3, y4] [v0, v1, v2, v3, v4]) (rt (bb true)) (HD [z0, z1, z2, z3, z4] [v0, v1, v2, v3, v4])]) := by kernel_rfl
theorem dg_130 (w0 w1 w2 w3 w4 v0 v1 v2 v3 v4 q x0 x1 x2 x3 x4 : Nat) : runB Tryz.prog 112 #[slU 3 1, slV 1] (HD [w0, w1, w2, w3, w4] [v0, v1, v2, v3, v4]) [] [(116, rt (u q))] [(117, rt (bb false), HD [x0, x1, x2, x3, x4] [v0, v1, v2, v3, v4])] =
    some (rt (u q), HD [x0, x1, x2, x3, x4] [v0, v1, v2, v3, v4], [PureX Tryz.prog 116 #[u w4, u w3, u v0] (rt (u q)), CallsV Tryz.prog (.func 117) #[slU 3 1, slV 1, u q] (HD [w0, w1, w2, w3, w4] [v0, v1, v2, v3, v4]) (rt (bb false)) (HD [x0, x1, x2, x3, x4] [v0, v1, v2, v3, v4])]) := by kernel_rfl
theorem dg_131 (w0 w1 w2 w3 w4 v0 v1 v2 v3 v4 q x0 x1 x2 x3 x4 y0 y1 y2 y3 y4 : Nat) : runB Tryz.prog 112 #[slU 3 1, slV 1] (HD [w0, w1, w2, w3, w4] [v0, v1, v2, v3, v4]) [] [(116, rt (u q))] [(117, rt (bb true), HD [x0, x1, x2, x3, x4] [v0, v1, v2, v3, v4]), (118, rt (bb true), HD [y0, y1, y2, y3, y4] [v0, v1, v2, v3, v4])] =
    some (rt (dec1 (u q)), HD [y0, y1, y2, y3, y4] [v0, v1, v2, v3, v4], [PureX Tryz.prog 116 #[u w4, u w3, u v0] (rt (u q)), CallsV Tryz.prog (.func 117) #[slU 3 1, slV 1, u q] (HD [w0, w1, w2, w3, w4] [v0, v1, v2, v3, v4]) (rt (bb true)) (HD [x0, x1, x2, x3, x4] [v0, v1, v2, v3, v4]), CallsV Tryz.prog (.func 118) #[slU 3 1, slV 1] (HD [x0, x1, x2, x3, x4] [v0, v1, v2, v3, v4]) (rt (bb true)) (HD [y0, y1, y2, y3, y4] [v0, v1, v2, v3, v4])]) := by kernel_rfl
theorem dg_132 (w0 w1 w2 w3 w4 v0 v1 v2 v3 v4 q x0 x1 x2 x3 x4 y0 y1 y2 y3 y4 z0 z1 z2 z3 z4 : Nat) : runB Tryz.prog 112 #[slU 3 1, slV 1] (HD [w0, w1, w2, w3, w4] [v0, v1, v2, v3, v4]) [] [(116, rt (u q))] [(117, rt (bb true), HD [x0, x1, x2, x3, x4] [v0, v1, v2, v3, v4]), (118, rt (bb false), HD [y0, y1, y2, y3, y4] [v0, v1, v2, v3, v4]), (118, rt (bb true), HD [z0, z1, z2, z3, z4] [v0, v1, v2, v3, v4])] =
    some (rt (dec1 (dec1 (u q))), HD [z0, z1, z2, z3, z4] [v0, v1, v2, v3, v4], [PureX Tryz.prog 116 #[u w4, u w3, u v0] (rt (u q)), CallsV Tryz.prog (.func 117) #[slU 3 1, slV 1, u q] (HD [w0, w1, w2, w3, w4] [v0, v1, v2, v3, v4]) (rt (bb true)) (HD [x0, x1, x2, x3, x4] [v0, v1, v2, v3, v4]), CallsV Tryz.prog (.func 118) #[slU 3 1, slV 1] (HD [x0, x1, x2, x3, x4] [v0, v1, v2, v3, v4]) (rt (bb false)) (HD [y0, y1, y2, y3, y4] [v0, v1, v2, v3, v4]), CallsV Tryz.prog (.func 118) #[slU 3 1, slV 1] (HD [y0, y1, y2, y3, y4] [v0, v1, v2, v3, v4]) (rt (bb true)) (HD [z0, z1, z2, z3, z4] [v0, v1, v2, v3, v4])]) := by kernel_rfl
theorem dg_200 (w0 w1 w2 w3 w4 v0 v1 v2 v3 v4 q x0 x1 x2 x3 x4 : Nat) : runB Tryz.prog 112 #[slU 0 2, slV 2] (HD [w0, w1, w2, w3, w4] [v0, v1, v2, v3, v4]) [] [(116, rt (u q))] [(117, rt (bb false), HD [x0, x1, x2, x3, x4] [v0, v1, v2, v3, v4])] =
    some (rt (u q), HD [x0, x1, x2, x3, x4] [v0, v1, v2, v3, v4], [PureX Tryz.prog 116 #[u w2, u w1, u v1] (rt (u q)), CallsV Tryz.prog (.func 117) #[slU 0 2, slV 2, u q] (HD [w0, w1, w2, w3, w4] [v0, v1, v2, v3, v4]) (rt (bb false)) (HD [x0, x1, x2, x3, x4] [v0, v1, v2, v3, v4])]) := by kernel_rfl
theorem dg_201 (w0 w1 w2 w3 w4 v0 v1 v2 v3 v4 q x0 x1 x2 x3 x4 y0 y1 y2 y3 y4 : Nat) : runB Tryz.prog 112 #[slU 0 2, slV 2] (HD [w0, w1, w2, w3, w4] [v0, v1, v2, v3, v4]) [] [(116, rt (u q))] [(117, rt (bb true), HD [x0, x1, x2, x3, x4] [v0, v1, v2, v3, v4]), (118, rt (bb true), HD [y0, y1, y2, y3, y4] [v0, v1, v2, v3, v4])] =
    some (rt (dec1 (u q)), HD [y0, y1, y2, y3, y4] [v0, v1, v2, v3, v4], [PureX Tryz.prog 116 #[u w2, u w1, u v1] (rt (u q)), CallsV Tryz.prog (.func 117) #[slU 0 2, slV 2, u q] (HD [w0, w1, w2, w3, w4] [v0, v1, v2, v3, v4]) (rt (bb true)) (HD [x0, x1, x2, x3, x4] [v0, v1, v2, v3, v4]), CallsV Tryz.prog (.func 118) #[slU 0 2, slV 2] (HD [x0, x1, x2, x3, x4] [v0, v1, v2, v3, v4]) (rt (bb true)) (HD [y0, y1, y2, y3, y4] [v0, v1, v2, v3, v4])]) := by kernel_rfl
theorem dg_202 (w0 w1 w2 w3 w4 v0 v1 v2 v3 v4 q x0 x1 x2 x3 x4 y0 y1 y2 y3 y4 z0 z1 z2 z3 z4 : Nat) : runB Tryz.prog 112 #[slU 0 2, slV 2] (HD [w0, w1, w2, w3, w4] [v0, v1, v2, v3, v4]) [] [(116, rt (u q))] [(117, rt (bb true), HD [x0, x1, x2, x3, x4] [v0, v1, v2, v3, v4]), (118, rt (bb false), HD [y0, y1, y2, y3, y4] [v0, v1, v2, v3, v4]), (118, rt (bb true), HD [z0, z1, z2, z3, z4] [v0, v1, v2, v3, v4])] =
    some (rt (dec1 (dec1 (u q))), HD [z0, z1, z2, z3, z4] [v0, v1, v2, v3, v4], [PureX Tryz.prog 116 #[u w2, u w1, u v1] (rt (u q)), CallsV Tryz.prog (.func 117) #[slU 0 2, slV 2, u q] (HD [w0, w1, w2, w3, w4] [v0, v1, v2, v3, v4]) (rt (bb true)) (HD [x0, x1, x2, x3, x4] [v0, v1, v2, v3, v4]), CallsV Tryz.prog (.func 118) #[slU 0 2, slV 2] (HD [x0, x1, x2, x3, x4] [v0, v1, v2, v3, v4]) (rt (bb false)) (HD [y0, y1, y2, y3, y4] [v0, v1, v2, v3, v4]), CallsV Tryz.prog (.func 118) #[slU 0 2, slV 2] (HD [y0, y1, y2, y3, y4] [v0, v1, v2, v3, v4]) (rt (bb true)) (HD [z0, z1, z2, z3, z4] [v0, v1, v2, v3, v4])]) := by kernel_rfl
theorem dg_210 (w0 w1 w2 w3 w4 v0 v1 v2 v3 v4 q x0 x1 x2 x3 x4 : Nat) : runB Tryz.prog 112 #[slU 1 2, slV 2] (HD [w0, w1, w2, w3, w4] [v0, v1, v2, v3, v4]) [] [(116, rt (u q))] [(117, rt (bb false), HD [x0, x1, x2, x3, x4] [v0, v1, v2, v3, v4])] =
    some (rt (u q), HD [x0, x1, x2, x3, x4] [v0, v1, v2, v3, v4], [PureX Tryz.prog 116 #[u w3, u w2, u v1] (rt (u q)), CallsV Tryz.prog (.func 117) #[slU 1 2, slV 2, u q] (HD [w0, w1, w2, w3, w4] [v0, v1, v2, v3, v4]) (rt (bb false)) (HD [x0, x1, x2, x3, x4] [v0, v1, v2, v3, v4])]) := by kernel_rfl
theorem dg_211 (w0 w1 w2 w3 w4 v0 v1 v2 v3 v4 q x0 x1 x2 x3 x4 y0 y1 y2 y3 y4 : Nat) : runB Tryz.prog 112 #[slU 1 2, slV 2] (HD [w0, w1, w2, w3, w4] [v0, v1, v2, v3, v4]) [] [(116, rt (u q))] [(117, rt (bb true), HD [x0, x1, x2, x3, x4] [v0, v1, v2, v3, v4]), (118, rt (bb true), HD [y0, y1, y2, y3, y4] [v0, v1, v2, v3, v4])] =
    some (rt (dec1 (u q)), HD [y0, y1, y2, y3, y4] [v0, v1, v2, v3, v4], [PureX Tryz.prog 116 #[u w3, u w2, u v1] (rt (u q)), CallsV Tryz.prog (.func 117) #[slU 1 2, slV 2, u q] (HD [w0, w1, w2, w3, w4] [v0, v1, v2, v3, v4]) (rt (bb true)) (HD [x0, x1, x2, x3, x4] [v0, v1, v2, v3, v4]), CallsV Tryz.prog (.func 118) #[slU 1 2, slV 2] (HD [x0, x1, x2, x3, x4] [v0, v1, v2, v3, v4]) (rt (bb true)) (HD [y0, y1, y2, y3, y4] [v0, v1, v2, v3, v4])]) := by kernel_rfl
theorem dg_212 (w0 w1 w2 w3 w4 v0 v1 v2 v3 v4 q x0 x1 x2 x3 x4 y0 y1 y2 y3 y4 z0 z1 z2 z3 z4 : Nat) : runB Tryz.prog 112 #[slU 1 2, slV 2] (HD [w0, w1, w2, w3, w4] [v0, v1, v2, v3, v4]) [] [(116, rt (u q))] [(117, rt (bb true), HD [x0, x1, x2, x3, x4] [v0, v1, v2, v3, v4]), (118, rt (bb false), HD [y0, y1, y2, y3, y4] [v0, v1, v2, v3, v4]), (118, rt (bb true), HD [z0, z1, z2, z3, z4] [v0, v1, v2, v3, v4])] =
    some (rt (dec1 (dec1 (u q))), HD [z0, z1, z2, z3, z4] [v0, v1, v2, v3, v4], [PureX Tryz.prog 116 #[u w3, u w2, u v1] (rt (u q)), CallsV Tryz.prog (.func 117) #[slU 1 2, slV 2, u q] (HD [w0, w1, w2, w3, w4] [v0, v1, v2, v3, v4]) (rt (bb true)) (HD [x0, x1, x2, x3, x4] [v0, v1, v2, v3, v4]), CallsV Tryz.prog (.func 118) #[slU 1 2, slV 2] (HD [x0, x1, x2, x3, x4] [v0, v1, v2, v3, v4]) (rt (bb false)) (HD [y0, y1, y2, y3, y4] [v0, v1, v2, v3, v4]), CallsV Tryz.prog (.func 118) #[slU 1 2, slV 2] (HD [y0, y1, y2, y3, y4] [v0, v1, v2, v3, v4]) (rt (bb true)) (HD [z0, z1, z2, z3, z4] [v0, v1, v2, v3, v4])]) := by kernel_rfl
theorem dg_220 (w0 w1 w2 w3 w4 v0 v1 v2 v3 v4 q x0 x1 x2 x3 x4 : Nat) : runB Tryz.prog 112 #[slU 2 2, slV 2] (HD [w0, w1, w2, w3, w4] [v0, v1, v2, v3, v4]) [] [(116, rt (u q))] [(117, rt (bb false), HD [x0, x1, x2, x3, x4] [v0, v1, v2, v3, v4])] =
    some (rt (u q), HD [x0, x1, x2, x3, x4] [v0, v1, v2, v3, v4], [PureX Tryz.prog 116 #[u w4, u w3, u v1] (rt (u q)), CallsV Tryz.prog (.func 117) #[slU 2 2, slV 2, u q] (HD [w0, w1, w2, w3, w4] [v0, v1, v2, v3, v4]) (rt (bb false)) (HD [x0, x1, x2, x3, x4] [v0, v1, v2, v3, v4])]) := by kernel_rfl
theorem dg_221 (w0 w1 w2 w3 w4 v0 v1 v2 v3 v4 q x0 x1 x2 x3 x4 y0 y1 y2 y3 y4 : Nat) : runB Tryz.prog 112 #[slU 2 2, slV 2] (HD [w0, w1, w2, w3, w4] [v0, v1, v2, v3, v4]) [] [(116, rt (u q))] [(117, rt (bb true), HD [x0, x1, x2, x3, x4] [v0, v1, v2, v3, v4]), (118, rt (bb true), HD [y0, y1, y2, y3, y4] [v0, v1, v2, v3, v4])] =
    some (rt (dec1 (u q)), HD [y0, y1, y2, y3, y4] [v0, v1, v2, v3, v4], [PureX Tryz.prog 116 #[u w4, u w3, u v1] (rt (u q)), CallsV Tryz.prog (.func 117) #[slU 2 2, slV 2, u q] (HD [w0, w1, w2, w3, w4] [v0, v1, v2, v3, v4]) (rt (bb true)) (HD [x0, x1, x2, x3, x4] [v0, v1, v2, v3, v4]), CallsV Tryz.prog (.func 118) #[slU 2 2, slV 2] (HD [x0, x1, x2, x3, x4] [v0, v1, v2, v3, v4]) (rt (bb true)) (HD [y0, y1, y2, y3, y4] [v0, v1, v2, v3, v4])]) := by kernel_rfl
theorem dg_222 (w0 w1 w2 w3 w4 v0 v1 v2 v3 v4 q x0 x1 x2 x3 x4 y0 y1 y2 y3 y4 z0 z1 z2 z3 z4 : Nat) : runB Tryz.prog 112 #[slU 2 2, slV 2] (HD [w0, w1, w2, w3, w4] [v0, v1, v2, v3, v4]) [] [(116, rt (u q))] [(117, rt (bb true), HD [x0, x1, x2, x3, x4] [v0, v1, v2, v3, v4]), (118, rt (bb false), HD [y0, y1, y2, y3, y4] [v0, v1, v2, v3, v4]), (118, rt (bb true), HD [z0, z1, z2, z3, z4] [v0, v1, v2, v3, v4])] =
    some (rt (dec1 (dec1 (u q))), HD [z0, z1, z2, z3, z4] [v0, v1, v2, v3, v4], [PureX Tryz.prog 116 #[u w4, u w3, u v1] (rt (u q)), CallsV Tryz.prog (.func 117) #[slU 2 2, slV 2, u q] (HD [w0, w1, w2, w3, w4] [v0, v1, v2, v3, v4]) (rt (bb true)) (HD [x0, x1, x2, x3, x4] [v0, v1, v2, v3, v4]), CallsV Tryz.prog (.func 118) #[slU 2 2, slV 2] (HD [x0, x1, x2, x3, x4] [v0, v1, v2, v3, v4]) (rt (bb false)) (HD [y0, y1, y2, y3, y4] [v0, v1, v2, v3, v4]), CallsV Tryz.prog (.func 118) #[slU 2 2, slV 2] (HD [y0, y1, y2, y3, y4] [v0, v1, v2, v3, v4]) (rt (bb true)) (HD [z0, z1, z2, z3, z4] [v0, v1, v2, v3, v4])]) := by kernel_rfl
theorem dg_300 (w0 w1 w2 w3 w4 v0 v1 v2 v3 v4 q x0 x1 x2 x3 x4 : Nat) : runB Tryz.prog 112 #[slU 0 3, slV 3] (HD [w0, w1, w2, w3, w4] [v0, v1, v2, v3, v4]) [] [(116, rt (u q))] [(117, rt (bb false), HD [x0, x1, x2, x3, x4] [v0, v1, v2, v3, v4])] =
    some (rt (u q), HD [x0, x1, x2, x3, x4] [v0, v1, v2, v3, v4], [PureX Tryz.prog 116 #[u w3, u w2, u v2] (rt (u q)), CallsV Tryz.prog (.func 117) #[slU 0 3, slV 3, u q] (HD [w0, w1, w2, w3, w4] [v0, v1, v2, v3, v4]) (rt (bb false)) (HD [x0, x1, x2, x3, x4] [v0, v1, v2, v3, v4])]) := by kernel_rfl
theorem dg_301 (w0 w1 w2 w3 w4 v0 v1 v2 v3 v4 q x0 x1 x2 x3 x4 y0 y1 y2 y3 y4 : Nat) : runB Tryz.prog 112 #[slU 0 3, slV 3] (HD [w0, w1, w2, w3, w4] [v0, v1, v2, v3, v4]) [] [(116, rt (u q))] [(117, rt (bb true), HD [x0, x1, x2, x3, x4] [v0, v1, v2, v3, v4]), (118, rt (bb true), HD [y0, y1, y2, y3, y4] [v0, v1, v2, v3, v4])] =
    some (rt (dec1 (u q)), HD [y0, y1, y2, y3, y4] [v0, v1, v2, v3, v4], [PureX Tryz.prog 116 #[u w3, u w2, u v2] (rt (u q)), CallsV Tryz.prog (.func 117) #[slU 0 3, slV 3, u q] (HD [w0, w1, w2, w3, w4] [v0, v1, v2, v3, v4]) (rt (bb true)) (HD [x0, x1, x2, x3, x4] [v0, v1, v2, v3, v4]), CallsV Tryz.prog (.func 118) #[slU 0 3, slV 3] (HD [x0, x1, x2, x3, x4] [v0, v1, v2, v3, v4]) (rt (bb true)) (HD [y0, y1, y2, y3, y4] [v0, v1, v2, v3, v4])]) := by kernel_rfl
theorem dg_302 (w0 w1 w2 w3 w4 v0 v1 v2 v3 v4 q x0 x1 x2 x3 x4 y0 y1 y2 y3 y4 z0 z1 z2 z3 z4 : Nat) : runB Tryz.prog 112 #[slU 0 3, slV 3] (HD [w0, w1, w2, w3, w4] [v0, v1, v2, v3, v4]) [] [(116, rt (u q))] [(117, rt (bb true), HD [x0, x1, x2, x3, x4] [v0, v1, v2, v3, v4]), (118, rt (bb false), HD [y0, y1, y2, y3, y4] [v0, v1, v2, v3, v4]), (118, rt (bb true), HD [z0, z1, z2, z3, z4] [v0, v1, v2, v3, v4])] =
    some (rt (dec1 (dec1 (u q))), HD [z0, z1, z2, z3, z4] [v0, v1, v2, v3, v4], [PureX Tryz.prog 116 #[u w3, u w2, u v2] (rt (u q)), CallsV Tryz.prog (.func 117) #[slU 0 3, slV 3, u q] (HD [w0, w1, w2, w3, w4] [v0, v1, v2, v3, v4]) (rt (bb true)) (HD [x0, x1, x2, x3, x4] [v0, v1, v2, v3, v4]), CallsV Tryz.prog (.func 118) #[slU 0 3, slV 3] (HD [x0, x1, x2, x3, x4] [v0, v1, v2, v3, v4]) (rt (bb false)) (HD [y0, y1, y2, y3, y4] [v0, v1, v2, v3, v4]), CallsV Tryz.prog (.func 118) #[slU 0 3, slV 3] (HD [y0, y1, y2, y3, y4] [v0, v1, v2, v3, v4]) (rt (bb true)) (HD [z0, z1, z2, z3, z4] [v0, v1, v2, v3, v4])]) := by kernel_rfl
theorem dg_310 (w0 w1 w2 w3 w4 v0 v1 v2 v3 v4 q x0 x1 x2 x3 x4 : Nat) : runB Tryz.prog 112 #[slU 1 3, slV 3] (HD [w0, w1, w2, w3, w4] [v0, v1, v2, v3, v4]) [] [(116, rt (u q))] [(117, rt (bb false), HD [x0, x1, x2, x3, x4] [v0, v1, v2, v3, v4])] =
    some (rt (u q), HD [x0, x1, x2, x3, x4] [v0, v1, v2, v3, v4], [PureX Tryz.prog 116 #[u w4, u w3, u v2] (rt (u q)), CallsV Tryz.prog (.func 117) #[slU 1 3, slV 3, u q] (HD [w0, w1, w2, w3, w4] [v0, v1, v2, v3, v4]) (rt (bb false)) (HD [x0, x1, x2, x3, x4] [v0, v1, v2, v3, v4])]) := by kernel_rfl
theorem dg_311 (w0 w1 w2 w3 w4 v0 v1 v2 v3 v4 q x0 x1 x2 x3 x4 y0 y1 y2 y3 y4 : Nat) : runB Tryz.prog 112 #[slU 1 3, slV 3] (HD [w0, w1, w2, w3, w4] [v0, v1, v2, v3, v4]) [] [(116, rt (u q))] [(117, rt (bb true), HD [x0, x1, x2, x3, x4] [v0, v1, v2, v3, v4]), (118, rt (bb true), HD [y0, y1, y2, y3, y4] [v0, v1, v2, v3, v4])] =
    some (rt (dec1 (u q)), HD [y0, y1, y2, y3, y4] [v0, v1, v2, v3, v4], [PureX Tryz.prog 116 #[u w4, u w3, u v2] (rt (u q)), CallsV Tryz.prog (.func 117) #[slU 1 3, slV 3, u q] (HD [w0, w1, w2, w3, w4] [v0, v1, v2, v3, v4]) (rt (bb true)) (HD [x0, x1, x2, x3, x4] [v0, v1, v2, v3, v4]), CallsV Tryz.prog (.func 118) #[slU 1 3, slV 3] (HD [x0, x1, x2, x3, x4] [v0, v1, v2, v3, v4]) (rt (bb true)) (HD [y0, y1, y2, y3, y4] [v0, v1, v2, v3, v4])]) := by kernel_rfl
theorem dg_312 (w0 w1 w2 w3 w4 v0 v1 v2 v3 v4 q x0 x1 x2 x3 x4 y0 y1 y2 y3 y4 z0 z1 z2 z3 z4 : Nat) : runB Tryz.prog 112 #[slU 1 3, slV 3] (HD [w0, w1, w2, w3, w4] [v0, v1, v2, v3, v4]) [] [(116, rt (u q))] [(117, rt (bb true), HD [x0, x1, x2, x3, x4] [v0, v1, v2, v3, v4]), (118, rt (bb false), HD [y0, y1, y2, y3, y4] [v0, v1, v2, v3, v4]), (118, rt (bb true), HD [z0, z1, z2, z3, z4] [v0, v1, v2, v3, v4])] =
    some (rt (dec1 (dec1 (u q))), HD [z0, z1, z2, z3, z4] [v0, v1, v2, v3, v4], [PureX Tryz.prog 116 #[u w4, u w3, u v2] (rt (u q)), CallsV Tryz.prog (.func 117) #[slU 1 3, slV 3, u q] (HD [w0, w1, w2, w3, w4] [v0, v1, v2, v3, v4]) (rt (bb true)) (HD [x0, x1, x2, x3, x4] [v0, v1, v2, v3, v4]), CallsV Tryz.prog (.func 118) #[slU 1 3, slV 3] (HD [x0, x1, x2, x3, x4] [v0, v1, v2, v3, v4]) (rt (bb false)) (HD [y0, y1, y2, y3, y4] [v0, v1, v2, v3, v4]), CallsV Tryz.prog (.func 118) #[slU 1 3, slV 3] (HD [y0, y1, y2, y3, y4] [v0, v1, v2, v3, v4]) (rt (bb true)) (HD [z0, z1, z2, z3, z4] [v0, v1, v2, v3, v4])]) := by kernel_rfl
theorem dg_400 (w0 w1 w2 w3 w4 v0 v1 v2 v3 v4 q x0 x1 x2 x3 x4 : Nat) : runB Tryz.prog 112 #[slU 0 4, slV 4] (HD [w0, w1, w2, w3, w4] [v0, v1, v2, v3, v4]) [] [(116, rt (u q))] [(117, rt (bb false), HD [x0, x1, x2, x3, x4] [v0, v1, v2, v3, v4])] =
    some (rt (u q), HD [x0, x1, x2, x3, x4] [v0, v1, v2, v3, v4], [PureX Tryz.prog 116 #[u w4, u w3, u v3] (rt (u q)), CallsV Tryz.prog (.func 117) #[slU 0 4, slV 4, u q] (HD [w0, w1, w2, w3, w4] [v0, v1, v2, v3, v4]) (rt (bb false)) (HD [x0, x1, x2, x3, x4] [v0, v1, v2, v3, v4])]) := by kernel_rfl
theorem dg_401 (w0 w1 w2 w3 w4 v0 v1 v2 v3 v4 q x0 x1 x2 x3 x4 y0 y1 y2 y3 y4 : Nat) : runB Tryz.prog 112 #[slU 0 4, slV 4] (HD [w0, w1, w2, w3, w4] [v0, v1, v2, v3, v4]) [] [(116, rt (u q))] [(117, rt (bb true), HD [x0, x1, x2, x3, x4] [v0, v1, v2, v3, v4]), (118, rt (bb true), HD [y0, y1, y2, y3, y4] [v0, v1, v2, v3, v4])] =
    some (rt (dec1 (u q)), HD [y0, y1, y2, y3, y4] [v0, v1, v2, v3, v4], [PureX Tryz.prog 116 #[u w4, u w3, u v3] (rt (u q)), CallsV Tryz.prog (.func 117) #[slU 0 4, slV 4, u q] (HD [w0, w1, w2, w3, w4] [v0, v1, v2, v3, v4]) (rt (bb true)) (HD [x0, x1, x2, x3, x4] [v0, v1, v2, v3, v4]), CallsV Tryz.prog (.func 118) #[slU 0 4, slV 4] (HD [x0, x1, x2, x3, x4] [v0, v1, v2, v3, v4]) (rt (bb true)) (HD [y0, y1, y2, y3, y4] [v0, v1, v2, v3, v4])]) := by kernel_rfl
theorem dg_402 (w0 w1 w2 w3 w4 v0 v1 v2 v3 v4 q x0 x1 x2 x3 x4 y0 y1 y2 y3 y4 z0 z1 z2 z3 z4 : Nat) : runB Tryz.prog 112 #[slU 0 4, slV 4] (HD [w0, w1, w2, w3, w4] [v0, v1, v2, v3, v4]) [] [(116, rt (u q))] [(117, rt (bb true), HD [x0, x1, x2, x3, x4] [v0, v1, v2, v3, v4]), (118, rt (bb false), HD [y0, y1, y2, y3, y4] [v0, v1, v2, v3, v4]), (118, rt (bb true), HD [z0, z1, z2, z3, z4] [v0, v1, v2, v3, v4])] =
    some (rt (dec1 (dec1 (u q))), HD [z0, z1, z2, z3, z4] [v0, v1, v2, v3, v4], [PureX Tryz.prog 116 #[u w4, u w3, u v3] (rt (u q)), CallsV Tryz.prog (.func 117) #[slU 0 4, slV 4, u q] (HD [w0, w1, w2, w3, w4] [v0, v1, v2, v3, v4]) (rt (bb true)) (HD [x0, x1, x2, x3, x4] [v0, v1, v2, v3, v4]), CallsV Tryz.prog (.func 118) #[slU 0 4, slV 4] (HD [x0, x1, x2, x3, x4] [v0, v1, v2, v3, v4]) (rt (bb false)) (HD [y0, y1, y2, y3, y4] [v0, v1, v2, v3, v4]), CallsV Tryz.prog (.func 118) #[slU 0 4, slV 4] (HD [y0, y1, y2, y3, y4] [v0, v1, v2, v3, v4]) (rt (bb true)) (HD [z0, z1, z2, z3, z4] [v0, v1, v2, v3, v4])]) := by kernel_rfl

end Go.Proofs.YtcmfgabhgodlaaaGreatDoor

/- One digit of a quotient, wherever it is: from what takes away and gives back. -/
namespace Go.Proofs.YtcmfgabhgodlaaaGreatDoor
open Go Go.RowKit
set_option linter.unusedSimpArgs false
set_option linter.unusedVariables false

theorem CallsV.perm {P : Program} {f : Nat} {args : Array Value} {H H' G : Hp} {r : Res} (h : CallsV P (.func f) args H r H') (hl : ∀ i, look G i = look H' i) : CallsV P (.func f) args H r G := by
  intro β w hR
  refine (h β w hR).mono ?_
  rintro e w' ⟨β', hb, he, hR'⟩
  exact ⟨β', hb, he, hR'.congr (fun _ _ => rfl) hl⟩
theorem HD_HE (x v : List Nat) (i : Nat) : look (HD x v) i = look (HE x v) i := by
  simp only [HD, HE, look]
  by_cases h5 : 1005 = i
  · have h6 : 1006 ≠ i := by omega
    rw [if_neg h6, if_pos h5, if_pos h5]
  · rw [if_neg h5, if_neg h5]

def itsOf (q : Nat) : List Nat → List Nat → List (Nat × Nat × Nat)
  | w :: r, v :: vs => (w, v * q / 18446744073709551616, v * q % 18446744073709551616) :: itsOf q r vs
  | _, _ => []
theorem itsOf_fine {q : Nat} (hq : q < 18446744073709551616) : ∀ (x v : List Nat), sm64 x → sm64 v → fineI (itsOf q x v)
  | [], v, _, _ => by cases v <;> exact fun _ h => (by cases h)
  | w :: r, [], _, _ => fun _ h => (by cases h)
  | w :: r, v :: vs, hx, hv => by
    intro e he
    rcases List.mem_cons.1 he with rfl | he
    · have h1 := hv v List.mem_cons_self
      have h2 : v * q ≤ 340282366920938463426481119284349108225 := Nat.mul_le_mul (Nat.le_of_lt_succ h1) (Nat.le_of_lt_succ hq)
      refine ⟨hx w List.mem_cons_self, Nat.mod_lt _ (Nat.succ_pos _), ?_⟩
      simp only
      omega
    · exact itsOf_fine hq r vs (fun y hy => hx y (List.mem_cons_of_mem _ hy)) (fun y hy => hv y (List.mem_cons_of_mem _ hy)) e he
theorem itsOf_pv {q : Nat} : ∀ (x v : List Nat), x.length = v.length → pvI (itsOf q x v) = q * nvl v
  | [], [], _ => by simp [itsOf, pvI, nvl]
  | [], _ :: _, h => by simp at h
  | _ :: _, [], h => by simp at h
  | w :: r, v :: vs, h => by
    simp only [itsOf, pvI, nvl]
    rw [itsOf_pv r vs (by simpa using h), Nat.mul_add, Nat.mul_left_comm q, Nat.mul_comm q v]
    omega
theorem itsOf_fst {q : Nat} : ∀ (x v : List Nat), x.length = v.length → (itsOf q x v).map (·.1) = x ∧ (itsOf q x v).length = x.length
  | [], [], _ => ⟨rfl, rfl⟩
  | [], _ :: _, h => by simp at h
  | _ :: _, [], h => by simp at h
  | w :: r, v :: vs, h => by
    obtain ⟨h1, h2⟩ := itsOf_fst (q := q) r vs (by simpa using h)
    simp only [itsOf, List.map_cons, List.length_cons, h1, h2]
    exact ⟨trivial, trivial⟩
theorem taO_le {q : Nat} {x v : List Nat} (hq : q < 18446744073709551616) (hx : sm64 x) (hv : sm64 v) : decide (1 < taO (itsOf q x v) 0 0) = false := by
  have := (ta_all (itsOf q x v) 0 0 (itsOf_fine hq x v hx hv) (by omega) (by omega)).2.2.1
  exact decide_eq_false (by omega)
theorem pbO_le : ∀ (x v : List Nat) (c : Nat), sm64 x → sm64 v → c ≤ 1 → pbO x v c ≤ 1
  | [], v, c, _, _, hc => by cases v <;> exact hc
  | w :: r, [], c, _, _, hc => hc
  | w :: r, v :: vs, c, hx, hv, hc => by
    rw [pbO]
    have h1 := hx w List.mem_cons_self
    have h2 := hv v List.mem_cons_self
    exact pbO_le r vs _ (fun y hy => hx y (List.mem_cons_of_mem _ hy)) (fun y hy => hv y (List.mem_cons_of_mem _ hy)) (by omega)
theorem pbO_le' {x v : List Nat} (hx : sm64 x) (hv : sm64 v) : decide (1 < pbO x v 0) = false := by
  have := pbO_le x v 0 hx hv (by omega)
  exact decide_eq_false (by omega)

section
variable {P : Program} {args : Array Value} {H0 : Hp} {pre post v : List Nat}
theorem tac_of {x vs : List Nat} {top q k : Nat} (hq : q < 18446744073709551616) (hx : sm64 x) (hv : sm64 vs) (ht : top < 18446744073709551616) (hl : x.length = vs.length) (hk : x.length = k)
    (hc : CallsV P (.func 117) args H0 (rt (bb (Int.ofNat (tkB (itsOf q x vs) top) != 0))) (HE (pre ++ tkW (itsOf q x vs) top ++ post) v)) :
    ∃ A B, A < 18446744073709551616 ^ (k + 1) ∧ B ≤ 1 ∧ A + q * nvl vs = nvl (x ++ [top]) + B * 18446744073709551616 ^ (k + 1) ∧
      CallsV P (.func 117) args H0 (rt (bb (Int.ofNat B != 0))) (HD (pre ++ ws (k + 1) A ++ post) v) := by
  obtain ⟨k1, k2, k3, k4⟩ := tk_all (itsOf_fine hq x vs hx hv) ht
  obtain ⟨e1, e2⟩ := itsOf_fst (q := q) x vs hl
  rw [itsOf_pv x vs hl, e1, e2, hk] at k1
  rw [e2, hk] at k4
  have h5 := nvl_lt _ k3
  have h6 := ws_nvl _ k3
  rw [k4] at h5 h6
  exact ⟨_, _, h5, k2, k1, by rw [h6]; exact hc.perm (HD_HE _ _)⟩
theorem pbc_of {x vs : List Nat} {k : Nat} (hx : sm64 x) (hv : sm64 vs) (hl : x.length = vs.length + 1) (hk : vs.length = k)
    (hc : CallsV P (.func 118) args H0 (rt (bb (Int.ofNat (pbC x vs 0) != 0))) (HE (pre ++ pbW x vs 0 ++ post) v)) :
    ∃ A C, A < 18446744073709551616 ^ (k + 1) ∧ C ≤ 1 ∧ A + C * 18446744073709551616 ^ (k + 1) = nvl x + nvl vs ∧
      CallsV P (.func 118) args H0 (rt (bb (Int.ofNat C != 0))) (HD (pre ++ ws (k + 1) A ++ post) v) := by
  obtain ⟨k1, k2, k3, k4⟩ := pb_all x vs 0 hx hv (by omega) hl
  have hk2 : x.length = k + 1 := by omega
  rw [hk2] at k1 k4
  have h5 := nvl_lt _ k3
  have h6 := ws_nvl _ k3
  rw [k4] at h5 h6
  exact ⟨_, _, h5, k2, k1, by rw [h6]; exact hc.perm (HD_HE _ _)⟩

theorem dec1_u {q : Nat} (hq : q + 1 < 18446744073709551616) : dec1 (u (q + 1)) = u q := by
  unfold dec1 u
  simp only
  congr 1
  rw [IntKind.wrap_u64]
  show (((q + 1 : Nat) : Int) - 1) % 18446744073709551616 = (q : Int)
  omega

/-- One digit. -/
theorem dig_of {a a9 : Array Value} {rep : Nat → List Nat} {X V q T : Nat}
    (h139 : ∃ A B, A < T ∧ B ≤ 1 ∧ A + q * V = X + B * T ∧ CallsV P (.func 117) a9 H0 (rt (bb (Int.ofNat B != 0))) (HD (rep A) v))
    (h140 : ∀ A, A < T → ∃ A2 C, A2 < T ∧ C ≤ 1 ∧ A2 + C * T = A + V ∧ CallsV P (.func 118) a (HD (rep A) v) (rt (bb (Int.ofNat C != 0))) (HD (rep A2) v))
    (d0 : ∀ A, CallsV P (.func 117) a9 H0 (rt (bb false)) (HD (rep A) v) → CallsV P (.func 112) a H0 (rt (u q)) (HD (rep A) v))
    (d1 : ∀ A A2, CallsV P (.func 117) a9 H0 (rt (bb true)) (HD (rep A) v) → CallsV P (.func 118) a (HD (rep A) v) (rt (bb true)) (HD (rep A2) v) → CallsV P (.func 112) a H0 (rt (dec1 (u q))) (HD (rep A2) v))
    (d2 : ∀ A A2 A3, CallsV P (.func 117) a9 H0 (rt (bb true)) (HD (rep A) v) → CallsV P (.func 118) a (HD (rep A) v) (rt (bb false)) (HD (rep A2) v) → CallsV P (.func 118) a (HD (rep A2) v) (rt (bb true)) (HD (rep A3) v) → CallsV P (.func 112) a H0 (rt (dec1 (dec1 (u q)))) (HD (rep A3) v))
    (hq1 : X / V ≤ q) (hq2 : q ≤ X / V + 2) (hq3 : q < 18446744073709551616) (hV : 0 < V) (hVT : V < T) :
    CallsV P (.func 112) a H0 (rt (u (X / V))) (HD (rep (X % V)) v) := by
  obtain ⟨A, B, hA, hB, hAB, hc⟩ := h139
  have hle : ∀ D z : Nat, D < z + 1 → D = z ∨ D < z := fun D z h => by omega
  have hpos : ∀ D z : Nat, D < z → ∃ y, z = y + 1 := fun D z h => ⟨z - 1, by omega⟩
  have hsq : ∀ D z : Nat, D < z + 1 → z + 1 + 1 ≤ D + 2 → z = D := fun D z h1 h2 => by omega
  rcases Nat.eq_or_lt_of_le hq1 with h | h
  · obtain ⟨rfl, rfl⟩ := dig_zero hAB hB hA h.symm hV
    rw [h]
    exact d0 _ hc
  · have hB1 := dig_more hAB hB hA h hV
    subst hB1
    rw [Nat.one_mul] at hAB
    obtain ⟨q', rfl⟩ := hpos _ _ h
    obtain ⟨A2, C, hA2, hC, hAC, hc2⟩ := h140 A hA
    obtain ⟨g1, g2⟩ := dig_back hAB hAC hC hA2 hV hVT
    rcases hle _ _ h with h' | h'
    · obtain ⟨rfl, rfl⟩ := g1 h'.symm
      rw [h', ← dec1_u hq3]
      exact d1 _ _ hc hc2
    · obtain ⟨rfl, hAB2⟩ := g2 h'
      obtain ⟨q2, rfl⟩ := hpos _ _ h'
      obtain ⟨A3, C3, hA3, hC3, hAC3, hc3⟩ := h140 A2 hA2
      obtain ⟨g3, -⟩ := dig_back hAB2 hAC3 hC3 hA3 hV hVT
      have hq2' : q2 = X / V := hsq _ _ h' hq2
      obtain ⟨rfl, rfl⟩ := g3 hq2'
      rw [← hq2', ← dec1_u (q := q2) (by omega), ← dec1_u hq3]
      exact d2 _ _ _ hc hc2 hc3
end

theorem guess_c {h l y : Nat} (hy : 9223372036854775808 ≤ y) (hy2 : y < 18446744073709551616) (hh : h < 18446744073709551616) (hl : l < 18446744073709551616) : PureX Tryz.prog 116 #[u h, u l, u y] (rt (u (gq h l y))) := by
  intro w _
  refine (guess_x h l y hy hy2 hh hl w).mono ?_
  rintro e w' ⟨rfl, hB⟩
  exact ⟨rfl, hB⟩

/-- The guess, by the words of X and V. -/
theorem gq_both {xl vl' : List Nat} {h l y : Nat} (hx : sm64 xl) (hv : sm64 vl') (hlen : xl.length = vl'.length) (hl : l < 18446744073709551616) (hy : 9223372036854775808 ≤ y)
    (hlt : nvl (xl ++ [l, h]) < nvl (vl' ++ [y]) * 18446744073709551616) :
    nvl (xl ++ [l, h]) / nvl (vl' ++ [y]) ≤ gq h l y ∧ gq h l y ≤ nvl (xl ++ [l, h]) / nvl (vl' ++ [y]) + 2 ∧ 0 < nvl (vl' ++ [y]) := by
  have e1 : nvl (xl ++ [l, h]) = (h * 18446744073709551616 + l) * 18446744073709551616 ^ xl.length + nvl xl := by
    rw [nvl_append]
    simp only [nvl, Nat.mul_zero, Nat.add_zero]
    rw [Nat.mul_comm (_ ^ _), Nat.add_comm, Nat.add_comm l, Nat.mul_comm 18446744073709551616 h]
  have e2 : nvl (vl' ++ [y]) = y * 18446744073709551616 ^ xl.length + nvl vl' := by
    rw [nvl_append, nvl_one, hlen, Nat.mul_comm (_ ^ _), Nat.add_comm]
  have hX := nvl_lt xl hx
  have hV := nvl_lt vl' hv
  rw [← hlen] at hV
  have hP : 0 < 18446744073709551616 ^ xl.length := Nat.pow_pos (by omega)
  rw [e1, e2] at hlt ⊢
  refine ⟨gq_ge hP hy hX hV hlt, gq_le hP hy hl hV, ?_⟩
  have := Nat.mul_pos (show 0 < y by omega) hP
  omega

end Go.Proofs.YtcmfgabhgodlaaaGreatDoor

/- One digit of a quotient, at each place. -/
namespace Go.Proofs.YtcmfgabhgodlaaaGreatDoor
open Go Go.RowKit
set_option linter.unusedSimpArgs false
set_option linter.unusedVariables false

theorem sm_nil : sm64 [] := fun _ h => (by cases h)
theorem sm_cons {x : Nat} {r : List Nat} (h : x < 18446744073709551616) (hr : sm64 r) : sm64 (x :: r) := fun y hy => by
  rcases List.mem_cons.1 hy with rfl | hy
  · exact h
  · exact hr y hy
theorem hVT_of {v : List Nat} {k : Nat} (hv : sm64 v) (hk : v.length = k) : nvl v < 18446744073709551616 ^ (k + 1) := by
  subst hk
  exact Nat.lt_of_lt_of_le (nvl_lt _ hv) (Nat.pow_le_pow_right (by omega) (by omega))

set_option maxRecDepth 100000 in
theorem dgc_10 {w0 w1 w2 w3 w4 v0 v1 v2 v3 v4 : Nat} (h0 : w0 < 18446744073709551616) (h1 : w1 < 18446744073709551616) (h2 : w2 < 18446744073709551616) (h3 : w3 < 18446744073709551616) (h4 : w4 < 18446744073709551616) (g0 : v0 < 18446744073709551616) (g1 : v1 < 18446744073709551616) (g2 : v2 < 18446744073709551616) (g3 : v3 < 18446744073709551616) (g4 : v4 < 18446744073709551616) (hy : 9223372036854775808 ≤ v0) (hlt : nvl [w0, w1] < nvl [v0] * 18446744073709551616) :
    CallsV Tryz.prog (.func 112) #[slU 0 1, slV 1] (HD [w0, w1, w2, w3, w4] [v0, v1, v2, v3, v4]) (rt (u (nvl [w0, w1] / nvl [v0]))) (HD ([] ++ ws (1 + 1) (nvl [w0, w1] % nvl [v0]) ++ [w2, w3, w4]) [v0, v1, v2, v3, v4]) := by
  have hq3 := gq_lt (h := w1) hy h0
  have hqg := guess_c hy g0 h1 h0
  obtain ⟨hq1, hq2, hV⟩ := gq_both (xl := []) (vl' := []) (h := w1) (l := w0) (y := v0) sm_nil sm_nil rfl h0 hy hlt
  generalize gq w1 w0 v0 = q at *
  refine dig_of (a9 := #[slU 0 1, slV 1, u q]) (rep := fun A => [] ++ ws (1 + 1) A ++ [w2, w3, w4]) (T := 18446744073709551616 ^ (1 + 1)) ?_ ?_ ?_ ?_ ?_ hq1 hq2 hq3 hV (hVT_of (sm_cons g0 sm_nil) rfl)
  · exact tac_of (x := [w0]) (vs := [v0]) (top := w1) (k := 1) hq3 (sm_cons h0 sm_nil) (sm_cons g0 sm_nil) h1 rfl rfl (runB_calls mix (ta_10 w0 w1 w2 w3 w4 v0 v1 v2 v3 v4 q (v0 * q / 18446744073709551616) (v0 * q % 18446744073709551616)) ⟨mul64_c g0 hq3, taO_le (q := q) (x := [w0]) (v := [v0]) hq3 (sm_cons h0 sm_nil) (sm_cons g0 sm_nil), trivial⟩ (by kernel_rfl) (by kernel_rfl) rfl)
  · intro A hA
    have r := runB_calls mix (pb_10 (A % 18446744073709551616) (A / 18446744073709551616 % 18446744073709551616) w2 w3 w4 v0 v1 v2 v3 v4) ⟨pbO_le' (x := ws 1 A) (v := [v0]) (ws_sm _ _) (sm_cons g0 sm_nil), trivial⟩ (by kernel_rfl) (by kernel_rfl) rfl
    obtain ⟨A2, C, k1, k2, k3, k4⟩ := pbc_of (P := Tryz.prog) (args := #[slU 0 1, slV 1]) (H0 := HD ([] ++ ws (1 + 1) A ++ [w2, w3, w4]) [v0, v1, v2, v3, v4]) (pre := []) (post := [w2, w3, w4]) (v := [v0, v1, v2, v3, v4]) (x := ws (1 + 1) A) (vs := [v0]) (k := 1) (ws_sm _ _) (sm_cons g0 sm_nil) rfl rfl r
    rw [nvl_ws _ _ hA] at k3
    exact ⟨A2, C, k1, k2, k3, k4⟩
  · intro A c1
    exact runB_calls mix (dg_100 w0 w1 w2 w3 w4 v0 v1 v2 v3 v4 q (A % 18446744073709551616) (A / 18446744073709551616 % 18446744073709551616) w2 w3 w4) ⟨hqg, c1, trivial⟩ (by kernel_rfl) (by kernel_rfl) rfl
  · intro A A2 c1 c2
    exact runB_calls mix (dg_101 w0 w1 w2 w3 w4 v0 v1 v2 v3 v4 q (A % 18446744073709551616) (A / 18446744073709551616 % 18446744073709551616) w2 w3 w4 (A2 % 18446744073709551616) (A2 / 18446744073709551616 % 18446744073709551616) w2 w3 w4) ⟨hqg, c1, c2, trivial⟩ (by kernel_rfl) (by kernel_rfl) rfl
  · intro A A2 A3 c1 c2 c3
    exact runB_calls mix (dg_102 w0 w1 w2 w3 w4 v0 v1 v2 v3 v4 q (A % 18446744073709551616) (A / 18446744073709551616 % 18446744073709551616) w2 w3 w4 (A2 % 18446744073709551616) (A2 / 18446744073709551616 % 18446744073709551616) w2 w3 w4 (A3 % 18446744073709551616) (A3 / 18446744073709551616 % 18446744073709551616) w2 w3 w4) ⟨hqg, c1, c2, c3, trivial⟩ (by kernel_rfl) (by kernel_rfl) rfl
set_option maxRecDepth 100000 in
theorem dgc_11 {w0 w1 w2 w3 w4 v0 v1 v2 v3 v4 : Nat} (h0 : w0 < 18446744073709551616) (h1 : w1 < 18446744073709551616) (h2 : w2 < 18446744073709551616) (h3 : w3 < 18446744073709551616) (h4 : w4 < 18446744073709551616) (g0 : v0 < 18446744073709551616) (g1 : v1 < 18446744073709551616) (g2 : v2 < 18446744073709551616) (g3 : v3 < 18446744073709551616) (g4 : v4 < 18446744073709551616) (hy : 9223372036854775808 ≤ v0) (hlt : nvl [w1, w2] < nvl [v0] * 18446744073709551616) :
    CallsV Tryz.prog (.func 112) #[slU 1 1, slV 1] (HD [w0, w1, w2, w3, w4] [v0, v1, v2, v3, v4]) (rt (u (nvl [w1, w2] / nvl [v0]))) (HD ([w0] ++ ws (1 + 1) (nvl [w1, w2] % nvl [v0]) ++ [w3, w4]) [v0, v1, v2, v3, v4]) := by
  have hq3 := gq_lt (h := w2) hy h1
  have hqg := guess_c hy g0 h2 h1
  obtain ⟨hq1, hq2, hV⟩ := gq_both (xl := []) (vl' := []) (h := w2) (l := w1) (y := v0) sm_nil sm_nil rfl h1 hy hlt
  generalize gq w2 w1 v0 = q at *
  refine dig_of (a9 := #[slU 1 1, slV 1, u q]) (rep := fun A => [w0] ++ ws (1 + 1) A ++ [w3, w4]) (T := 18446744073709551616 ^ (1 + 1)) ?_ ?_ ?_ ?_ ?_ hq1 hq2 hq3 hV (hVT_of (sm_cons g0 sm_nil) rfl)
  · exact tac_of (x := [w1]) (vs := [v0]) (top := w2) (k := 1) hq3 (sm_cons h1 sm_nil) (sm_cons g0 sm_nil) h2 rfl rfl (runB_calls mix (ta_11 w0 w1 w2 w3 w4 v0 v1 v2 v3 v4 q (v0 * q / 18446744073709551616) (v0 * q % 18446744073709551616)) ⟨mul64_c g0 hq3, taO_le (q := q) (x := [w1]) (v := [v0]) hq3 (sm_cons h1 sm_nil) (sm_cons g0 sm_nil), trivial⟩ (by kernel_rfl) (by kernel_rfl) rfl)
  · intro A hA
    have r := runB_calls mix (pb_11 w0 (A % 18446744073709551616) (A / 18446744073709551616 % 18446744073709551616) w3 w4 v0 v1 v2 v3 v4) ⟨pbO_le' (x := ws 1 A) (v := [v0]) (ws_sm _ _) (sm_cons g0 sm_nil), trivial⟩ (by kernel_rfl) (by kernel_rfl) rfl
    obtain ⟨A2, C, k1, k2, k3, k4⟩ := pbc_of (P := Tryz.prog) (args := #[slU 1 1, slV 1]) (H0 := HD ([w0] ++ ws (1 + 1) A ++ [w3, w4]) [v0, v1, v2, v3, v4]) (pre := [w0]) (post := [w3, w4]) (v := [v0, v1, v2, v3, v4]) (x := ws (1 + 1) A) (vs := [v0]) (k := 1) (ws_sm _ _) (sm_cons g0 sm_nil) rfl rfl r
    rw [nvl_ws _ _ hA] at k3
    exact ⟨A2, C, k1, k2, k3, k4⟩
  · intro A c1
    exact runB_calls mix (dg_110 w0 w1 w2 w3 w4 v0 v1 v2 v3 v4 q w0 (A % 18446744073709551616) (A / 18446744073709551616 % 18446744073709551616) w3 w4) ⟨hqg, c1, trivial⟩ (by kernel_rfl) (by kernel_rfl) rfl
  · intro A A2 c1 c2
    exact runB_calls mix (dg_111 w0 w1 w2 w3 w4 v0 v1 v2 v3 v4 q w0 (A % 18446744073709551616) (A / 18446744073709551616 % 18446744073709551616) w3 w4 w0 (A2 % 18446744073709551616) (A2 / 18446744073709551616 % 18446744073709551616) w3 w4) ⟨hqg, c1, c2, trivial⟩ (by kernel_rfl) (by kernel_rfl) rfl
  · intro A A2 A3 c1 c2 c3
    exact runB_calls mix (dg_112 w0 w1 w2 w3 w4 v0 v1 v2 v3 v4 q w0 (A % 18446744073709551616) (A / 18446744073709551616 % 18446744073709551616) w3 w4 w0 (A2 % 18446744073709551616) (A2 / 18446744073709551616 % 18446744073709551616) w3 w4 w0 (A3 % 18446744073709551616) (A3 / 18446744073709551616 % 18446744073709551616) w3 w4) ⟨hqg, c1, c2, c3, trivial⟩ (by kernel_rfl) (by kernel_rfl) rfl
set_option maxRecDepth 100000 in
theorem dgc_12 {w0 w1 w2 w3 w4 v0 v1 v2 v3 v4 : Nat} (h0 : w0 < 18446744073709551616) (h1 : w1 < 18446744073709551616) (h2 : w2 < 18446744073709551616) (h3 : w3 < 18446744073709551616) (h4 : w4 < 18446744073709551616) (g0 : v0 < 18446744073709551616) (g1 : v1 < 18446744073709551616) (g2 : v2 < 18446744073709551616) (g3 : v3 < 18446744073709551616) (g4 : v4 < 18446744073709551616) (hy : 9223372036854775808 ≤ v0) (hlt : nvl [w2, w3] < nvl [v0] * 18446744073709551616) :
    CallsV Tryz.prog (.func 112) #[slU 2 1, slV 1] (HD [w0, w1, w2, w3, w4] [v0, v1, v2, v3, v4]) (rt (u (nvl [w2, w3] / nvl [v0]))) (HD ([w0, w1] ++ ws (1 + 1) (nvl [w2, w3] % nvl [v0]) ++ [w4]) [v0, v1, v2, v3, v4]) := by
  have hq3 := gq_lt (h := w3) hy h2
  have hqg := guess_c hy g0 h3 h2
  obtain ⟨hq1, hq2, hV⟩ := gq_both (xl := []) (vl' := []) (h := w3) (l := w2) (y := v0) sm_nil sm_nil rfl h2 hy hlt
  generalize gq w3 w2 v0 = q at *
  refine dig_of (a9 := #[slU 2 1, slV 1, u q]) (rep := fun A => [w0, w1] ++ ws (1 + 1) A ++ [w4]) (T := 18446744073709551616 ^ (1 + 1)) ?_ ?_ ?_ ?_ ?_ hq1 hq2 hq3 hV (hVT_of (sm_cons g0 sm_nil) rfl)
  · exact tac_of (x := [w2]) (vs := [v0]) (top := w3) (k := 1) hq3 (sm_cons h2 sm_nil) (sm_cons g0 sm_nil) h3 rfl rfl (runB_calls mix (ta_12 w0 w1 w2 w3 w4 v0 v1 v2 v3 v4 q (v0 * q / 18446744073709551616) (v0 * q % 18446744073709551616)) ⟨mul64_c g0 hq3, taO_le (q := q) (x := [w2]) (v := [v0]) hq3 (sm_cons h2 sm_nil) (sm_cons g0 sm_nil), trivial⟩ (by kernel_rfl) (by kernel_rfl) rfl)
  · intro A hA
    have r := runB_calls mix (pb_12 w0 w1 (A % 18446744073709551616) (A / 18446744073709551616 % 18446744073709551616) w4 v0 v1 v2 v3 v4) ⟨pbO_le' (x := ws 1 A) (v := [v0]) (ws_sm _ _) (sm_cons g0 sm_nil), trivial⟩ (by kernel_rfl) (by kernel_rfl) rfl
    obtain ⟨A2, C, k1, k2, k3, k4⟩ := pbc_of (P := Tryz.prog) (args := #[slU 2 1, slV 1]) (H0 := HD ([w0, w1] ++ ws (1 + 1) A ++ [w4]) [v0, v1, v2, v3, v4]) (pre := [w0, w1]) (post := [w4]) (v := [v0, v1, v2, v3, v4]) (x := ws (1 + 1) A) (vs := [v0]) (k := 1) (ws_sm _ _) (sm_cons g0 sm_nil) rfl rfl r
    rw [nvl_ws _ _ hA] at k3
    exact ⟨A2, C, k1, k2, k3, k4⟩
  · intro A c1
    exact runB_calls mix (dg_120 w0 w1 w2 w3 w4 v0 v1 v2 v3 v4 q w0 w1 (A % 18446744073709551616) (A / 18446744073709551616 % 18446744073709551616) w4) ⟨hqg, c1, trivial⟩ (by kernel_rfl) (by kernel_rfl) rfl
  · intro A A2 c1 c2
    exact runB_calls mix (dg_121 w0 w1 w2 w3 w4 v0 v1 v2 v3 v4 q w0 w1 (A % 18446744073709551616) (A / 18446744073709551616 % 18446744073709551616) w4 w0 w1 (A2 % 18446744073709551616) (A2 / 18446744073709551616 % 18446744073709551616) w4) ⟨hqg, c1, c2, trivial⟩ (by kernel_rfl) (by kernel_rfl) rfl
  · intro A A2 A3 c1 c2 c3
    exact runB_calls mix (dg_122 w0 w1 w2 w3 w4 v0 v1 v2 v3 v4 q w0 w1 (A % 18446744073709551616) (A / 18446744073709551616 % 18446744073709551616) w4 w0 w1 (A2 % 18446744073709551616) (A2 / 18446744073709551616 % 18446744073709551616) w4 w0 w1 (A3 % 18446744073709551616) (A3 / 18446744073709551616 % 18446744073709551616) w4) ⟨hqg, c1, c2, c3, trivial⟩ (by kernel_rfl) (by kernel_rfl) rfl
set_option maxRecDepth 100000 in
theorem dgc_13 {w0 w1 w2 w3 w4 v0 v1 v2 v3 v4 : Nat} (h0 : w0 < 18446744073709551616) (h1 : w1 < 18446744073709551616) (h2 : w2 < 18446744073709551616) (h3 : w3 < 18446744073709551616) (h4 : w4 < 18446744073709551616) (g0 : v0 < 18446744073709551616) (g1 : v1 < 18446744073709551616) (g2 : v2 < 18446744073709551616) (g3 : v3 < 18446744073709551616) (g4 : v4 < 18446744073709551616) (hy : 9223372036854775808 ≤ v0) (hlt : nvl [w3, w4] < nvl [v0] * 18446744073709551616) :
    CallsV Tryz.prog (.func 112) #[slU 3 1, slV 1] (HD [w0, w1, w2, w3, w4] [v0, v1, v2, v3, v4]) (rt (u (nvl [w3, w4] / nvl [v0]))) (HD ([w0, w1, w2] ++ ws (1 + 1) (nvl [w3, w4] % nvl [v0]) ++ []) [v0, v1, v2, v3, v4]) := by
  have hq3 := gq_lt (h := w4) hy h3
  have hqg := guess_c hy g0 h4 h3
  obtain ⟨hq1, hq2, hV⟩ := gq_both (xl := []) (vl' := []) (h := w4) (l := w3) (y := v0) sm_nil sm_nil rfl h3 hy hlt
  generalize gq w4 w3 v0 = q at *
  refine dig_of (a9 := #[slU 3 1, slV 1, u q]) (rep := fun A => [w0, w1, w2] ++ ws (1 + 1) A ++ []) (T := 18446744073709551616 ^ (1 + 1)) ?_ ?_ ?_ ?_ ?_ hq1 hq2 hq3 hV (hVT_of (sm_cons g0 sm_nil) rfl)
  · exact tac_of (x := [w3]) (vs := [v0]) (top := w4) (k := 1) hq3 (sm_cons h3 sm_nil) (sm_cons g0 sm_nil) h4 rfl rfl (runB_calls mix (ta_13 w0 w1 w2 w3 w4 v0 v1 v2 v3 v4 q (v0 * q / 18446744073709551616) (v0 * q % 18446744073709551616)) ⟨mul64_c g0 hq3, taO_le (q := q) (x := [w3]) (v := [v0]) hq3 (sm_cons h3 sm_nil) (sm_cons g0 sm_nil), trivial⟩ (by kernel_rfl) (by kernel_rfl) rfl)
  · intro A hA
    have r := runB_calls mix (pb_13 w0 w1 w2 (A % 18446744073709551616) (A / 18446744073709551616 % 18446744073709551616) v0 v1 v2 v3 v4) ⟨pbO_le' (x := ws 1 A) (v := [v0]) (ws_sm _ _) (sm_cons g0 sm_nil), trivial⟩ (by kernel_rfl) (by kernel_rfl) rfl
    obtain ⟨A2, C, k1, k2, k3, k4⟩ := pbc_of (P := Tryz.prog) (args := #[slU 3 1, slV 1]) (H0 := HD ([w0, w1, w2] ++ ws (1 + 1) A ++ []) [v0, v1, v2, v3, v4]) (pre := [w0, w1, w2]) (post := []) (v := [v0, v1, v2, v3, v4]) (x := ws (1 + 1) A) (vs := [v0]) (k := 1) (ws_sm _ _) (sm_cons g0 sm_nil) rfl rfl r
    rw [nvl_ws _ _ hA] at k3
    exact ⟨A2, C, k1, k2, k3, k4⟩
  · intro A c1
    exact runB_calls mix (dg_130 w0 w1 w2 w3 w4 v0 v1 v2 v3 v4 q w0 w1 w2 (A % 18446744073709551616) (A / 18446744073709551616 % 18446744073709551616)) ⟨hqg, c1, trivial⟩ (by kernel_rfl) (by kernel_rfl) rfl
  · intro A A2 c1 c2
    exact runB_calls mix (dg_131 w0 w1 w2 w3 w4 v0 v1 v2 v3 v4 q w0 w1 w2 (A % 18446744073709551616) (A / 18446744073709551616 % 18446744073709551616) w0 w1 w2 (A2 % 18446744073709551616) (A2 / 18446744073709551616 % 18446744073709551616)) ⟨hqg, c1, c2, trivial⟩ (by kernel_rfl) (by kernel_rfl) rfl
  · intro A A2 A3 c1 c2 c3
    exact runB_calls mix (dg_132 w0 w1 w2 w3 w4 v0 v1 v2 v3 v4 q w0 w1 w2 (A % 18446744073709551616) (A / 18446744073709551616 % 18446744073709551616) w0 w1 w2 (A2 % 18446744073709551616) (A2 / 18446744073709551616 % 18446744073709551616) w0 w1 w2 (A3 % 18446744073709551616) (A3 / 18446744073709551616 % 18446744073709551616)) ⟨hqg, c1, c2, c3, trivial⟩ (by kernel_rfl) (by kernel_rfl) rfl
set_option maxRecDepth 100000 in
theorem dgc_20 {w0 w1 w2 w3 w4 v0 v1 v2 v3 v4 : Nat} (h0 : w0 < 18446744073709551616) (h1 : w1 < 18446744073709551616) (h2 : w2 < 18446744073709551616) (h3 : w3 < 18446744073709551616) (h4 : w4 < 18446744073709551616) (g0 : v0 < 18446744073709551616) (g1 : v1 < 18446744073709551616) (g2 : v2 < 18446744073709551616) (g3 : v3 < 18446744073709551616) (g4 : v4 < 18446744073709551616) (hy : 9223372036854775808 ≤ v1) (hlt : nvl [w0, w1, w2] < nvl [v0, v1] * 18446744073709551616) :
    CallsV Tryz.prog (.func 112) #[slU 0 2, slV 2] (HD [w0, w1, w2, w3, w4] [v0, v1, v2, v3, v4]) (rt (u (nvl [w0, w1, w2] / nvl [v0, v1]))) (HD ([] ++ ws (2 + 1) (nvl [w0, w1, w2] % nvl [v0, v1]) ++ [w3, w4]) [v0, v1, v2, v3, v4]) := by
  have hq3 := gq_lt (h := w2) hy h1
  have hqg := guess_c hy g1 h2 h1
  obtain ⟨hq1, hq2, hV⟩ := gq_both (xl := [w0]) (vl' := [v0]) (h := w2) (l := w1) (y := v1) (sm_cons h0 sm_nil) (sm_cons g0 sm_nil) rfl h1 hy hlt
  generalize gq w2 w1 v1 = q at *
  refine dig_of (a9 := #[slU 0 2, slV 2, u q]) (rep := fun A => [] ++ ws (2 + 1) A ++ [w3, w4]) (T := 18446744073709551616 ^ (2 + 1)) ?_ ?_ ?_ ?_ ?_ hq1 hq2 hq3 hV (hVT_of (sm_cons g0 (sm_cons g1 sm_nil)) rfl)
  · exact tac_of (x := [w0, w1]) (vs := [v0, v1]) (top := w2) (k := 2) hq3 (sm_cons h0 (sm_cons h1 sm_nil)) (sm_cons g0 (sm_cons g1 sm_nil)) h2 rfl rfl (runB_calls mix (ta_20 w0 w1 w2 w3 w4 v0 v1 v2 v3 v4 q (v0 * q / 18446744073709551616) (v1 * q / 18446744073709551616) (v0 * q % 18446744073709551616) (v1 * q % 18446744073709551616)) ⟨mul64_c g0 hq3, mul64_c g1 hq3, taO_le (q := q) (x := [w0]) (v := [v0]) hq3 (sm_cons h0 sm_nil) (sm_cons g0 sm_nil), taO_le (q := q) (x := [w0, w1]) (v := [v0, v1]) hq3 (sm_cons h0 (sm_cons h1 sm_nil)) (sm_cons g0 (sm_cons g1 sm_nil)), trivial⟩ (by kernel_rfl) (by kernel_rfl) rfl)
  · intro A hA
    have r := runB_calls mix (pb_20 (A % 18446744073709551616) (A / 18446744073709551616 % 18446744073709551616) (A / 18446744073709551616 / 18446744073709551616 % 18446744073709551616) w3 w4 v0 v1 v2 v3 v4) ⟨pbO_le' (x := ws 1 A) (v := [v0]) (ws_sm _ _) (sm_cons g0 sm_nil), pbO_le' (x := ws 2 A) (v := [v0, v1]) (ws_sm _ _) (sm_cons g0 (sm_cons g1 sm_nil)), trivial⟩ (by kernel_rfl) (by kernel_rfl) rfl
    obtain ⟨A2, C, k1, k2, k3, k4⟩ := pbc_of (P := Tryz.prog) (args := #[slU 0 2, slV 2]) (H0 := HD ([] ++ ws (2 + 1) A ++ [w3, w4]) [v0, v1, v2, v3, v4]) (pre := []) (post := [w3, w4]) (v := [v0, v1, v2, v3, v4]) (x := ws (2 + 1) A) (vs := [v0, v1]) (k := 2) (ws_sm _ _) (sm_cons g0 (sm_cons g1 sm_nil)) rfl rfl r
    rw [nvl_ws _ _ hA] at k3
    exact ⟨A2, C, k1, k2, k3, k4⟩
  · intro A c1
    exact runB_calls mix (dg_200 w0 w1 w2 w3 w4 v0 v1 v2 v3 v4 q (A % 18446744073709551616) (A / 18446744073709551616 % 18446744073709551616) (A / 18446744073709551616 / 18446744073709551616 % 18446744073709551616) w3 w4) ⟨hqg, c1, trivial⟩ (by kernel_rfl) (by kernel_rfl) rfl
  · intro A A2 c1 c2
    exact runB_calls mix (dg_201 w0 w1 w2 w3 w4 v0 v1 v2 v3 v4 q (A % 18446744073709551616) (A / 18446744073709551616 % 18446744073709551616) (A / 18446744073709551616 / 18446744073709551616 % 18446744073709551616) w3 w4 (A2 % 18446744073709551616) (A2 / 18446744073709551616 % 18446744073709551616) (A2 / 18446744073709551616 / 18446744073709551616 % 18446744073709551616) w3 w4) ⟨hqg, c1, c2, trivial⟩ (by kernel_rfl) (by kernel_rfl) rfl
  · intro A A2 A3 c1 c2 c3
    exact runB_calls mix (dg_202 w0 w1 w2 w3 w4 v0 v1 v2 v3 v4 q (A % 18446744073709551616) (A / 18446744073709551616 % 18446744073709551616) (A / 18446744073709551616 / 18446744073709551616 % 18446744073709551616) w3 w4 (A2 % 18446744073709551616) (A2 / 18446744073709551616 % 18446744073709551616) (A2 / 18446744073709551616 / 18446744073709551616 % 18446744073709551616) w3 w4 (A3 % 18446744073709551616) (A3 / 18446744073709551616 % 18446744073709551616) (A3 / 18446744073709551616 / 18446744073709551616 % 18446744073709551616) w3 w4) ⟨hqg, c1, c2, c3, trivial⟩ (by kernel_rfl) (by kernel_rfl) rfl
set_option maxRecDepth 100000 in
theorem dgc_21 {w0 w1 w2 w3 w4 v0 v1 v2 v3 v4 : Nat} (h0 : w0 < 18446744073709551616) (h1 : w1 < 18446744073709551616) (h2 : w2 < 18446744073709551616) (h3 : w3 < 18446744073709551616) (h4 : w4 < 18446744073709551616) (g0 : v0 < 18446744073709551616) (g1 : v1 < 18446744073709551616) (g2 : v2 < 18446744073709551616) (g3 : v3 < 18446744073709551616) (g4 : v4 < 18446744073709551616) (hy : 9223372036854775808 ≤ v1) (hlt : nvl [w1, w2, w3] < nvl [v0, v1] * 18446744073709551616) :
    CallsV Tryz.prog (.func 112) #[slU 1 2, slV 2] (HD [w0, w1, w2, w3, w4] [v0, v1, v2, v3, v4]) (rt (u (nvl [w1, w2, w3] / nvl [v0, v1]))) (HD ([w0] ++ ws (2 + 1) (nvl [w1, w2, w3] % nvl [v0, v1]) ++ [w4]) [v0, v1, v2, v3, v4]) := by
  have hq3 := gq_lt (h := w3) hy h2
  have hqg := guess_c hy g1 h3 h2
  obtain ⟨hq1, hq2, hV⟩ := gq_both (xl := [w1]) (vl' := [v0]) (h := w3) (l := w2) (y := v1) (sm_cons h1 sm_nil) (sm_cons g0 sm_nil) rfl h2 hy hlt
  generalize gq w3 w2 v1 = q at *
  refine dig_of (a9 := #[slU 1 2, slV 2, u q]) (rep := fun A => [w0] ++ ws (2 + 1) A ++ [w4]) (T := 18446744073709551616 ^ (2 + 1)) ?_ ?_ ?_ ?_ ?_ hq1 hq2 hq3 hV (hVT_of (sm_cons g0 (sm_cons g1 sm_nil)) rfl)
  · exact tac_of (x := [w1, w2]) (vs := [v0, v1]) (top := w3) (k := 2) hq3 (sm_cons h1 (sm_cons h2 sm_nil)) (sm_cons g0 (sm_cons g1 sm_nil)) h3 rfl rfl (runB_calls mix (ta_21 w0 w1 w2 w3 w4 v0 v1 v2 v3 v4 q (v0 * q / 18446744073709551616) (v1 * q / 18446744073709551616) (v0 * q % 18446744073709551616) (v1 * q % 18446744073709551616)) ⟨mul64_c g0 hq3, mul64_c g1 hq3, taO_le (q := q) (x := [w1]) (v := [v0]) hq3 (sm_cons h1 sm_nil) (sm_cons g0 sm_nil), taO_le (q := q) (x := [w1, w2]) (v := [v0, v1]) hq3 (sm_cons h1 (sm_cons h2 sm_nil)) (sm_cons g0 (sm_cons g1 sm_nil)), trivial⟩ (by kernel_rfl) (by kernel_rfl) rfl)
  · intro A hA
    have r := runB_calls mix (pb_21 w0 (A % 18446744073709551616) (A / 18446744073709551616 % 18446744073709551616) (A / 18446744073709551616 / 18446744073709551616 % 18446744073709551616) w4 v0 v1 v2 v3 v4) ⟨pbO_le' (x := ws 1 A) (v := [v0]) (ws_sm _ _) (sm_cons g0 sm_nil), pbO_le' (x := ws 2 A) (v := [v0, v1]) (ws_sm _ _) (sm_cons g0 (sm_cons g1 sm_nil)), trivial⟩ (by kernel_rfl) (by kernel_rfl) rfl
    obtain ⟨A2, C, k1, k2, k3, k4⟩ := pbc_of (P := Tryz.prog) (args := #[slU 1 2, slV 2]) (H0 := HD ([w0] ++ ws (2 + 1) A ++ [w4]) [v0, v1, v2, v3, v4]) (pre := [w0]) (post := [w4]) (v := [v0, v1, v2, v3, v4]) (x := ws (2 + 1) A) (vs := [v0, v1]) (k := 2) (ws_sm _ _) (sm_cons g0 (sm_cons g1 sm_nil)) rfl rfl r
    rw [nvl_ws _ _ hA] at k3
    exact ⟨A2, C, k1, k2, k3, k4⟩
  · intro A c1
    exact runB_calls mix (dg_210 w0 w1 w2 w3 w4 v0 v1 v2 v3 v4 q w0 (A % 18446744073709551616) (A / 18446744073709551616 % 18446744073709551616) (A / 18446744073709551616 / 18446744073709551616 % 18446744073709551616) w4) ⟨hqg, c1, trivial⟩ (by kernel_rfl) (by kernel_rfl) rfl
  · intro A A2 c1 c2
    exact runB_calls mix (dg_211 w0 w1 w2 w3 w4 v0 v1 v2 v3 v4 q w0 (A % 18446744073709551616) (A / 18446744073709551616 % 18446744073709551616) (A / 18446744073709551616 / 18446744073709551616 % 18446744073709551616) w4 w0 (A2 % 18446744073709551616) (A2 / 18446744073709551616 % 18446744073709551616) (A2 / 18446744073709551616 / 18446744073709551616 % 18446744073709551616) w4) ⟨hqg, c1, c2, trivial⟩ (by kernel_rfl) (by kernel_rfl) rfl
  · intro A A2 A3 c1 c2 c3
    exact runB_calls mix (dg_212 w0 w1 w2 w3 w4 v0 v1 v2 v3 v4 q w0 (A % 18446744073709551616) (A / 18446744073709551616 % 18446744073709551616) (A / 18446744073709551616 / 18446744073709551616 % 18446744073709551616) w4 w0 (A2 % 18446744073709551616) (A2 / 18446744073709551616 % 18446744073709551616) (A2 / 18446744073709551616 / 18446744073709551616 % 18446744073709551616) w4 w0 (A3 % 18446744073709551616) (A3 / 18446744073709551616 % 18446744073709551616) (A3 / 18446744073709551616 / 18446744073709551616 % 18446744073709551616) w4) ⟨hqg, c1, c2, c3, trivial⟩ (by kernel_rfl) (by kernel_rfl) rfl
set_option maxRecDepth 100000 in
theorem dgc_22 {w0 w1 w2 w3 w4 v0 v1 v2 v3 v4 : Nat} (h0 : w0 < 18446744073709551616) (h1 : w1 < 18446744073709551616) (h2 : w2 < 18446744073709551616) (h3 : w3 < 18446744073709551616) (h4 : w4 < 18446744073709551616) (g0 : v0 < 18446744073709551616) (g1 : v1 < 18446744073709551616) (g2 : v2 < 18446744073709551616) (g3 : v3 < 18446744073709551616) (g4 : v4 < 18446744073709551616) (hy : 9223372036854775808 ≤ v1) (hlt : nvl [w2, w3, w4] < nvl [v0, v1] * 18446744073709551616) :
    CallsV Tryz.prog (.func 112) #[slU 2 2, slV 2] (HD [w0, w1, w2, w3, w4] [v0, v1, v2, v3, v4]) (rt (u (nvl [w2, w3, w4] / nvl [v0, v1]))) (HD ([w0, w1] ++ ws (2 + 1) (nvl [w2, w3, w4] % nvl [v0, v1]) ++ []) [v0, v1, v2, v3, v4]) := by
  have hq3 := gq_lt (h := w4) hy h3
  have hqg := guess_c hy g1 h4 h3
  obtain ⟨hq1, hq2, hV⟩ := gq_both (xl := [w2]) (vl' := [v0]) (h := w4) (l := w3) (y := v1) (sm_cons h2 sm_nil) (sm_cons g0 sm_nil) rfl h3 hy hlt
  generalize gq w4 w3 v1 = q at *
  refine dig_of (a9 := #[slU 2 2, slV 2, u q]) (rep := fun A => [w0, w1] ++ ws (2 + 1) A ++ []) (T := 18446744073709551616 ^ (2 + 1)) ?_ ?_ ?_ ?_ ?_ hq1 hq2 hq3 hV (hVT_of (sm_cons g0 (sm_cons g1 sm_nil)) rfl)
  · exact tac_of (x := [w2, w3]) (vs := [v0, v1]) (top := w4) (k := 2) hq3 (sm_cons h2 (sm_cons h3 sm_nil)) (sm_cons g0 (sm_cons g1 sm_nil)) h4 rfl rfl (runB_calls mix (ta_22 w0 w1 w2 w3 w4 v0 v1 v2 v3 v4 q (v0 * q / 18446744073709551616) (v1 * q / 18446744073709551616) (v0 * q % 18446744073709551616) (v1 * q % 18446744073709551616)) ⟨mul64_c g0 hq3, mul64_c g1 hq3, taO_le (q := q) (x := [w2]) (v := [v0]) hq3 (sm_cons h2 sm_nil) (sm_cons g0 sm_nil), taO_le (q := q) (x := [w2, w3]) (v := [v0, v1]) hq3 (sm_cons h2 (sm_cons h3 sm_nil)) (sm_cons g0 (sm_cons g1 sm_nil)), trivial⟩ (by kernel_rfl) (by kernel_rfl) rfl)
  · intro A hA
    have r := runB_calls mix (pb_22 w0 w1 (A % 18446744073709551616) (A / 18446744073709551616 % 18446744073709551616) (A / 18446744073709551616 / 18446744073709551616 % 18446744073709551616) v0 v1 v2 v3 v4) ⟨pbO_le' (x := ws 1 A) (v := [v0]) (ws_sm _ _) (sm_cons g0 sm_nil), pbO_le' (x := ws 2 A) (v := [v0, v1]) (ws_sm _ _) (sm_cons g0 (sm_cons g1 sm_nil)), trivial⟩ (by kernel_rfl) (by kernel_rfl) rfl
    obtain ⟨A2, C, k1, k2, k3, k4⟩ := pbc_of (P := Tryz.prog) (args := #[slU 2 2, slV 2]) (H0 := HD ([w0, w1] ++ ws (2 + 1) A ++ []) [v0, v1, v2, v3, v4]) (pre := [w0, w1]) (post := []) (v := [v0, v1, v2, v3, v4]) (x := ws (2 + 1) A) (vs := [v0, v1]) (k := 2) (ws_sm _ _) (sm_cons g0 (sm_cons g1 sm_nil)) rfl rfl r
    rw [nvl_ws _ _ hA] at k3
    exact ⟨A2, C, k1, k2, k3, k4⟩
  · intro A c1
    exact runB_calls mix (dg_220 w0 w1 w2 w3 w4 v0 v1 v2 v3 v4 q w0 w1 (A % 18446744073709551616) (A / 18446744073709551616 % 18446744073709551616) (A / 18446744073709551616 / 18446744073709551616 % 18446744073709551616)) ⟨hqg, c1, trivial⟩ (by kernel_rfl) (by kernel_rfl) rfl
  · intro A A2 c1 c2
    exact runB_calls mix (dg_221 w0 w1 w2 w3 w4 v0 v1 v2 v3 v4 q w0 w1 (A % 18446744073709551616) (A / 18446744073709551616 % 18446744073709551616) (A / 18446744073709551616 / 18446744073709551616 % 18446744073709551616) w0 w1 (A2 % 18446744073709551616) (A2 / 18446744073709551616 % 18446744073709551616) (A2 / 18446744073709551616 / 18446744073709551616 % 18446744073709551616)) ⟨hqg, c1, c2, trivial⟩ (by kernel_rfl) (by kernel_rfl) rfl
  · intro A A2 A3 c1 c2 c3
    exact runB_calls mix (dg_222 w0 w1 w2 w3 w4 v0 v1 v2 v3 v4 q w0 w1 (A % 18446744073709551616) (A / 18446744073709551616 % 18446744073709551616) (A / 18446744073709551616 / 18446744073709551616 % 18446744073709551616) w0 w1 (A2 % 18446744073709551616) (A2 / 18446744073709551616 % 18446744073709551616) (A2 / 18446744073709551616 / 18446744073709551616 % 18446744073709551616) w0 w1 (A3 % 18446744073709551616) (A3 / 18446744073709551616 % 18446744073709551616) (A3 / 18446744073709551616 / 18446744073709551616 % 18446744073709551616)) ⟨hqg, c1, c2, c3, trivial⟩ (by kernel_rfl) (by kernel_rfl) rfl
set_option maxRecDepth 100000 in
theorem dgc_30 {w0 w1 w2 w3 w4 v0 v1 v2 v3 v4 : Nat} (h0 : w0 < 18446744073709551616) (h1 : w1 < 18446744073709551616) (h2 : w2 < 18446744073709551616) (h3 : w3 < 18446744073709551616) (h4 : w4 < 18446744073709551616) (g0 : v0 < 18446744073709551616) (g1 : v1 < 18446744073709551616) (g2 : v2 < 18446744073709551616) (g3 : v3 < 18446744073709551616) (g4 : v4 < 18446744073709551616) (hy : 9223372036854775808 ≤ v2) (hlt : nvl [w0, w1, w2, w3] < nvl [v0, v1, v2] * 18446744073709551616) :
    CallsV Tryz.prog (.func 112) #[slU 0 3, slV 3] (HD [w0, w1, w2, w3, w4] [v0, v1, v2, v3, v4]) (rt (u (nvl [w0, w1, w2, w3] / nvl [v0, v1, v2]))) (HD ([] ++ ws (3 + 1) (nvl [w0, w1, w2, w3] % nvl [v0, v1, v2]) ++ [w4]) [v0, v1, v2, v3, v4]) := by
  have hq3 := gq_lt (h := w3) hy h2
  have hqg := guess_c hy g2 h3 h2
  obtain ⟨hq1, hq2, hV⟩ := gq_both (xl := [w0, w1]) (vl' := [v0, v1]) (h := w3) (l := w2) (y := v2) (sm_cons h0 (sm_cons h1 sm_nil)) (sm_cons g0 (sm_cons g1 sm_nil)) rfl h2 hy hlt
  generalize gq w3 w2 v2 = q at *
  refine dig_of (a9 := #[slU 0 3, slV 3, u q]) (rep := fun A => [] ++ ws (3 + 1) A ++ [w4]) (T := 18446744073709551616 ^ (3 + 1)) ?_ ?_ ?_ ?_ ?_ hq1 hq2 hq3 hV (hVT_of (sm_cons g0 (sm_cons g1 (sm_cons g2 sm_nil))) rfl)
  · exact tac_of (x := [w0, w1, w2]) (vs := [v0, v1, v2]) (top := w3) (k := 3) hq3 (sm_cons h0 (sm_cons h1 (sm_cons h2 sm_nil))) (sm_cons g0 (sm_cons g1 (sm_cons g2 sm_nil))) h3 rfl rfl (runB_calls mix (ta_30 w0 w1 w2 w3 w4 v0 v1 v2 v3 v4 q (v0 * q / 18446744073709551616) (v1 * q / 18446744073709551616) (v2 * q / 18446744073709551616) (v0 * q % 18446744073709551616) (v1 * q % 18446744073709551616) (v2 * q % 18446744073709551616)) ⟨mul64_c g0 hq3, mul64_c g1 hq3, taO_le (q := q) (x := [w0]) (v := [v0]) hq3 (sm_cons h0 sm_nil) (sm_cons g0 sm_nil), mul64_c g2 hq3, taO_le (q := q) (x := [w0, w1]) (v := [v0, v1]) hq3 (sm_cons h0 (sm_cons h1 sm_nil)) (sm_cons g0 (sm_cons g1 sm_nil)), taO_le (q := q) (x := [w0, w1, w2]) (v := [v0, v1, v2]) hq3 (sm_cons h0 (sm_cons h1 (sm_cons h2 sm_nil))) (sm_cons g0 (sm_cons g1 (sm_cons g2 sm_nil))), trivial⟩ (by kernel_rfl) (by kernel_rfl) rfl)
  · intro A hA
    have r := runB_calls mix (pb_30 (A % 18446744073709551616) (A / 18446744073709551616 % 18446744073709551616) (A / 18446744073709551616 / 18446744073709551616 % 18446744073709551616) (A / 18446744073709551616 / 18446744073709551616 / 18446744073709551616 % 18446744073709551616) w4 v0 v1 v2 v3 v4) ⟨pbO_le' (x := ws 1 A) (v := [v0]) (ws_sm _ _) (sm_cons g0 sm_nil), pbO_le' (x := ws 2 A) (v := [v0, v1]) (ws_sm _ _) (sm_cons g0 (sm_cons g1 sm_nil)), pbO_le' (x := ws 3 A) (v := [v0, v1, v2]) (ws_sm _ _) (sm_cons g0 (sm_cons g1 (sm_cons g2 sm_nil))), trivial⟩ (by kernel_rfl) (by kernel_rfl) rfl
    obtain ⟨A2, C, k1, k2, k3, k4⟩ := pbc_of (P := Tryz.prog) (args := #[slU 0 3, slV 3]) (H0 := HD ([] ++ ws (3 + 1) A ++ [w4]) [v0, v1, v2, v3, v4]) (pre := []) (post := [w4]) (v := [v0, v1, v2, v3, v4]) (x := ws (3 + 1) A) (vs := [v0, v1, v2]) (k := 3) (ws_sm _ _) (sm_cons g0 (sm_cons g1 (sm_cons g2 sm_nil))) rfl rfl r
    rw [nvl_ws _ _ hA] at k3
    exact ⟨A2, C, k1, k2, k3, k4⟩
  · intro A c1
    exact runB_calls mix (dg_300 w0 w1 w2 w3 w4 v0 v1 v2 v3 v4 q (A % 18446744073709551616) (A / 18446744073709551616 % 18446744073709551616) (A / 18446744073709551616 / 18446744073709551616 % 18446744073709551616) (A / 18446744073709551616 / 18446744073709551616 / 18446744073709551616 % 18446744073709551616) w4) ⟨hqg, c1, trivial⟩ (by kernel_rfl) (by kernel_rfl) rfl
  · intro A A2 c1 c2
    exact runB_calls mix (dg_301 w0 w1 w2 w3 w4 v0 v1 v2 v3 v4 q (A % 18446744073709551616) (A / 18446744073709551616 % 18446744073709551616) (A / 18446744073709551616 / 18446744073709551616 % 18446744073709551616) (A / 18446744073709551616 / 18446744073709551616 / 18446744073709551616 % 18446744073709551616) w4 (A2 % 18446744073709551616) (A2 / 18446744073709551616 % 18446744073709551616) (A2 / 18446744073709551616 / 18446744073709551616 % 18446744073709551616) (A2 / 18446744073709551616 / 18446744073709551616 / 18446744073709551616 % 18446744073709551616) w4) ⟨hqg, c1, c2, trivial⟩ (by kernel_rfl) (by kernel_rfl) rfl
  · intro A A2 A3 c1 c2 c3
    exact runB_calls mix (dg_302 w0 w1 w2 w3 w4 v0 v1 v2 v3 v4 q (A % 18446744073709551616) (A / 18446744073709551616 % 18446744073709551616) (A / 18446744073709551616 / 18446744073709551616 % 18446744073709551616) (A / 18446744073709551616 / 18446744073709551616 / 18446744073709551616 % 18446744073709551616) w4 (A2 % 18446744073709551616) (A2 / 18446744073709551616 % 18446744073709551616) (A2 / 18446744073709551616 / 18446744073709551616 % 18446744073709551616) (A2 / 18446744073709551616 / 18446744073709551616 / 18446744073709551616 % 18446744073709551616) w4 (A3 % 18446744073709551616) (A3 / 18446744073709551616 % 18446744073709551616) (A3 / 18446744073709551616 / 18446744073709551616 % 18446744073709551616) (A3 / 18446744073709551616 / 18446744073709551616 / 18446744073709551616 % 18446744073709551616) w4) ⟨hqg, c1, c2, c3, trivial⟩ (by kernel_rfl) (by kernel_rfl) rfl
set_option maxRecDepth 100000 in
theorem dgc_31 {w0 w1 w2 w3 w4 v0 v1 v2 v3 v4 : Nat} (h0 : w0 < 18446744073709551616) (h1 : w1 < 18446744073709551616) (h2 : w2 < 18446744073709551616) (h3 : w3 < 18446744073709551616) (h4 : w4 < 18446744073709551616) (g0 : v0 < 18446744073709551616) (g1 : v1 < 18446744073709551616) (g2 : v2 < 18446744073709551616) (g3 : v3 < 18446744073709551616) (g4 : v4 < 18446744073709551616) (hy : 9223372036854775808 ≤ v2) (hlt : nvl [w1, w2, w3, w4] < nvl [v0, v1, v2] * 18446744073709551616) :
    CallsV Tryz.prog (.func 112) #[slU 1 3, slV 3] (HD [w0, w1, w2, w3, w4] [v0, v1, v2, v3, v4]) (rt (u (nvl [w1, w2, w3, w4] / nvl [v0, v1, v2]))) (HD ([w0] ++ ws (3 + 1) (nvl [w1, w2, w3, w4] % nvl [v0, v1, v2]) ++ []) [v0, v1, v2, v3, v4]) := by
  have hq3 := gq_lt (h := w4) hy h3
  have hqg := guess_c hy g2 h4 h3
  obtain ⟨hq1, hq2, hV⟩ := gq_both (xl := [w1, w2]) (vl' := [v0, v1]) (h := w4) (l := w3) (y := v2) (sm_cons h1 (sm_cons h2 sm_nil)) (sm_cons g0 (sm_cons g1 sm_nil)) rfl h3 hy hlt
  generalize gq w4 w3 v2 = q at *
  refine dig_of (a9 := #[slU 1 3, slV 3, u q]) (rep := fun A => [w0] ++ ws (3 + 1) A ++ []) (T := 18446744073709551616 ^ (3 + 1)) ?_ ?_ ?_ ?_ ?_ hq1 hq2 hq3 hV (hVT_of (sm_cons g0 (sm_cons g1 (sm_cons g2 sm_nil))) rfl)
  · exact tac_of (x := [w1, w2, w3]) (vs := [v0, v1, v2]) (top := w4) (k := 3) hq3 (sm_cons h1 (sm_cons h2 (sm_cons h3 sm_nil))) (sm_cons g0 (sm_cons g1 (sm_cons g2 sm_nil))) h4 rfl rfl (runB_calls mix (ta_31 w0 w1 w2 w3 w4 v0 v1 v2 v3 v4 q (v0 * q / 18446744073709551616) (v1 * q / 18446744073709551616) (v2 * q / 18446744073709551616) (v0 * q % 18446744073709551616) (v1 * q % 18446744073709551616) (v2 * q % 18446744073709551616)) ⟨mul64_c g0 hq3, mul64_c g1 hq3, taO_le (q := q) (x := [w1]) (v := [v0]) hq3 (sm_cons h1 sm_nil) (sm_cons g0 sm_nil), mul64_c g2 hq3, taO_le (q := q) (x := [w1, w2]) (v := [v0, v1]) hq3 (sm_cons h1 (sm_cons h2 sm_nil)) (sm_cons g0 (sm_cons g1 sm_nil)), taO_le (q := q) (x := [w1, w2, w3]) (v := [v0, v1, v2]) hq3 (sm_cons h1 (sm_cons h2 (sm_cons h3 sm_nil))) (sm_cons g0 (sm_cons g1 (sm_cons g2 sm_nil))), trivial⟩ (by kernel_rfl) (by kernel_rfl) rfl)
  · intro A hA
    have r := runB_calls mix (pb_31 w0 (A % 18446744073709551616) (A / 18446744073709551616 % 18446744073709551616) (A / 18446744073709551616 / 18446744073709551616 % 18446744073709551616) (A / 18446744073709551616 / 18446744073709551616 / 18446744073709551616 % 18446744073709551616) v0 v1 v2 v3 v4) ⟨pbO_le' (x := ws 1 A) (v := [v0]) (ws_sm _ _) (sm_cons g0 sm_nil), pbO_le' (x := ws 2 A) (v := [v0, v1]) (ws_sm _ _) (sm_cons g0 (sm_cons g1 sm_nil)), pbO_le' (x := ws 3 A) (v := [v0, v1, v2]) (ws_sm _ _) (sm_cons g0 (sm_cons g1 (sm_cons g2 sm_nil))), trivial⟩ (by kernel_rfl) (by kernel_rfl) rfl
    obtain ⟨A2, C, k1, k2, k3, k4⟩ := pbc_of (P := Tryz.prog) (args := #[slU 1 3, slV 3]) (H0 := HD ([w0] ++ ws (3 + 1) A ++ []) [v0, v1, v2, v3, v4]) (pre := [w0]) (post := []) (v := [v0, v1, v2, v3, v4]) (x := ws (3 + 1) A) (vs := [v0, v1, v2]) (k := 3) (ws_sm _ _) (sm_cons g0 (sm_cons g1 (sm_cons g2 sm_nil))) rfl rfl r
    rw [nvl_ws _ _ hA] at k3
    exact ⟨A2, C, k1, k2, k3, k4⟩
  · intro A c1
    exact runB_calls mix (dg_310 w0 w1 w2 w3 w4 v0 v1 v2 v3 v4 q w0 (A % 18446744073709551616) (A / 18446744073709551616 % 18446744073709551616) (A / 18446744073709551616 / 18446744073709551616 % 18446744073709551616) (A / 18446744073709551616 / 18446744073709551616 / 18446744073709551616 % 18446744073709551616)) ⟨hqg, c1, trivial⟩ (by kernel_rfl) (by kernel_rfl) rfl
  · intro A A2 c1 c2
    exact runB_calls mix (dg_311 w0 w1 w2 w3 w4 v0 v1 v2 v3 v4 q w0 (A % 18446744073709551616) (A / 18446744073709551616 % 18446744073709551616) (A / 18446744073709551616 / 18446744073709551616 % 18446744073709551616) (A / 18446744073709551616 / 18446744073709551616 / 18446744073709551616 % 18446744073709551616) w0 (A2 % 18446744073709551616) (A2 / 18446744073709551616 % 18446744073709551616) (A2 / 18446744073709551616 / 18446744073709551616 % 18446744073709551616) (A2 / 18446744073709551616 / 18446744073709551616 / 18446744073709551616 % 18446744073709551616)) ⟨hqg, c1, c2, trivial⟩ (by kernel_rfl) (by kernel_rfl) rfl
  · intro A A2 A3 c1 c2 c3
    exact runB_calls mix (dg_312 w0 w1 w2 w3 w4 v0 v1 v2 v3 v4 q w0 (A % 18446744073709551616) (A / 18446744073709551616 % 18446744073709551616) (A / 18446744073709551616 / 18446744073709551616 % 18446744073709551616) (A / 18446744073709551616 / 18446744073709551616 / 18446744073709551616 % 18446744073709551616) w0 (A2 % 18446744073709551616) (A2 / 18446744073709551616 % 18446744073709551616) (A2 / 18446744073709551616 / 18446744073709551616 % 18446744073709551616) (A2 / 18446744073709551616 / 18446744073709551616 / 18446744073709551616 % 18446744073709551616) w0 (A3 % 18446744073709551616) (A3 / 18446744073709551616 % 18446744073709551616) (A3 / 18446744073709551616 / 18446744073709551616 % 18446744073709551616) (A3 / 18446744073709551616 / 18446744073709551616 / 18446744073709551616 % 18446744073709551616)) ⟨hqg, c1, c2, c3, trivial⟩ (by kernel_rfl) (by kernel_rfl) rfl
set_option maxRecDepth 100000 in
theorem dgc_40 {w0 w1 w2 w3 w4 v0 v1 v2 v3 v4 : Nat} (h0 : w0 < 18446744073709551616) (h1 : w1 < 18446744073709551616) (h2 : w2 < 18446744073709551616) (h3 : w3 < 18446744073709551616) (h4 : w4 < 18446744073709551616) (g0 : v0 < 18446744073709551616) (g1 : v1 < 18446744073709551616) (g2 : v2 < 18446744073709551616) (g3 : v3 < 18446744073709551616) (g4 : v4 < 18446744073709551616) (hy : 9223372036854775808 ≤ v3) (hlt : nvl [w0, w1, w2, w3, w4] < nvl [v0, v1, v2, v3] * 18446744073709551616) :
    CallsV Tryz.prog (.func 112) #[slU 0 4, slV 4] (HD [w0, w1, w2, w3, w4] [v0, v1, v2, v3, v4]) (rt (u (nvl [w0, w1, w2, w3, w4] / nvl [v0, v1, v2, v3]))) (HD ([] ++ ws (4 + 1) (nvl [w0, w1, w2, w3, w4] % nvl [v0, v1, v2, v3]) ++ []) [v0, v1, v2, v3, v4]) := by
  have hq3 := gq_lt (h := w4) hy h3
  have hqg := guess_c hy g3 h4 h3
  obtain ⟨hq1, hq2, hV⟩ := gq_both (xl := [w0, w1, w2]) (vl' := [v0, v1, v2]) (h := w4) (l := w3) (y := v3) (sm_cons h0 (sm_cons h1 (sm_cons h2 sm_nil))) (sm_cons g0 (sm_cons g1 (sm_cons g2 sm_nil))) rfl h3 hy hlt
  generalize gq w4 w3 v3 = q at *
  refine dig_of (a9 := #[slU 0 4, slV 4, u q]) (rep := fun A => [] ++ ws (4 + 1) A ++ []) (T := 18446744073709551616 ^ (4 + 1)) ?_ ?_ ?_ ?_ ?_ hq1 hq2 hq3 hV (hVT_of (sm_cons g0 (sm_cons g1 (sm_cons g2 (sm_cons g3 sm_nil)))) rfl)
  · exact tac_of (x := [w0, w1, w2, w3]) (vs := [v0, v1, v2, v3]) (top := w4) (k := 4) hq3 (sm_cons h0 (sm_cons h1 (sm_cons h2 (sm_cons h3 sm_nil)))) (sm_cons g0 (sm_cons g1 (sm_cons g2 (sm_cons g3 sm_nil)))) h4 rfl rfl (runB_calls mix (ta_40 w0 w1 w2 w3 w4 v0 v1 v2 v3 v4 q (v0 * q / 18446744073709551616) (v1 * q / 18446744073709551616) (v2 * q / 18446744073709551616) (v3 * q / 18446744073709551616) (v0 * q % 18446744073709551616) (v1 * q % 18446744073709551616) (v2 * q % 18446744073709551616) (v3 * q % 18446744073709551616)) ⟨mul64_c g0 hq3, mul64_c g1 hq3, taO_le (q := q) (x := [w0]) (v := [v0]) hq3 (sm_cons h0 sm_nil) (sm_cons g0 sm_nil), mul64_c g2 hq3, taO_le (q := q) (x := [w0, w1]) (v := [v0, v1]) hq3 (sm_cons h0 (sm_cons h1 sm_nil)) (sm_cons g0 (sm_cons g1 sm_nil)), mul64_c g3 hq3, taO_le (q := q) (x := [w0, w1, w2]) (v := [v0, v1, v2]) hq3 (sm_cons h0 (sm_cons h1 (sm_cons h2 sm_nil))) (sm_cons g0 (sm_cons g1 (sm_cons g2 sm_nil))), taO_le (q := q) (x := [w0, w1, w2, w3]) (v := [v0, v1, v2, v3]) hq3 (sm_cons h0 (sm_cons h1 (sm_cons h2 (sm_cons h3 sm_nil)))) (sm_cons g0 (sm_cons g1 (sm_cons g2 (sm_cons g3 sm_nil)))), trivial⟩ (by kernel_rfl) (by kernel_rfl) rfl)
  · intro A hA
    have r := runB_calls mix (pb_40 (A % 18446744073709551616) (A / 18446744073709551616 % 18446744073709551616) (A / 18446744073709551616 / 18446744073709551616 % 18446744073709551616) (A / 18446744073709551616 / 18446744073709551616 / 18446744073709551616 % 18446744073709551616) (A / 18446744073709551616 / 18446744073709551616 / 18446744073709551616 / 18446744073709551616 % 18446744073709551616) v0 v1 v2 v3 v4) ⟨pbO_le' (x := ws 1 A) (v := [v0]) (ws_sm _ _) (sm_cons g0 sm_nil), pbO_le' (x := ws 2 A) (v := [v0, v1]) (ws_sm _ _) (sm_cons g0 (sm_cons g1 sm_nil)), pbO_le' (x := ws 3 A) (v := [v0, v1, v2]) (ws_sm _ _) (sm_cons g0 (sm_cons g1 (sm_cons g2 sm_nil))), pbO_le' (x := ws 4 A) (v := [v0, v1, v2, v3]) (ws_sm _ _) (sm_cons g0 (sm_cons g1 (sm_cons g2 (sm_cons g3 sm_nil)))), trivial⟩ (by kernel_rfl) (by kernel_rfl) rfl
    obtain ⟨A2, C, k1, k2, k3, k4⟩ := pbc_of (P := Tryz.prog) (args := #[slU 0 4, slV 4]) (H0 := HD ([] ++ ws (4 + 1) A ++ []) [v0, v1, v2, v3, v4]) (pre := []) (post := []) (v := [v0, v1, v2, v3, v4]) (x := ws (4 + 1) A) (vs := [v0, v1, v2, v3]) (k := 4) (ws_sm _ _) (sm_cons g0 (sm_cons g1 (sm_cons g2 (sm_cons g3 sm_nil)))) rfl rfl r
    rw [nvl_ws _ _ hA] at k3
    exact ⟨A2, C, k1, k2, k3, k4⟩
  · intro A c1
    exact runB_calls mix (dg_400 w0 w1 w2 w3 w4 v0 v1 v2 v3 v4 q (A % 18446744073709551616) (A / 18446744073709551616 % 18446744073709551616) (A / 18446744073709551616 / 18446744073709551616 % 18446744073709551616) (A / 18446744073709551616 / 18446744073709551616 / 18446744073709551616 % 18446744073709551616) (A / 18446744073709551616 / 18446744073709551616 / 18446744073709551616 / 18446744073709551616 % 18446744073709551616)) ⟨hqg, c1, trivial⟩ (by kernel_rfl) (by kernel_rfl) rfl
  · intro A A2 c1 c2
    exact runB_calls mix (dg_401 w0 w1 w2 w3 w4 v0 v1 v2 v3 v4 q (A % 18446744073709551616) (A / 18446744073709551616 % 18446744073709551616) (A / 18446744073709551616 / 18446744073709551616 % 18446744073709551616) (A / 18446744073709551616 / 18446744073709551616 / 18446744073709551616 % 18446744073709551616) (A / 18446744073709551616 / 18446744073709551616 / 18446744073709551616 / 18446744073709551616 % 18446744073709551616) (A2 % 18446744073709551616) (A2 / 18446744073709551616 % 18446744073709551616) (A2 / 18446744073709551616 / 18446744073709551616 % 18446744073709551616) (A2 / 18446744073709551616 / 18446744073709551616 / 18446744073709551616 % 18446744073709551616) (A2 / 18446744073709551616 / 18446744073709551616 / 18446744073709551616 / 18446744073709551616 % 18446744073709551616)) ⟨hqg, c1, c2, trivial⟩ (by kernel_rfl) (by kernel_rfl) rfl
  · intro A A2 A3 c1 c2 c3
    exact runB_calls mix (dg_402 w0 w1 w2 w3 w4 v0 v1 v2 v3 v4 q (A % 18446744073709551616) (A / 18446744073709551616 % 18446744073709551616) (A / 18446744073709551616 / 18446744073709551616 % 18446744073709551616) (A / 18446744073709551616 / 18446744073709551616 / 18446744073709551616 % 18446744073709551616) (A / 18446744073709551616 / 18446744073709551616 / 18446744073709551616 / 18446744073709551616 % 18446744073709551616) (A2 % 18446744073709551616) (A2 / 18446744073709551616 % 18446744073709551616) (A2 / 18446744073709551616 / 18446744073709551616 % 18446744073709551616) (A2 / 18446744073709551616 / 18446744073709551616 / 18446744073709551616 % 18446744073709551616) (A2 / 18446744073709551616 / 18446744073709551616 / 18446744073709551616 / 18446744073709551616 % 18446744073709551616) (A3 % 18446744073709551616) (A3 / 18446744073709551616 % 18446744073709551616) (A3 / 18446744073709551616 / 18446744073709551616 % 18446744073709551616) (A3 / 18446744073709551616 / 18446744073709551616 / 18446744073709551616 % 18446744073709551616) (A3 / 18446744073709551616 / 18446744073709551616 / 18446744073709551616 / 18446744073709551616 % 18446744073709551616)) ⟨hqg, c1, c2, c3, trivial⟩ (by kernel_rfl) (by kernel_rfl) rfl

end Go.Proofs.YtcmfgabhgodlaaaGreatDoor
