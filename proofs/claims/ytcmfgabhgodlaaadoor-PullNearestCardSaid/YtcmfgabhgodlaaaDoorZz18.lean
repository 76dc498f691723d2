/- Texts of the seat, joined. -/
import Derived.Test.YtcmfgabhgodlaaaDoorZz17
/- PullTurns, walked. -/
namespace Go.Proofs.YtcmfgabhgodlaaaDoor
open Go Go.RowKit
set_option linter.unusedSimpArgs false
set_option linter.unusedVariables false
set_option maxRecDepth 100000

theorem trn_no (n0 d g m x y z : Int) : runF Tryd.prog 1000 [] 4 #[ii n0, ii d, ii g, ii m, vc x y z] [] [n] [(7, rt (bb false)), (8, rt (bb true))] [] [] =
    some (rt (bb (true)), [], [PureX Tryd.prog 7 #[ii (n0), ii (d), ii (g), ii (m), vc (x) (y) (z)] (rt (bb (false))), PureX Tryd.prog 8 #[] (rt (bb (true)))]) := by kernel_rfl
theorem trn_ok (n0 d g m x y z : Int) (u1 u2 u3 a1 a2 a3 b1 b2 b3 c1 c2 c3 e1 e2 e3 : Int) : runF Tryd.prog 1000 [] 4 #[ii n0, ii d, ii g, ii m, vc x y z] [] [n, n, n, n, n, n, n, n, n, n, t, n, n, t, n, n, n, n, n, n, n, n, t, n, n, n, n, n, n, n, n, n, t] [(7, rt (bb true)), (9, rt (tp [vc u1 u2 u3, ii 0])), (9, rt (tp [vc a1 a2 a3, ii 0])), (9, rt (tp [vc b1 b2 b3, ii 0])), (9, rt (tp [vc c1 c2 c3, ii 0])), (9, rt (tp [vc e1 e2 e3, ii 0])), (8, rt (bb true))] [] [] =
    some (rt (bb (true)), [], [PureX Tryd.prog 7 #[ii (n0), ii (d), ii (g), ii (m), vc (x) (y) (z)] (rt (bb (true))), PureX Tryd.prog 9 #[ii (n0), ii (d), ii (g), ii (m), vc (x) (y) (z)] (rt (tp [vc (u1) (u2) (u3), ii (0)])), PureX Tryd.prog 9 #[ii (n0), ii (d), ii (g), ii (m), vc (wi (0 - x)) (wi (0 - y)) (wi (0 - z))] (rt (tp [vc (a1) (a2) (a3), ii (0)])), PureX Tryd.prog 9 #[ii (wi (0 - n0)), ii (d), ii (g), ii (m), vc (x) (y) (z)] (rt (tp [vc (b1) (b2) (b3), ii (0)])), PureX Tryd.prog 9 #[ii (n0), ii (d), ii (g), ii (m), vc (y) (z) (x)] (rt (tp [vc (c1) (c2) (c3), ii (0)])), PureX Tryd.prog 9 #[ii (n0), ii (d), ii (g), ii (m), vc (y) (x) (wi (0 - z))] (rt (tp [vc (e1) (e2) (e3), ii (0)])), ((a1 == wi (0 - u1)) && ((a2 == wi (0 - u2)) && ((a3 == wi (0 - u3)) && (true)))) = true, ((b1 == a1) && ((b2 == a2) && ((b3 == a3) && (true)))) = true, ((c1 == u2) && ((c2 == u3) && ((c3 == u1) && (true)))) = true, ((e1 == u2) && ((e2 == u1) && ((e3 == wi (0 - u3)) && (true)))) = true, PureX Tryd.prog 8 #[] (rt (bb (true)))]) := by kernel_rfl

end Go.Proofs.YtcmfgabhgodlaaaDoor
