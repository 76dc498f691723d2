/- Texts of the seat, joined. -/
import Derived.Test.YtlioffkonfkflaaGreatZz30
/- The document's quotients of intervals: what is asked on each way. -/
namespace Go.Proofs.YtlioffkonfkflaaGreat
open Go Go.RowKit
set_option linter.unusedSimpArgs false
set_option linter.unusedVariables false
set_option maxRecDepth 100000

def pk (b : Bool) (x y : Nat) : Nat := match b with | true => x | false => y
def orQ (ng b1 c1 b2 c2 b3 c3 : Bool) : List (Option Bool) :=
  [n, n, n, n] ++ ((match ng with | true => [t, n, n, n, f] | false => [f, n, n, n, n]) ++ ([n, n, n, n, n, n, n, n, n, n, n, n, n, n, n, n, some b1, n, n, n, n, some c1, n, n, n, n, n, some b2, n, n, n, n, some c2, n, n, n, n, n, some b3, n, n, n, n, some c3, n]))
def sgQ (ng : Bool) (m k : Int) : List Prop := match ng with | true => [decide (m ≤ 0) = true, decide (0 ≤ k) = false] | false => [decide (m ≤ 0) = false]
def QuoS (ng b1 c1 b2 c2 b3 c3 : Bool) : Prop := ∀ (l h : Int) (p : Bool) (m k : Int) (q : Bool) (n0 d0 l0 e0 g0 h0 n1 d1 l1 e1 g1 h1 n2 d2 l2 e2 g2 h2 n3 d3 l3 e3 g3 h3 : Nat) (s1 t1 s2 t2 s3 t3 : Int) (r : IV),
  runB Tryz.prog 43 #[iv l h p, iv m k q] [] (orQ ng b1 c1 b2 c2 b3 c3) [(94, rt (wv n0)), (84, rt (wv d0)), (85, rt (tp [wv l0, ii 0])), (94, rt (wv e0)), (84, rt (wv g0)), (86, rt (tp [wv h0, ii 0])), (94, rt (wv n1)), (84, rt (wv d1)), (85, rt (tp [wv l1, ii 0])), (94, rt (wv e1)), (84, rt (wv g1)), (86, rt (tp [wv h1, ii 0])), (95, rt (ii s1)), (95, rt (ii t1)), (94, rt (wv n2)), (84, rt (wv d2)), (85, rt (tp [wv l2, ii 0])), (94, rt (wv e2)), (84, rt (wv g2)), (86, rt (tp [wv h2, ii 0])), (95, rt (ii s2)), (95, rt (ii t2)), (94, rt (wv n3)), (84, rt (wv d3)), (85, rt (tp [wv l3, ii 0])), (94, rt (wv e3)), (84, rt (wv g3)), (86, rt (tp [wv h3, ii 0])), (95, rt (ii s3)), (95, rt (ii t3)), (96, rt (ivv r))] [(13, rt (bb true), [(1003, oiv [(l, h, p), (m, k, q)])])] =
    some (rt (ivv r), [], CallsV Tryz.prog (.func 13) #[sl 1003 2] [(1003, oiv [(l, h, p), (m, k, q)])] (rt (bb true)) [(1003, oiv [(l, h, p), (m, k, q)])] :: (sgQ ng m k ++ [PureX Tryz.prog 94 #[ii l] (rt (wv n0)), PureX Tryz.prog 84 #[ii m] (rt (wv d0)), PureX Tryz.prog 85 #[wv n0, wv d0] (rt (tp [wv l0, ii 0])), PureX Tryz.prog 94 #[ii l] (rt (wv e0)), PureX Tryz.prog 84 #[ii m] (rt (wv g0)), PureX Tryz.prog 86 #[wv e0, wv g0] (rt (tp [wv h0, ii 0])), PureX Tryz.prog 94 #[ii l] (rt (wv n1)), PureX Tryz.prog 84 #[ii k] (rt (wv d1)), PureX Tryz.prog 85 #[wv n1, wv d1] (rt (tp [wv l1, ii 0])), PureX Tryz.prog 94 #[ii l] (rt (wv e1)), PureX Tryz.prog 84 #[ii k] (rt (wv g1)), PureX Tryz.prog 86 #[wv e1, wv g1] (rt (tp [wv h1, ii 0])), PureX Tryz.prog 95 #[wv l1, wv l0] (rt (ii s1)), decide (s1 < 0) = b1, PureX Tryz.prog 95 #[wv h1, wv h0] (rt (ii t1)), decide (0 < t1) = c1, PureX Tryz.prog 94 #[ii h] (rt (wv n2)), PureX Tryz.prog 84 #[ii m] (rt (wv d2)), PureX Tryz.prog 85 #[wv n2, wv d2] (rt (tp [wv l2, ii 0])), PureX Tryz.prog 94 #[ii h] (rt (wv e2)), PureX Tryz.prog 84 #[ii m] (rt (wv g2)), PureX Tryz.prog 86 #[wv e2, wv g2] (rt (tp [wv h2, ii 0])), PureX Tryz.prog 95 #[wv l2, wv (pk b1 l1 l0)] (rt (ii s2)), decide (s2 < 0) = b2, PureX Tryz.prog 95 #[wv h2, wv (pk c1 h1 h0)] (rt (ii t2)), decide (0 < t2) = c2, PureX Tryz.prog 94 #[ii h] (rt (wv n3)), PureX Tryz.prog 84 #[ii k] (rt (wv d3)), PureX Tryz.prog 85 #[wv n3, wv d3] (rt (tp [wv l3, ii 0])), PureX Tryz.prog 94 #[ii h] (rt (wv e3)), PureX Tryz.prog 84 #[ii k] (rt (wv g3)), PureX Tryz.prog 86 #[wv e3, wv g3] (rt (tp [wv h3, ii 0])), PureX Tryz.prog 95 #[wv l3, wv (pk b2 l2 (pk b1 l1 l0))] (rt (ii s3)), decide (s3 < 0) = b3, PureX Tryz.prog 95 #[wv h3, wv (pk c2 h2 (pk c1 h1 h0))] (rt (ii t3)), decide (0 < t3) = c3, PureX Tryz.prog 96 #[wv (pk b3 l3 (pk b2 l2 (pk b1 l1 l0))), wv (pk c3 h3 (pk c2 h2 (pk c1 h1 h0))), ii 0, ii 0] (rt (ivv r))]))
section
variable (l h m k : Int) (p q : Bool)
theorem dqu_f  : runB Tryz.prog 43 #[iv l h p, iv m k q] [] [] [] [(13, rt (bb false), [(1003, oiv [(l, h, p), (m, k, q)])])] =
    some (rt (iv 0 0 true), [], [CallsV Tryz.prog (.func 13) #[sl 1003 2] [(1003, oiv [(l, h, p), (m, k, q)])] (rt (bb false)) [(1003, oiv [(l, h, p), (m, k, q)])]]) := by kernel_rfl
theorem dqu_z  : runB Tryz.prog 43 #[iv l h p, iv m k q] [] [n, n, n, n, t, n, n, n, t, n] [] [(13, rt (bb true), [(1003, oiv [(l, h, p), (m, k, q)])])] =
    some (rt (iv 0 0 true), [], [CallsV Tryz.prog (.func 13) #[sl 1003 2] [(1003, oiv [(l, h, p), (m, k, q)])] (rt (bb true)) [(1003, oiv [(l, h, p), (m, k, q)])], decide (m ≤ 0) = true, decide (0 ≤ k) = true]) := by kernel_rfl
end

end Go.Proofs.YtlioffkonfkflaaGreat
