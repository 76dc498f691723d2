/- The law QuotFloor, path by path (answers foretold). -/
import Derived.Test.YtpbhoamojocbpaaF12
namespace Go.Proofs.Ytpbhoamojocbpaa
open Go Go.RowKit
set_option linter.unusedSimpArgs false
set_option linter.unusedVariables false

theorem law4_zero (a : Nat) : runA Try.prog 4 #[wv a, wv 0] [] [(12, rt (tp [wv 0, .int .i64 (30)])), (18, rt (tp [wv 0, .int .i64 (30)])), (14, rt (tp [wv 0, .int .i64 (30)])), (26, rt (bb (true)))] =
    some (rt (bb (true)), [PureX Try.prog 12 #[wv a, wv 0] (rt (tp [wv 0, .int .i64 (30)])), PureX Try.prog 18 #[wv a, wv 0] (rt (tp [wv 0, .int .i64 (30)])), PureX Try.prog 14 #[wv a, wv 0] (rt (tp [wv 0, .int .i64 (30)])), PureX Try.prog 26 #[] (rt (bb (true)))]) := by kernel_rfl
theorem law4_over1 (a b : Nat) : runA Try.prog 4 #[wv a, wv b] [f, n, n, n, n, n, n, n, n] [(12, rt (tp [wv 0, .int .i64 (20)])), (18, rt (tp [wv 0, .int .i64 (20)])), (14, rt (tp [wv 0, .int .i64 (20)])), (27, rt (bb (true))), (26, rt (bb (true)))] =
    some (rt (bb (true)), [PureX Try.prog 12 #[wv a, wv b] (rt (tp [wv 0, .int .i64 (20)])), PureX Try.prog 18 #[wv a, wv b] (rt (tp [wv 0, .int .i64 (20)])), PureX Try.prog 14 #[wv a, wv b] (rt (tp [wv 0, .int .i64 (20)])), (eqv b 0) = false, PureX Try.prog 27 #[wv a] (rt (bb (true))), PureX Try.prog 26 #[] (rt (bb (true)))]) := by kernel_rfl
theorem law4_over2 (a b : Nat) : runA Try.prog 4 #[wv a, wv b] [f, n, n, n, n, n, n, n, n] [(12, rt (tp [wv 0, .int .i64 (20)])), (18, rt (tp [wv 0, .int .i64 (20)])), (14, rt (tp [wv 0, .int .i64 (20)])), (27, rt (bb (false))), (27, rt (bb (true))), (26, rt (bb (true)))] =
    some (rt (bb (true)), [PureX Try.prog 12 #[wv a, wv b] (rt (tp [wv 0, .int .i64 (20)])), PureX Try.prog 18 #[wv a, wv b] (rt (tp [wv 0, .int .i64 (20)])), PureX Try.prog 14 #[wv a, wv b] (rt (tp [wv 0, .int .i64 (20)])), (eqv b 0) = false, PureX Try.prog 27 #[wv a] (rt (bb (false))), PureX Try.prog 27 #[wv b] (rt (bb (true))), PureX Try.prog 26 #[] (rt (bb (true)))]) := by kernel_rfl
theorem law4_r0 (a b q r c p s d : Nat) (o1 o2 o3 : Bool) : runA Try.prog 4 #[wv a, wv b] [f, n, n, n, n, n, n, n, n, f, n, n, f, t, t] [(12, rt (tp [wv q, .int .i64 (0)])), (18, rt (tp [wv r, .int .i64 (0)])), (14, rt (tp [wv c, .int .i64 (0)])), (27, rt (bb (false))), (27, rt (bb (false))), (28, rt (tp [wv p, bb (o1)])), (29, rt (tp [wv s, bb (o2)])), (30, rt (tp [wv d, bb (o3)])), (26, rt (bb (true)))] =
    some (rt (bb (true)), [PureX Try.prog 12 #[wv a, wv b] (rt (tp [wv q, .int .i64 (0)])), PureX Try.prog 18 #[wv a, wv b] (rt (tp [wv r, .int .i64 (0)])), PureX Try.prog 14 #[wv a, wv b] (rt (tp [wv c, .int .i64 (0)])), (eqv b 0) = false, PureX Try.prog 27 #[wv a] (rt (bb (false))), PureX Try.prog 27 #[wv b] (rt (bb (false))), PureX Try.prog 28 #[wv q, wv b] (rt (tp [wv p, bb (o1)])), PureX Try.prog 29 #[wv p, wv r] (rt (tp [wv s, bb (o2)])), PureX Try.prog 30 #[wv c, wv q] (rt (tp [wv d, bb (o3)])), (o3) = false, (!(eqv s a)) = false, (eqv r 0) = true, (eqv d r) = true, PureX Try.prog 26 #[] (rt (bb (true)))]) := by kernel_rfl
theorem law4_r1 (a b q r c p s d : Nat) (o1 o2 o3 : Bool) (k1 k2 k3 k4 : Int) : runA Try.prog 4 #[wv a, wv b] [f, n, n, n, n, n, n, n, n, f, n, n, f, f, t, n, n, n, n, t, n, n, n, n, n, n, t] [(12, rt (tp [wv q, .int .i64 (0)])), (18, rt (tp [wv r, .int .i64 (0)])), (14, rt (tp [wv c, .int .i64 (0)])), (27, rt (bb (false))), (27, rt (bb (false))), (28, rt (tp [wv p, bb (o1)])), (29, rt (tp [wv s, bb (o2)])), (30, rt (tp [wv d, bb (o3)])), (31, rt (wv 1)), (32, rt (.int .i64 (k1))), (32, rt (.int .i64 (k2))), (33, rt (.int .i64 (k3))), (32, rt (.int .i64 (k4))), (26, rt (bb (true)))] =
    some (rt (bb (true)), [PureX Try.prog 12 #[wv a, wv b] (rt (tp [wv q, .int .i64 (0)])), PureX Try.prog 18 #[wv a, wv b] (rt (tp [wv r, .int .i64 (0)])), PureX Try.prog 14 #[wv a, wv b] (rt (tp [wv c, .int .i64 (0)])), (eqv b 0) = false, PureX Try.prog 27 #[wv a] (rt (bb (false))), PureX Try.prog 27 #[wv b] (rt (bb (false))), PureX Try.prog 28 #[wv q, wv b] (rt (tp [wv p, bb (o1)])), PureX Try.prog 29 #[wv p, wv r] (rt (tp [wv s, bb (o2)])), PureX Try.prog 30 #[wv c, wv q] (rt (tp [wv d, bb (o3)])), (o3) = false, (!(eqv s a)) = false, (eqv r 0) = false, PureX Try.prog 31 #[.int .i64 (1)] (rt (wv 1)), (eqv d 1) = true, PureX Try.prog 32 #[wv r] (rt (.int .i64 (k1))), PureX Try.prog 32 #[wv b] (rt (.int .i64 (k2))), (k1 == k2) = true, PureX Try.prog 33 #[wv r, wv b] (rt (.int .i64 (k3))), PureX Try.prog 32 #[wv b] (rt (.int .i64 (k4))), (k3 == IntKind.i64.wrap (0 - k4)) = true, PureX Try.prog 26 #[] (rt (bb (true)))]) := by kernel_rfl
theorem least_raw (x : Nat) : runA Try.prog 27 #[wv x] [] [] =
    some (rt (bb (eqv x 57896044618658097711785492504343953926634992332820282019728792003956564819968)), []) := by kernel_rfl

theorem least_z {x : Int} (hx : inR x) : PureX Try.prog 27 #[wz x] (rt (bb (decide (x = least)))) := by
  have h := runA_pure mix (least_raw (nz x)) trivial rfl rfl
  have e := eqv_z hx least_in
  rw [nz_least] at e
  rw [e] at h
  exact h

end Go.Proofs.Ytpbhoamojocbpaa
