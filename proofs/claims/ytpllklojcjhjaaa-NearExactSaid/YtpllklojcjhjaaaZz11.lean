/- Texts of the seat, joined. -/
import Derived.Test.YtpllklojcjhjaaaZz10
/- A bit set, a half, a length: raw. -/
namespace Go.Proofs.Ytpllklojcjhjaaa
open Go Go.RowKit
set_option linter.unusedSimpArgs false
set_option linter.unusedVariables false

def orB (x b : Nat) : Value := .int .u64 (bits BinOp.or IntKind.u64 (Int.ofNat x) (IntKind.u64.wrap (1 * 2 ^ b)))
def WB (x0 x1 x2 x3 p : Nat) : Value :=
  match p / 64 with
  | 0 => .agg #[orB x0 (p % 64), u x1, u x2, u x3]
  | 1 => .agg #[u x0, orB x1 (p % 64), u x2, u x3]
  | 2 => .agg #[u x0, u x1, orB x2 (p % 64), u x3]
  | _ => .agg #[u x0, u x1, u x2, orB x3 (p % 64)]
theorem hv_raw (x0 x1 x2 x3 : Nat) : runA Try.prog 62 #[W4 x0 x1 x2 x3] [] [] = some (rt (.agg #[low1 x0 x1 1, low1 x1 x2 1, low1 x2 x3 1, .int .u64 (Int.fdiv (Int.ofNat x3) (2 ^ 1))]), []) := by kernel_rfl
theorem rf_ok (x : Nat) (k : Int) : runA Try.prog 58 #[wv x] [f] [(63, rt (.int .i64 k))] = some (rt undef, [PureX Try.prog 63 #[wv x] (rt (.int .i64 k)), decide (k < 0) = false]) := by kernel_rfl
theorem rf_pan (x : Nat) (k : Int) : runA Try.prog 58 #[wv x] [t] [(63, rt (.int .i64 k))] = some (errs 2, [PureX Try.prog 63 #[wv x] (rt (.int .i64 k)), decide (k < 0) = true]) := by kernel_rfl
theorem ln_0 (x0 x1 x2 x3 : Nat) : runA Try.prog 76 #[W4 x0 x1 x2 x3] [n, f, n, f, n, f, n, f, n] [] = some (rt (.int .i64 (0)), [(Int.ofNat x0 != 0) = false, (Int.ofNat x1 != 0) = false, (Int.ofNat x2 != 0) = false, (Int.ofNat x3 != 0) = false]) := by kernel_rfl
theorem ln_1 (x0 x1 x2 x3 : Nat) (c0 : Int) : runA Try.prog 76 #[W4 x0 x1 x2 x3] [n, t, n, f, n, f, n, f, n] [(93, rt (.int .i64 c0))] = some (rt (.int .i64 (IntKind.i64.wrap (0 + c0))), [(Int.ofNat x0 != 0) = true, PureX Try.prog 93 #[u x0] (rt (.int .i64 c0)), (Int.ofNat x1 != 0) = false, (Int.ofNat x2 != 0) = false, (Int.ofNat x3 != 0) = false]) := by kernel_rfl
theorem ln_2 (x0 x1 x2 x3 : Nat) (c1 : Int) : runA Try.prog 76 #[W4 x0 x1 x2 x3] [n, f, n, t, n, f, n, f, n] [(93, rt (.int .i64 c1))] = some (rt (.int .i64 (IntKind.i64.wrap (64 + c1))), [(Int.ofNat x0 != 0) = false, (Int.ofNat x1 != 0) = true, PureX Try.prog 93 #[u x1] (rt (.int .i64 c1)), (Int.ofNat x2 != 0) = false, (Int.ofNat x3 != 0) = false]) := by kernel_rfl
theorem ln_3 (x0 x1 x2 x3 : Nat) (c0 c1 : Int) : runA Try.prog 76 #[W4 x0 x1 x2 x3] [n, t, n, t, n, f, n, f, n] [(93, rt (.int .i64 c0)), (93, rt (.int .i64 c1))] = some (rt (.int .i64 (IntKind.i64.wrap (64 + c1))), [(Int.ofNat x0 != 0) = true, PureX Try.prog 93 #[u x0] (rt (.int .i64 c0)), (Int.ofNat x1 != 0) = true, PureX Try.prog 93 #[u x1] (rt (.int .i64 c1)), (Int.ofNat x2 != 0) = false, (Int.ofNat x3 != 0) = false]) := by kernel_rfl
theorem ln_4 (x0 x1 x2 x3 : Nat) (c2 : Int) : runA Try.prog 76 #[W4 x0 x1 x2 x3] [n, f, n, f, n, t, n, f, n] [(93, rt (.int .i64 c2))] = some (rt (.int .i64 (IntKind.i64.wrap (128 + c2))), [(Int.ofNat x0 != 0) = false, (Int.ofNat x1 != 0) = false, (Int.ofNat x2 != 0) = true, PureX Try.prog 93 #[u x2] (rt (.int .i64 c2)), (Int.ofNat x3 != 0) = false]) := by kernel_rfl
theorem ln_5 (x0 x1 x2 x3 : Nat) (c0 c2 : Int) : runA Try.prog 76 #[W4 x0 x1 x2 x3] [n, t, n, f, n, t, n, f, n] [(93, rt (.int .i64 c0)), (93, rt (.int .i64 c2))] = some (rt (.int .i64 (IntKind.i64.wrap (128 + c2))), [(Int.ofNat x0 != 0) = true, PureX Try.prog 93 #[u x0] (rt (.int .i64 c0)), (Int.ofNat x1 != 0) = false, (Int.ofNat x2 != 0) = true, PureX Try.prog 93 #[u x2] (rt (.int .i64 c2)), (Int.ofNat x3 != 0) = false]) := by kernel_rfl
theorem ln_6 (x0 x1 x2 x3 : Nat) (c1 c2 : Int) : runA Try.prog 76 #[W4 x0 x1 x2 x3] [n, f, n, t, n, t, n, f, n] [(93, rt (.int .i64 c1)), (93, rt (.int .i64 c2))] = some (rt (.int .i64 (IntKind.i64.wrap (128 + c2))), [(Int.ofNat x0 != 0) = false, (Int.ofNat x1 != 0) = true, PureX Try.prog 93 #[u x1] (rt (.int .i64 c1)), (Int.ofNat x2 != 0) = true, PureX Try.prog 93 #[u x2] (rt (.int .i64 c2)), (Int.ofNat x3 != 0) = false]) := by kernel_rfl
theorem ln_7 (x0 x1 x2 x3 : Nat) (c0 c1 c2 : Int) : runA Try.prog 76 #[W4 x0 x1 x2 x3] [n, t, n, t, n, t, n, f, n] [(93, rt (.int .i64 c0)), (93, rt (.int .i64 c1)), (93, rt (.int .i64 c2))] = some (rt (.int .i64 (IntKind.i64.wrap (128 + c2))), [(Int.ofNat x0 != 0) = true, PureX Try.prog 93 #[u x0] (rt (.int .i64 c0)), (Int.ofNat x1 != 0) = true, PureX Try.prog 93 #[u x1] (rt (.int .i64 c1)), (Int.ofNat x2 != 0) = true, PureX Try.prog 93 #[u x2] (rt (.int .i64 c2)), (Int.ofNat x3 != 0) = false]) := by kernel_rfl
theorem ln_8 (x0 x1 x2 x3 : Nat) (c3 : Int) : runA Try.prog 76 #[W4 x0 x1 x2 x3] [n, f, n, f, n, f, n, t, n] [(93, rt (.int .i64 c3))] = some (rt (.int .i64 (IntKind.i64.wrap (192 + c3))), [(Int.ofNat x0 != 0) = false, (Int.ofNat x1 != 0) = false, (Int.ofNat x2 != 0) = false, (Int.ofNat x3 != 0) = true, PureX Try.prog 93 #[u x3] (rt (.int .i64 c3))]) := by kernel_rfl
theorem ln_9 (x0 x1 x2 x3 : Nat) (c0 c3 : Int) : runA Try.prog 76 #[W4 x0 x1 x2 x3] [n, t, n, f, n, f, n, t, n] [(93, rt (.int .i64 c0)), (93, rt (.int .i64 c3))] = some (rt (.int .i64 (IntKind.i64.wrap (192 + c3))), [(Int.ofNat x0 != 0) = true, PureX Try.prog 93 #[u x0] (rt (.int .i64 c0)), (Int.ofNat x1 != 0) = false, (Int.ofNat x2 != 0) = false, (Int.ofNat x3 != 0) = true, PureX Try.prog 93 #[u x3] (rt (.int .i64 c3))]) := by kernel_rfl
theorem ln_10 (x0 x1 x2 x3 : Nat) (c1 c3 : Int) : runA Try.prog 76 #[W4 x0 x1 x2 x3] [n, f, n, t, n, f, n, t, n] [(93, rt (.int .i64 c1)), (93, rt (.int .i64 c3))] = some (rt (.int .i64 (IntKind.i64.wrap (192 + c3))), [(Int.ofNat x0 != 0) = false, (Int.ofNat x1 != 0) = true, PureX Try.prog 93 #[u x1] (rt (.int .i64 c1)), (Int.ofNat x2 != 0) = false, (Int.ofNat x3 != 0) = true, PureX Try.prog 93 #[u x3] (rt (.int .i64 c3))]) := by kernel_rfl
theorem ln_11 (x0 x1 x2 x3 : Nat) (c0 c1 c3 : Int) : runA Try.prog 76 #[W4 x0 x1 x2 x3] [n, t, n, t, n, f, n, t, n] [(93, rt (.int .i64 c0)), (93, rt (.int .i64 c1)), (93, rt (.int .i64 c3))] = some (rt (.int .i64 (IntKind.i64.wrap (192 + c3))), [(Int.ofNat x0 != 0) = true, PureX Try.prog 93 #[u x0] (rt (.int .i64 c0)), (Int.ofNat x1 != 0) = true, PureX Try.prog 93 #[u x1] (rt (.int .i64 c1)), (Int.ofNat x2 != 0) = false, (Int.ofNat x3 != 0) = true, PureX Try.prog 93 #[u x3] (rt (.int .i64 c3))]) := by kernel_rfl
theorem ln_12 (x0 x1 x2 x3 : Nat) (c2 c3 : Int) : runA Try.prog 76 #[W4 x0 x1 x2 x3] [n, f, n, f, n, t, n, t, n] [(93, rt (.int .i64 c2)), (93, rt (.int .i64 c3))] = some (rt (.int .i64 (IntKind.i64.wrap (192 + c3))), [(Int.ofNat x0 != 0) = false, (Int.ofNat x1 != 0) = false, (Int.ofNat x2 != 0) = true, PureX Try.prog 93 #[u x2] (rt (.int .i64 c2)), (Int.ofNat x3 != 0) = true, PureX Try.prog 93 #[u x3] (rt (.int .i64 c3))]) := by kernel_rfl
theorem ln_13 (x0 x1 x2 x3 : Nat) (c0 c2 c3 : Int) : runA Try.prog 76 #[W4 x0 x1 x2 x3] [n, t, n, f, n, t, n, t, n] [(93, rt (.int .i64 c0)), (93, rt (.int .i64 c2)), (93, rt (.int .i64 c3))] = some (rt (.int .i64 (IntKind.i64.wrap (192 + c3))), [(Int.ofNat x0 != 0) = true, PureX Try.prog 93 #[u x0] (rt (.int .i64 c0)), (Int.ofNat x1 != 0) = false, (Int.ofNat x2 != 0) = true, PureX Try.prog 93 #[u x2] (rt (.int .i64 c2)), (Int.ofNat x3 != 0) = true, PureX Try.prog 93 #[u x3] (rt (.int .i64 c3))]) := by kernel_rfl
theorem ln_14 (x0 x1 x2 x3 : Nat) (c1 c2 c3 : Int) : runA Try.prog 76 #[W4 x0 x1 x2 x3] [n, f, n, t, n, t, n, t, n] [(93, rt (.int .i64 c1)), (93, rt (.int .i64 c2)), (93, rt (.int .i64 c3))] = some (rt (.int .i64 (IntKind.i64.wrap (192 + c3))), [(Int.ofNat x0 != 0) = false, (Int.ofNat x1 != 0) = true, PureX Try.prog 93 #[u x1] (rt (.int .i64 c1)), (Int.ofNat x2 != 0) = true, PureX Try.prog 93 #[u x2] (rt (.int .i64 c2)), (Int.ofNat x3 != 0) = true, PureX Try.prog 93 #[u x3] (rt (.int .i64 c3))]) := by kernel_rfl
theorem ln_15 (x0 x1 x2 x3 : Nat) (c0 c1 c2 c3 : Int) : runA Try.prog 76 #[W4 x0 x1 x2 x3] [n, t, n, t, n, t, n, t, n] [(93, rt (.int .i64 c0)), (93, rt (.int .i64 c1)), (93, rt (.int .i64 c2)), (93, rt (.int .i64 c3))] = some (rt (.int .i64 (IntKind.i64.wrap (192 + c3))), [(Int.ofNat x0 != 0) = true, PureX Try.prog 93 #[u x0] (rt (.int .i64 c0)), (Int.ofNat x1 != 0) = true, PureX Try.prog 93 #[u x1] (rt (.int .i64 c1)), (Int.ofNat x2 != 0) = true, PureX Try.prog 93 #[u x2] (rt (.int .i64 c2)), (Int.ofNat x3 != 0) = true, PureX Try.prog 93 #[u x3] (rt (.int .i64 c3))]) := by kernel_rfl
theorem wb_0 (x0 x1 x2 x3 : Nat) : runA Try.prog 61 #[W4 x0 x1 x2 x3, .int .i64 (Int.ofNat 0)] [] [] = some (rt (WB x0 x1 x2 x3 0), []) := by kernel_rfl
theorem wb_1 (x0 x1 x2 x3 : Nat) : runA Try.prog 61 #[W4 x0 x1 x2 x3, .int .i64 (Int.ofNat 2)] [] [] = some (rt (WB x0 x1 x2 x3 2), []) := by kernel_rfl
theorem wb_2 (x0 x1 x2 x3 : Nat) : runA Try.prog 61 #[W4 x0 x1 x2 x3, .int .i64 (Int.ofNat 4)] [] [] = some (rt (WB x0 x1 x2 x3 4), []) := by kernel_rfl
theorem wb_3 (x0 x1 x2 x3 : Nat) : runA Try.prog 61 #[W4 x0 x1 x2 x3, .int .i64 (Int.ofNat 6)] [] [] = some (rt (WB x0 x1 x2 x3 6), []) := by kernel_rfl
theorem wb_4 (x0 x1 x2 x3 : Nat) : runA Try.prog 61 #[W4 x0 x1 x2 x3, .int .i64 (Int.ofNat 8)] [] [] = some (rt (WB x0 x1 x2 x3 8), []) := by kernel_rfl
theorem wb_5 (x0 x1 x2 x3 : Nat) : runA Try.prog 61 #[W4 x0 x1 x2 x3, .int .i64 (Int.ofNat 10)] [] [] = some (rt (WB x0 x1 x2 x3 10), []) := by kernel_rfl
theorem wb_6 (x0 x1 x2 x3 : Nat) : runA Try.prog 61 #[W4 x0 x1 x2 x3, .int .i64 (Int.ofNat 12)] [] [] = some (rt (WB x0 x1 x2 x3 12), []) := by kernel_rfl
theorem wb_7 (x0 x1 x2 x3 : Nat) : runA Try.prog 61 #[W4 x0 x1 x2 x3, .int .i64 (Int.ofNat 14)] [] [] = some (rt (WB x0 x1 x2 x3 14), []) := by kernel_rfl
theorem wb_8 (x0 x1 x2 x3 : Nat) : runA Try.prog 61 #[W4 x0 x1 x2 x3, .int .i64 (Int.ofNat 16)] [] [] = some (rt (WB x0 x1 x2 x3 16), []) := by kernel_rfl
theorem wb_9 (x0 x1 x2 x3 : Nat) : runA Try.prog 61 #[W4 x0 x1 x2 x3, .int .i64 (Int.ofNat 18)] [] [] = some (rt (WB x0 x1 x2 x3 18), []) := by kernel_rfl
theorem wb_10 (x0 x1 x2 x3 : Nat) : runA Try.prog 61 #[W4 x0 x1 x2 x3, .int .i64 (Int.ofNat 20)] [] [] = some (rt (WB x0 x1 x2 x3 20), []) := by kernel_rfl
theorem wb_11 (x0 x1 x2 x3 : Nat) : runA Try.prog 61 #[W4 x0 x1 x2 x3, .int .i64 (Int.ofNat 22)] [] [] = some (rt (WB x0 x1 x2 x3 22), []) := by kernel_rfl
theorem wb_12 (x0 x1 x2 x3 : Nat) : runA Try.prog 61 #[W4 x0 x1 x2 x3, .int .i64 (Int.ofNat 24)] [] [] = some (rt (WB x0 x1 x2 x3 24), []) := by kernel_rfl
theorem wb_13 (x0 x1 x2 x3 : Nat) : runA Try.prog 61 #[W4 x0 x1 x2 x3, .int .i64 (Int.ofNat 26)] [] [] = some (rt (WB x0 x1 x2 x3 26), []) := by kernel_rfl
theorem wb_14 (x0 x1 x2 x3 : Nat) : runA Try.prog 61 #[W4 x0 x1 x2 x3, .int .i64 (Int.ofNat 28)] [] [] = some (rt (WB x0 x1 x2 x3 28), []) := by kernel_rfl
theorem wb_15 (x0 x1 x2 x3 : Nat) : runA Try.prog 61 #[W4 x0 x1 x2 x3, .int .i64 (Int.ofNat 30)] [] [] = some (rt (WB x0 x1 x2 x3 30), []) := by kernel_rfl
theorem wb_16 (x0 x1 x2 x3 : Nat) : runA Try.prog 61 #[W4 x0 x1 x2 x3, .int .i64 (Int.ofNat 32)] [] [] = some (rt (WB x0 x1 x2 x3 32), []) := by kernel_rfl
theorem wb_17 (x0 x1 x2 x3 : Nat) : runA Try.prog 61 #[W4 x0 x1 x2 x3, .int .i64 (Int.ofNat 34)] [] [] = some (rt (WB x0 x1 x2 x3 34), []) := by kernel_rfl
theorem wb_18 (x0 x1 x2 x3 : Nat) : runA Try.prog 61 #[W4 x0 x1 x2 x3, .int .i64 (Int.ofNat 36)] [] [] = some (rt (WB x0 x1 x2 x3 36), []) := by kernel_rfl
theorem wb_19 (x0 x1 x2 x3 : Nat) : runA Try.prog 61 #[W4 x0 x1 x2 x3, .int .i64 (Int.ofNat 38)] [] [] = some (rt (WB x0 x1 x2 x3 38), []) := by kernel_rfl
theorem wb_20 (x0 x1 x2 x3 : Nat) : runA Try.prog 61 #[W4 x0 x1 x2 x3, .int .i64 (Int.ofNat 40)] [] [] = some (rt (WB x0 x1 x2 x3 40), []) := by kernel_rfl
theorem wb_21 (x0 x1 x2 x3 : Nat) : runA Try.prog 61 #[W4 x0 x1 x2 x3, .int .i64 (Int.ofNat 42)] [] [] = some (rt (WB x0 x1 x2 x3 42), []) := by kernel_rfl
theorem wb_22 (x0 x1 x2 x3 : Nat) : runA Try.prog 61 #[W4 x0 x1 x2 x3, .int .i64 (Int.ofNat 44)] [] [] = some (rt (WB x0 x1 x2 x3 44), []) := by kernel_rfl
theorem wb_23 (x0 x1 x2 x3 : Nat) : runA Try.prog 61 #[W4 x0 x1 x2 x3, .int .i64 (Int.ofNat 46)] [] [] = some (rt (WB x0 x1 x2 x3 46), []) := by kernel_rfl
theorem wb_24 (x0 x1 x2 x3 : Nat) : runA Try.prog 61 #[W4 x0 x1 x2 x3, .int .i64 (Int.ofNat 48)] [] [] = some (rt (WB x0 x1 x2 x3 48), []) := by kernel_rfl
theorem wb_25 (x0 x1 x2 x3 : Nat) : runA Try.prog 61 #[W4 x0 x1 x2 x3, .int .i64 (Int.ofNat 50)] [] [] = some (rt (WB x0 x1 x2 x3 50), []) := by kernel_rfl
theorem wb_26 (x0 x1 x2 x3 : Nat) : runA Try.prog 61 #[W4 x0 x1 x2 x3, .int .i64 (Int.ofNat 52)] [] [] = some (rt (WB x0 x1 x2 x3 52), []) := by kernel_rfl
theorem wb_27 (x0 x1 x2 x3 : Nat) : runA Try.prog 61 #[W4 x0 x1 x2 x3, .int .i64 (Int.ofNat 54)] [] [] = some (rt (WB x0 x1 x2 x3 54), []) := by kernel_rfl
theorem wb_28 (x0 x1 x2 x3 : Nat) : runA Try.prog 61 #[W4 x0 x1 x2 x3, .int .i64 (Int.ofNat 56)] [] [] = some (rt (WB x0 x1 x2 x3 56), []) := by kernel_rfl
theorem wb_29 (x0 x1 x2 x3 : Nat) : runA Try.prog 61 #[W4 x0 x1 x2 x3, .int .i64 (Int.ofNat 58)] [] [] = some (rt (WB x0 x1 x2 x3 58), []) := by kernel_rfl
theorem wb_30 (x0 x1 x2 x3 : Nat) : runA Try.prog 61 #[W4 x0 x1 x2 x3, .int .i64 (Int.ofNat 60)] [] [] = some (rt (WB x0 x1 x2 x3 60), []) := by kernel_rfl
theorem wb_31 (x0 x1 x2 x3 : Nat) : runA Try.prog 61 #[W4 x0 x1 x2 x3, .int .i64 (Int.ofNat 62)] [] [] = some (rt (WB x0 x1 x2 x3 62), []) := by kernel_rfl
theorem wb_32 (x0 x1 x2 x3 : Nat) : runA Try.prog 61 #[W4 x0 x1 x2 x3, .int .i64 (Int.ofNat 64)] [] [] = some (rt (WB x0 x1 x2 x3 64), []) := by kernel_rfl
theorem wb_33 (x0 x1 x2 x3 : Nat) : runA Try.prog 61 #[W4 x0 x1 x2 x3, .int .i64 (Int.ofNat 66)] [] [] = some (rt (WB x0 x1 x2 x3 66), []) := by kernel_rfl
theorem wb_34 (x0 x1 x2 x3 : Nat) : runA Try.prog 61 #[W4 x0 x1 x2 x3, .int .i64 (Int.ofNat 68)] [] [] = some (rt (WB x0 x1 x2 x3 68), []) := by kernel_rfl
theorem wb_35 (x0 x1 x2 x3 : Nat) : runA Try.prog 61 #[W4 x0 x1 x2 x3, .int .i64 (Int.ofNat 70)] [] [] = some (rt (WB x0 x1 x2 x3 70), []) := by kernel_rfl
theorem wb_36 (x0 x1 x2 x3 : Nat) : runA Try.prog 61 #[W4 x0 x1 x2 x3, .int .i64 (Int.ofNat 72)] [] [] = some (rt (WB x0 x1 x2 x3 72), []) := by kernel_rfl
theorem wb_37 (x0 x1 x2 x3 : Nat) : runA Try.prog 61 #[W4 x0 x1 x2 x3, .int .i64 (Int.ofNat 74)] [] [] = some (rt (WB x0 x1 x2 x3 74), []) := by kernel_rfl
theorem wb_38 (x0 x1 x2 x3 : Nat) : runA Try.prog 61 #[W4 x0 x1 x2 x3, .int .i64 (Int.ofNat 76)] [] [] = some (rt (WB x0 x1 x2 x3 76), []) := by kernel_rfl
theorem wb_39 (x0 x1 x2 x3 : Nat) : runA Try.prog 61 #[W4 x0 x1 x2 x3, .int .i64 (Int.ofNat 78)] [] [] = some (rt (WB x0 x1 x2 x3 78), []) := by kernel_rfl
theorem wb_40 (x0 x1 x2 x3 : Nat) : runA Try.prog 61 #[W4 x0 x1 x2 x3, .int .i64 (Int.ofNat 80)] [] [] = some (rt (WB x0 x1 x2 x3 80), []) := by kernel_rfl
theorem wb_41 (x0 x1 x2 x3 : Nat) : runA Try.prog 61 #[W4 x0 x1 x2 x3, .int .i64 (Int.ofNat 82)] [] [] = some (rt (WB x0 x1 x2 x3 82), []) := by kernel_rfl
theorem wb_42 (x0 x1 x2 x3 : Nat) : runA Try.prog 61 #[W4 x0 x1 x2 x3, .int .i64 (Int.ofNat 84)] [] [] = some (rt (WB x0 x1 x2 x3 84), []) := by kernel_rfl
theorem wb_43 (x0 x1 x2 x3 : Nat) : runA Try.prog 61 #[W4 x0 x1 x2 x3, .int .i64 (Int.ofNat 86)] [] [] = some (rt (WB x0 x1 x2 x3 86), []) := by kernel_rfl
theorem wb_44 (x0 x1 x2 x3 : Nat) : runA Try.prog 61 #[W4 x0 x1 x2 x3, .int .i64 (Int.ofNat 88)] [] [] = some (rt (WB x0 x1 x2 x3 88), []) := by kernel_rfl
theorem wb_45 (x0 x1 x2 x3 : Nat) : runA Try.prog 61 #[W4 x0 x1 x2 x3, .int .i64 (Int.ofNat 90)] [] [] = some (rt (WB x0 x1 x2 x3 90), []) := by kernel_rfl
theorem wb_46 (x0 x1 x2 x3 : Nat) : runA Try.prog 61 #[W4 x0 x1 x2 x3, .int .i64 (Int.ofNat 92)] [] [] = some (rt (WB x0 x1 x2 x3 92), []) := by kernel_rfl
theorem wb_47 (x0 x1 x2 x3 : Nat) : runA Try.prog 61 #[W4 x0 x1 x2 x3, .int .i64 (Int.ofNat 94)] [] [] = some (rt (WB x0 x1 x2 x3 94), []) := by kernel_rfl
theorem wb_48 (x0 x1 x2 x3 : Nat) : runA Try.prog 61 #[W4 x0 x1 x2 x3, .int .i64 (Int.ofNat 96)] [] [] = some (rt (WB x0 x1 x2 x3 96), []) := by kernel_rfl
theorem wb_49 (x0 x1 x2 x3 : Nat) : runA Try.prog 61 #[W4 x0 x1 x2 x3, .int .i64 (Int.ofNat 98)] [] [] = some (rt (WB x0 x1 x2 x3 98), []) := by kernel_rfl
theorem wb_50 (x0 x1 x2 x3 : Nat) : runA Try.prog 61 #[W4 x0 x1 x2 x3, .int .i64 (Int.ofNat 100)] [] [] = some (rt (WB x0 x1 x2 x3 100), []) := by kernel_rfl
theorem wb_51 (x0 x1 x2 x3 : Nat) : runA Try.prog 61 #[W4 x0 x1 x2 x3, .int .i64 (Int.ofNat 102)] [] [] = some (rt (WB x0 x1 x2 x3 102), []) := by kernel_rfl
theorem wb_52 (x0 x1 x2 x3 : Nat) : runA Try.prog 61 #[W4 x0 x1 x2 x3, .int .i64 (Int.ofNat 104)] [] [] = some (rt (WB x0 x1 x2 x3 104), []) := by kernel_rfl
theorem wb_53 (x0 x1 x2 x3 : Nat) : runA Try.prog 61 #[W4 x0 x1 x2 x3, .int .i64 (Int.ofNat 106)] [] [] = some (rt (WB x0 x1 x2 x3 106), []) := by kernel_rfl
theorem wb_54 (x0 x1 x2 x3 : Nat) : runA Try.prog 61 #[W4 x0 x1 x2 x3, .int .i64 (Int.ofNat 108)] [] [] = some (rt (WB x0 x1 x2 x3 108), []) := by kernel_rfl
theorem wb_55 (x0 x1 x2 x3 : Nat) : runA Try.prog 61 #[W4 x0 x1 x2 x3, .int .i64 (Int.ofNat 110)] [] [] = some (rt (WB x0 x1 x2 x3 110), []) := by kernel_rfl
theorem wb_56 (x0 x1 x2 x3 : Nat) : runA Try.prog 61 #[W4 x0 x1 x2 x3, .int .i64 (Int.ofNat 112)] [] [] = some (rt (WB x0 x1 x2 x3 112), []) := by kernel_rfl
theorem wb_57 (x0 x1 x2 x3 : Nat) : runA Try.prog 61 #[W4 x0 x1 x2 x3, .int .i64 (Int.ofNat 114)] [] [] = some (rt (WB x0 x1 x2 x3 114), []) := by kernel_rfl
theorem wb_58 (x0 x1 x2 x3 : Nat) : runA Try.prog 61 #[W4 x0 x1 x2 x3, .int .i64 (Int.ofNat 116)] [] [] = some (rt (WB x0 x1 x2 x3 116), []) := by kernel_rfl
theorem wb_59 (x0 x1 x2 x3 : Nat) : runA Try.prog 61 #[W4 x0 x1 x2 x3, .int .i64 (Int.ofNat 118)] [] [] = some (rt (WB x0 x1 x2 x3 118), []) := by kernel_rfl
theorem wb_60 (x0 x1 x2 x3 : Nat) : runA Try.prog 61 #[W4 x0 x1 x2 x3, .int .i64 (Int.ofNat 120)] [] [] = some (rt (WB x0 x1 x2 x3 120), []) := by kernel_rfl
theorem wb_61 (x0 x1 x2 x3 : Nat) : runA Try.prog 61 #[W4 x0 x1 x2 x3, .int .i64 (Int.ofNat 122)] [] [] = some (rt (WB x0 x1 x2 x3 122), []) := by kernel_rfl
theorem wb_62 (x0 x1 x2 x3 : Nat) : runA Try.prog 61 #[W4 x0 x1 x2 x3, .int .i64 (Int.ofNat 124)] [] [] = some (rt (WB x0 x1 x2 x3 124), []) := by kernel_rfl
theorem wb_63 (x0 x1 x2 x3 : Nat) : runA Try.prog 61 #[W4 x0 x1 x2 x3, .int .i64 (Int.ofNat 126)] [] [] = some (rt (WB x0 x1 x2 x3 126), []) := by kernel_rfl
theorem wb_64 (x0 x1 x2 x3 : Nat) : runA Try.prog 61 #[W4 x0 x1 x2 x3, .int .i64 (Int.ofNat 128)] [] [] = some (rt (WB x0 x1 x2 x3 128), []) := by kernel_rfl
theorem wb_65 (x0 x1 x2 x3 : Nat) : runA Try.prog 61 #[W4 x0 x1 x2 x3, .int .i64 (Int.ofNat 130)] [] [] = some (rt (WB x0 x1 x2 x3 130), []) := by kernel_rfl
theorem wb_66 (x0 x1 x2 x3 : Nat) : runA Try.prog 61 #[W4 x0 x1 x2 x3, .int .i64 (Int.ofNat 132)] [] [] = some (rt (WB x0 x1 x2 x3 132), []) := by kernel_rfl
theorem wb_67 (x0 x1 x2 x3 : Nat) : runA Try.prog 61 #[W4 x0 x1 x2 x3, .int .i64 (Int.ofNat 134)] [] [] = some (rt (WB x0 x1 x2 x3 134), []) := by kernel_rfl
theorem wb_68 (x0 x1 x2 x3 : Nat) : runA Try.prog 61 #[W4 x0 x1 x2 x3, .int .i64 (Int.ofNat 136)] [] [] = some (rt (WB x0 x1 x2 x3 136), []) := by kernel_rfl
theorem wb_69 (x0 x1 x2 x3 : Nat) : runA Try.prog 61 #[W4 x0 x1 x2 x3, .int .i64 (Int.ofNat 138)] [] [] = some (rt (WB x0 x1 x2 x3 138), []) := by kernel_rfl
theorem wb_70 (x0 x1 x2 x3 : Nat) : runA Try.prog 61 #[W4 x0 x1 x2 x3, .int .i64 (Int.ofNat 140)] [] [] = some (rt (WB x0 x1 x2 x3 140), []) := by kernel_rfl
theorem wb_71 (x0 x1 x2 x3 : Nat) : runA Try.prog 61 #[W4 x0 x1 x2 x3, .int .i64 (Int.ofNat 142)] [] [] = some (rt (WB x0 x1 x2 x3 142), []) := by kernel_rfl
theorem wb_72 (x0 x1 x2 x3 : Nat) : runA Try.prog 61 #[W4 x0 x1 x2 x3, .int .i64 (Int.ofNat 144)] [] [] = some (rt (WB x0 x1 x2 x3 144), []) := by kernel_rfl
theorem wb_73 (x0 x1 x2 x3 : Nat) : runA Try.prog 61 #[W4 x0 x1 x2 x3, .int .i64 (Int.ofNat 146)] [] [] = some (rt (WB x0 x1 x2 x3 146), []) := by kernel_rfl
theorem wb_74 (x0 x1 x2 x3 : Nat) : runA Try.prog 61 #[W4 x0 x1 x2 x3, .int .i64 (Int.ofNat 148)] [] [] = some (rt (WB x0 x1 x2 x3 148), []) := by kernel_rfl
theorem wb_75 (x0 x1 x2 x3 : Nat) : runA Try.prog 61 #[W4 x0 x1 x2 x3, .int .i64 (Int.ofNat 150)] [] [] = some (rt (WB x0 x1 x2 x3 150), []) := by kernel_rfl
theorem wb_76 (x0 x1 x2 x3 : Nat) : runA Try.prog 61 #[W4 x0 x1 x2 x3, .int .i64 (Int.ofNat 152)] [] [] = some (rt (WB x0 x1 x2 x3 152), []) := by kernel_rfl
theorem wb_77 (x0 x1 x2 x3 : Nat) : runA Try.prog 61 #[W4 x0 x1 x2 x3, .int .i64 (Int.ofNat 154)] [] [] = some (rt (WB x0 x1 x2 x3 154), []) := by kernel_rfl
theorem wb_78 (x0 x1 x2 x3 : Nat) : runA Try.prog 61 #[W4 x0 x1 x2 x3, .int .i64 (Int.ofNat 156)] [] [] = some (rt (WB x0 x1 x2 x3 156), []) := by kernel_rfl
theorem wb_79 (x0 x1 x2 x3 : Nat) : runA Try.prog 61 #[W4 x0 x1 x2 x3, .int .i64 (Int.ofNat 158)] [] [] = some (rt (WB x0 x1 x2 x3 158), []) := by kernel_rfl
theorem wb_80 (x0 x1 x2 x3 : Nat) : runA Try.prog 61 #[W4 x0 x1 x2 x3, .int .i64 (Int.ofNat 160)] [] [] = some (rt (WB x0 x1 x2 x3 160), []) := by kernel_rfl
theorem wb_81 (x0 x1 x2 x3 : Nat) : runA Try.prog 61 #[W4 x0 x1 x2 x3, .int .i64 (Int.ofNat 162)] [] [] = some (rt (WB x0 x1 x2 x3 162), []) := by kernel_rfl
theorem wb_82 (x0 x1 x2 x3 : Nat) : runA Try.prog 61 #[W4 x0 x1 x2 x3, .int .i64 (Int.ofNat 164)] [] [] = some (rt (WB x0 x1 x2 x3 164), []) := by kernel_rfl
theorem wb_83 (x0 x1 x2 x3 : Nat) : runA Try.prog 61 #[W4 x0 x1 x2 x3, .int .i64 (Int.ofNat 166)] [] [] = some (rt (WB x0 x1 x2 x3 166), []) := by kernel_rfl
theorem wb_84 (x0 x1 x2 x3 : Nat) : runA Try.prog 61 #[W4 x0 x1 x2 x3, .int .i64 (Int.ofNat 168)] [] [] = some (rt (WB x0 x1 x2 x3 168), []) := by kernel_rfl
theorem wb_85 (x0 x1 x2 x3 : Nat) : runA Try.prog 61 #[W4 x0 x1 x2 x3, .int .i64 (Int.ofNat 170)] [] [] = some (rt (WB x0 x1 x2 x3 170), []) := by kernel_rfl
theorem wb_86 (x0 x1 x2 x3 : Nat) : runA Try.prog 61 #[W4 x0 x1 x2 x3, .int .i64 (Int.ofNat 172)] [] [] = some (rt (WB x0 x1 x2 x3 172), []) := by kernel_rfl
theorem wb_87 (x0 x1 x2 x3 : Nat) : runA Try.prog 61 #[W4 x0 x1 x2 x3, .int .i64 (Int.ofNat 174)] [] [] = some (rt (WB x0 x1 x2 x3 174), []) := by kernel_rfl
theorem wb_88 (x0 x1 x2 x3 : Nat) : runA Try.prog 61 #[W4 x0 x1 x2 x3, .int .i64 (Int.ofNat 176)] [] [] = some (rt (WB x0 x1 x2 x3 176), []) := by kernel_rfl
theorem wb_89 (x0 x1 x2 x3 : Nat) : runA Try.prog 61 #[W4 x0 x1 x2 x3, .int .i64 (Int.ofNat 178)] [] [] = some (rt (WB x0 x1 x2 x3 178), []) := by kernel_rfl
theorem wb_90 (x0 x1 x2 x3 : Nat) : runA Try.prog 61 #[W4 x0 x1 x2 x3, .int .i64 (Int.ofNat 180)] [] [] = some (rt (WB x0 x1 x2 x3 180), []) := by kernel_rfl
theorem wb_91 (x0 x1 x2 x3 : Nat) : runA Try.prog 61 #[W4 x0 x1 x2 x3, .int .i64 (Int.ofNat 182)] [] [] = some (rt (WB x0 x1 x2 x3 182), []) := by kernel_rfl
theorem wb_92 (x0 x1 x2 x3 : Nat) : runA Try.prog 61 #[W4 x0 x1 x2 x3, .int .i64 (Int.ofNat 184)] [] [] = some (rt (WB x0 x1 x2 x3 184), []) := by kernel_rfl
theorem wb_93 (x0 x1 x2 x3 : Nat) : runA Try.prog 61 #[W4 x0 x1 x2 x3, .int .i64 (Int.ofNat 186)] [] [] = some (rt (WB x0 x1 x2 x3 186), []) := by kernel_rfl
theorem wb_94 (x0 x1 x2 x3 : Nat) : runA Try.prog 61 #[W4 x0 x1 x2 x3, .int .i64 (Int.ofNat 188)] [] [] = some (rt (WB x0 x1 x2 x3 188), []) := by kernel_rfl
theorem wb_95 (x0 x1 x2 x3 : Nat) : runA Try.prog 61 #[W4 x0 x1 x2 x3, .int .i64 (Int.ofNat 190)] [] [] = some (rt (WB x0 x1 x2 x3 190), []) := by kernel_rfl
theorem wb_96 (x0 x1 x2 x3 : Nat) : runA Try.prog 61 #[W4 x0 x1 x2 x3, .int .i64 (Int.ofNat 192)] [] [] = some (rt (WB x0 x1 x2 x3 192), []) := by kernel_rfl
theorem wb_97 (x0 x1 x2 x3 : Nat) : runA Try.prog 61 #[W4 x0 x1 x2 x3, .int .i64 (Int.ofNat 194)] [] [] = some (rt (WB x0 x1 x2 x3 194), []) := by kernel_rfl
theorem wb_98 (x0 x1 x2 x3 : Nat) : runA Try.prog 61 #[W4 x0 x1 x2 x3, .int .i64 (Int.ofNat 196)] [] [] = some (rt (WB x0 x1 x2 x3 196), []) := by kernel_rfl
theorem wb_99 (x0 x1 x2 x3 : Nat) : runA Try.prog 61 #[W4 x0 x1 x2 x3, .int .i64 (Int.ofNat 198)] [] [] = some (rt (WB x0 x1 x2 x3 198), []) := by kernel_rfl
theorem wb_100 (x0 x1 x2 x3 : Nat) : runA Try.prog 61 #[W4 x0 x1 x2 x3, .int .i64 (Int.ofNat 200)] [] [] = some (rt (WB x0 x1 x2 x3 200), []) := by kernel_rfl
theorem wb_101 (x0 x1 x2 x3 : Nat) : runA Try.prog 61 #[W4 x0 x1 x2 x3, .int .i64 (Int.ofNat 202)] [] [] = some (rt (WB x0 x1 x2 x3 202), []) := by kernel_rfl
theorem wb_102 (x0 x1 x2 x3 : Nat) : runA Try.prog 61 #[W4 x0 x1 x2 x3, .int .i64 (Int.ofNat 204)] [] [] = some (rt (WB x0 x1 x2 x3 204), []) := by kernel_rfl
theorem wb_103 (x0 x1 x2 x3 : Nat) : runA Try.prog 61 #[W4 x0 x1 x2 x3, .int .i64 (Int.ofNat 206)] [] [] = some (rt (WB x0 x1 x2 x3 206), []) := by kernel_rfl
theorem wb_104 (x0 x1 x2 x3 : Nat) : runA Try.prog 61 #[W4 x0 x1 x2 x3, .int .i64 (Int.ofNat 208)] [] [] = some (rt (WB x0 x1 x2 x3 208), []) := by kernel_rfl
theorem wb_105 (x0 x1 x2 x3 : Nat) : runA Try.prog 61 #[W4 x0 x1 x2 x3, .int .i64 (Int.ofNat 210)] [] [] = some (rt (WB x0 x1 x2 x3 210), []) := by kernel_rfl
theorem wb_106 (x0 x1 x2 x3 : Nat) : runA Try.prog 61 #[W4 x0 x1 x2 x3, .int .i64 (Int.ofNat 212)] [] [] = some (rt (WB x0 x1 x2 x3 212), []) := by kernel_rfl
theorem wb_107 (x0 x1 x2 x3 : Nat) : runA Try.prog 61 #[W4 x0 x1 x2 x3, .int .i64 (Int.ofNat 214)] [] [] = some (rt (WB x0 x1 x2 x3 214), []) := by kernel_rfl
theorem wb_108 (x0 x1 x2 x3 : Nat) : runA Try.prog 61 #[W4 x0 x1 x2 x3, .int .i64 (Int.ofNat 216)] [] [] = some (rt (WB x0 x1 x2 x3 216), []) := by kernel_rfl
theorem wb_109 (x0 x1 x2 x3 : Nat) : runA Try.prog 61 #[W4 x0 x1 x2 x3, .int .i64 (Int.ofNat 218)] [] [] = some (rt (WB x0 x1 x2 x3 218), []) := by kernel_rfl
theorem wb_110 (x0 x1 x2 x3 : Nat) : runA Try.prog 61 #[W4 x0 x1 x2 x3, .int .i64 (Int.ofNat 220)] [] [] = some (rt (WB x0 x1 x2 x3 220), []) := by kernel_rfl
theorem wb_111 (x0 x1 x2 x3 : Nat) : runA Try.prog 61 #[W4 x0 x1 x2 x3, .int .i64 (Int.ofNat 222)] [] [] = some (rt (WB x0 x1 x2 x3 222), []) := by kernel_rfl
theorem wb_112 (x0 x1 x2 x3 : Nat) : runA Try.prog 61 #[W4 x0 x1 x2 x3, .int .i64 (Int.ofNat 224)] [] [] = some (rt (WB x0 x1 x2 x3 224), []) := by kernel_rfl
theorem wb_113 (x0 x1 x2 x3 : Nat) : runA Try.prog 61 #[W4 x0 x1 x2 x3, .int .i64 (Int.ofNat 226)] [] [] = some (rt (WB x0 x1 x2 x3 226), []) := by kernel_rfl
theorem wb_114 (x0 x1 x2 x3 : Nat) : runA Try.prog 61 #[W4 x0 x1 x2 x3, .int .i64 (Int.ofNat 228)] [] [] = some (rt (WB x0 x1 x2 x3 228), []) := by kernel_rfl
theorem wb_115 (x0 x1 x2 x3 : Nat) : runA Try.prog 61 #[W4 x0 x1 x2 x3, .int .i64 (Int.ofNat 230)] [] [] = some (rt (WB x0 x1 x2 x3 230), []) := by kernel_rfl
theorem wb_116 (x0 x1 x2 x3 : Nat) : runA Try.prog 61 #[W4 x0 x1 x2 x3, .int .i64 (Int.ofNat 232)] [] [] = some (rt (WB x0 x1 x2 x3 232), []) := by kernel_rfl
theorem wb_117 (x0 x1 x2 x3 : Nat) : runA Try.prog 61 #[W4 x0 x1 x2 x3, .int .i64 (Int.ofNat 234)] [] [] = some (rt (WB x0 x1 x2 x3 234), []) := by kernel_rfl
theorem wb_118 (x0 x1 x2 x3 : Nat) : runA Try.prog 61 #[W4 x0 x1 x2 x3, .int .i64 (Int.ofNat 236)] [] [] = some (rt (WB x0 x1 x2 x3 236), []) := by kernel_rfl
theorem wb_119 (x0 x1 x2 x3 : Nat) : runA Try.prog 61 #[W4 x0 x1 x2 x3, .int .i64 (Int.ofNat 238)] [] [] = some (rt (WB x0 x1 x2 x3 238), []) := by kernel_rfl
theorem wb_120 (x0 x1 x2 x3 : Nat) : runA Try.prog 61 #[W4 x0 x1 x2 x3, .int .i64 (Int.ofNat 240)] [] [] = some (rt (WB x0 x1 x2 x3 240), []) := by kernel_rfl
theorem wb_121 (x0 x1 x2 x3 : Nat) : runA Try.prog 61 #[W4 x0 x1 x2 x3, .int .i64 (Int.ofNat 242)] [] [] = some (rt (WB x0 x1 x2 x3 242), []) := by kernel_rfl
theorem wb_122 (x0 x1 x2 x3 : Nat) : runA Try.prog 61 #[W4 x0 x1 x2 x3, .int .i64 (Int.ofNat 244)] [] [] = some (rt (WB x0 x1 x2 x3 244), []) := by kernel_rfl
theorem wb_123 (x0 x1 x2 x3 : Nat) : runA Try.prog 61 #[W4 x0 x1 x2 x3, .int .i64 (Int.ofNat 246)] [] [] = some (rt (WB x0 x1 x2 x3 246), []) := by kernel_rfl
theorem wb_124 (x0 x1 x2 x3 : Nat) : runA Try.prog 61 #[W4 x0 x1 x2 x3, .int .i64 (Int.ofNat 248)] [] [] = some (rt (WB x0 x1 x2 x3 248), []) := by kernel_rfl
theorem wb_125 (x0 x1 x2 x3 : Nat) : runA Try.prog 61 #[W4 x0 x1 x2 x3, .int .i64 (Int.ofNat 250)] [] [] = some (rt (WB x0 x1 x2 x3 250), []) := by kernel_rfl
theorem wb_126 (x0 x1 x2 x3 : Nat) : runA Try.prog 61 #[W4 x0 x1 x2 x3, .int .i64 (Int.ofNat 252)] [] [] = some (rt (WB x0 x1 x2 x3 252), []) := by kernel_rfl
theorem wb_127 (x0 x1 x2 x3 : Nat) : runA Try.prog 61 #[W4 x0 x1 x2 x3, .int .i64 (Int.ofNat 254)] [] [] = some (rt (WB x0 x1 x2 x3 254), []) := by kernel_rfl
theorem wb_raw (x0 x1 x2 x3 k : Nat) (hk : k < 128) : runA Try.prog 61 #[W4 x0 x1 x2 x3, .int .i64 (Int.ofNat (2 * k))] [] [] = some (rt (WB x0 x1 x2 x3 (2 * k)), []) := by
  by_cases h64 : k < 64
  · by_cases h32 : k < 32
    · by_cases h16 : k < 16
      · by_cases h8 : k < 8
        · by_cases h4 : k < 4
          · by_cases h2 : k < 2
            · by_cases h1 : k < 1
              · obtain rfl : k = 0 := by omega
                exact wb_0 x0 x1 x2 x3
              · obtain rfl : k = 1 := by omega
                exact wb_1 x0 x1 x2 x3
            · by_cases h3 : k < 3
              · obtain rfl : k = 2 := by omega
                exact wb_2 x0 x1 x2 x3
              · obtain rfl : k = 3 := by omega
                exact wb_3 x0 x1 x2 x3
          · by_cases h6 : k < 6
            · by_cases h5 : k < 5
              · obtain rfl : k = 4 := by omega
                exact wb_4 x0 x1 x2 x3
              · obtain rfl : k = 5 := by omega
                exact wb_5 x0 x1 x2 x3
            · by_cases h7 : k < 7
              · obtain rfl : k = 6 := by omega
                exact wb_6 x0 x1 x2 x3
              · obtain rfl : k = 7 := by omega
                exact wb_7 x0 x1 x2 x3
        · by_cases h12 : k < 12
          · by_cases h10 : k < 10
            · by_cases h9 : k < 9
              · obtain rfl : k = 8 := by omega
                exact wb_8 x0 x1 x2 x3
              · obtain rfl : k = 9 := by omega
                exact wb_9 x0 x1 x2 x3
            · by_cases h11 : k < 11
              · obtain rfl : k = 10 := by omega
                exact wb_10 x0 x1 x2 x3
              · obtain rfl : k = 11 := by omega
                exact wb_11 x0 x1 x2 x3
          · by_cases h14 : k < 14
            · by_cases h13 : k < 13
              · obtain rfl : k = 12 := by omega
                exact wb_12 x0 x1 x2 x3
              · obtain rfl : k = 13 := by omega
                exact wb_13 x0 x1 x2 x3
            · by_cases h15 : k < 15
              · obtain rfl : k = 14 := by omega
                exact wb_14 x0 x1 x2 x3
              · obtain rfl : k = 15 := by omega
                exact wb_15 x0 x1 x2 x3
      · by_cases h24 : k < 24
        · by_cases h20 : k < 20
          · by_cases h18 : k < 18
            · by_cases h17 : k < 17
              · obtain rfl : k = 16 := by omega
                exact wb_16 x0 x1 x2 x3
              · obtain rfl : k = 17 := by omega
                exact wb_17 x0 x1 x2 x3
            · by_cases h19 : k < 19
              · obtain rfl : k = 18 := by omega
                exact wb_18 x0 x1 x2 x3
              · obtain rfl : k = 19 := by omega
                exact wb_19 x0 x1 x2 x3
          · by_cases h22 : k < 22
            · by_cases h21 : k < 21
              · obtain rfl : k = 20 := by omega
                exact wb_20 x0 x1 x2 x3
              · obtain rfl : k = 21 := by omega
                exact wb_21 x0 x1 x2 x3
            · by_cases h23 : k < 23
              · obtain rfl : k = 22 := by omega
                exact wb_22 x0 x1 x2 x3
              · obtain rfl : k = 23 := by omega
                exact wb_23 x0 x1 x2 x3
        · by_cases h28 : k < 28
          · by_cases h26 : k < 26
            · by_cases h25 : k < 25
              · obtain rfl : k = 24 := by omega
                exact wb_24 x0 x1 x2 x3
              · obtain rfl : k = 25 := by omega
                exact wb_25 x0 x1 x2 x3
            · by_cases h27 : k < 27
              · obtain rfl : k = 26 := by omega
                exact wb_26 x0 x1 x2 x3
              · obtain rfl : k = 27 := by omega
                exact wb_27 x0 x1 x2 x3
          · by_cases h30 : k < 30
            · by_cases h29 : k < 29
              · obtain rfl : k = 28 := by omega
                exact wb_28 x0 x1 x2 x3
              · obtain rfl : k = 29 := by omega
                exact wb_29 x0 x1 x2 x3
            · by_cases h31 : k < 31
              · obtain rfl : k = 30 := by omega
                exact wb_30 x0 x1 x2 x3
              · obtain rfl : k = 31 := by omega
                exact wb_31 x0 x1 x2 x3
    · by_cases h48 : k < 48
      · by_cases h40 : k < 40
        · by_cases h36 : k < 36
          · by_cases h34 : k < 34
            · by_cases h33 : k < 33
              · obtain rfl : k = 32 := by omega
                exact wb_32 x0 x1 x2 x3
              · obtain rfl : k = 33 := by omega
                exact wb_33 x0 x1 x2 x3
            · by_cases h35 : k < 35
              · obtain rfl : k = 34 := by omega
                exact wb_34 x0 x1 x2 x3
              · obtain rfl : k = 35 := by omega
                exact wb_35 x0 x1 x2 x3
          · by_cases h38 : k < 38
            · by_cases h37 : k < 37
              · obtain rfl : k = 36 := by omega
                exact wb_36 x0 x1 x2 x3
              · obtain rfl : k = 37 := by omega
                exact wb_37 x0 x1 x2 x3
            · by_cases h39 : k < 39
              · obtain rfl : k = 38 := by omega
                exact wb_38 x0 x1 x2 x3
              · obtain rfl : k = 39 := by omega
                exact wb_39 x0 x1 x2 x3
        · by_cases h44 : k < 44
          · by_cases h42 : k < 42
            · by_cases h41 : k < 41
              · obtain rfl : k = 40 := by omega
                exact wb_40 x0 x1 x2 x3
              · obtain rfl : k = 41 := by omega
                exact wb_41 x0 x1 x2 x3
            · by_cases h43 : k < 43
              · obtain rfl : k = 42 := by omega
                exact wb_42 x0 x1 x2 x3
              · obtain rfl : k = 43 := by omega
                exact wb_43 x0 x1 x2 x3
          · by_cases h46 : k < 46
            · by_cases h45 : k < 45
              · obtain rfl : k = 44 := by omega
                exact wb_44 x0 x1 x2 x3
              · obtain rfl : k = 45 := by omega
                exact wb_45 x0 x1 x2 x3
            · by_cases h47 : k < 47
              · obtain rfl : k = 46 := by omega
                exact wb_46 x0 x1 x2 x3
              · obtain rfl : k = 47 := by omega
                exact wb_47 x0 x1 x2 x3
      · by_cases h56 : k < 56
        · by_cases h52 : k < 52
          · by_cases h50 : k < 50
            · by_cases h49 : k < 49
              · obtain rfl : k = 48 := by omega
                exact wb_48 x0 x1 x2 x3
              · obtain rfl : k = 49 := by omega
                exact wb_49 x0 x1 x2 x3
            · by_cases h51 : k < 51
              · obtain rfl : k = 50 := by omega
                exact wb_50 x0 x1 x2 x3
              · obtain rfl : k = 51 := by omega
                exact wb_51 x0 x1 x2 x3
          · by_cases h54 : k < 54
            · by_cases h53 : k < 53
              · obtain rfl : k = 52 := by omega
                exact wb_52 x0 x1 x2 x3
              · obtain rfl : k = 53 := by omega
                exact wb_53 x0 x1 x2 x3
            · by_cases h55 : k < 55
              · obtain rfl : k = 54 := by omega
                exact wb_54 x0 x1 x2 x3
              · obtain rfl : k = 55 := by omega
                exact wb_55 x0 x1 x2 x3
        · by_cases h60 : k < 60
          · by_cases h58 : k < 58
            · by_cases h57 : k < 57
              · obtain rfl : k = 56 := by omega
                exact wb_56 x0 x1 x2 x3
              · obtain rfl : k = 57 := by omega
                exact wb_57 x0 x1 x2 x3
            · by_cases h59 : k < 59
              · obtain rfl : k = 58 := by omega
                exact wb_58 x0 x1 x2 x3
              · obtain rfl : k = 59 := by omega
                exact wb_59 x0 x1 x2 x3
          · by_cases h62 : k < 62
            · by_cases h61 : k < 61
              · obtain rfl : k = 60 := by omega
                exact wb_60 x0 x1 x2 x3
              · obtain rfl : k = 61 := by omega
                exact wb_61 x0 x1 x2 x3
            · by_cases h63 : k < 63
              · obtain rfl : k = 62 := by omega
                exact wb_62 x0 x1 x2 x3
              · obtain rfl : k = 63 := by omega
                exact wb_63 x0 x1 x2 x3
  · by_cases h96 : k < 96
    · by_cases h80 : k < 80
      · by_cases h72 : k < 72
        · by_cases h68 : k < 68
          · by_cases h66 : k < 66
            · by_cases h65 : k < 65
              · obtain rfl : k = 64 := by omega
                exact wb_64 x0 x1 x2 x3
              · obtain rfl : k = 65 := by omega
                exact wb_65 x0 x1 x2 x3
            · by_cases h67 : k < 67
              · obtain rfl : k = 66 := by omega
                exact wb_66 x0 x1 x2 x3
              · obtain rfl : k = 67 := by omega
                exact wb_67 x0 x1 x2 x3
          · by_cases h70 : k < 70
            · by_cases h69 : k < 69
              · obtain rfl : k = 68 := by omega
                exact wb_68 x0 x1 x2 x3
              · obtain rfl : k = 69 := by omega
                exact wb_69 x0 x1 x2 x3
            · by_cases h71 : k < 71
              · obtain rfl : k = 70 := by omega
                exact wb_70 x0 x1 x2 x3
              · obtain rfl : k = 71 := by omega
                exact wb_71 x0 x1 x2 x3
        · by_cases h76 : k < 76
          · by_cases h74 : k < 74
            · by_cases h73 : k < 73
              · obtain rfl : k = 72 := by omega
                exact wb_72 x0 x1 x2 x3
              · obtain rfl : k = 73 := by omega
                exact wb_73 x0 x1 x2 x3
            · by_cases h75 : k < 75
              · obtain rfl : k = 74 := by omega
                exact wb_74 x0 x1 x2 x3
              · obtain rfl : k = 75 := by omega
                exact wb_75 x0 x1 x2 x3
          · by_cases h78 : k < 78
            · by_cases h77 : k < 77
              · obtain rfl : k = 76 := by omega
                exact wb_76 x0 x1 x2 x3
              · obtain rfl : k = 77 := by omega
                exact wb_77 x0 x1 x2 x3
            · by_cases h79 : k < 79
              · obtain rfl : k = 78 := by omega
                exact wb_78 x0 x1 x2 x3
              · obtain rfl : k = 79 := by omega
                exact wb_79 x0 x1 x2 x3
      · by_cases h88 : k < 88
        · by_cases h84 : k < 84
          · by_cases h82 : k < 82
            · by_cases h81 : k < 81
              · obtain rfl : k = 80 := by omega
                exact wb_80 x0 x1 x2 x3
              · obtain rfl : k = 81 := by omega
                exact wb_81 x0 x1 x2 x3
            · by_cases h83 : k < 83
              · obtain rfl : k = 82 := by omega
                exact wb_82 x0 x1 x2 x3
              · obtain rfl : k = 83 := by omega
                exact wb_83 x0 x1 x2 x3
          · by_cases h86 : k < 86
            · by_cases h85 : k < 85
              · obtain rfl : k = 84 := by omega
                exact wb_84 x0 x1 x2 x3
              · obtain rfl : k = 85 := by omega
                exact wb_85 x0 x1 x2 x3
            · by_cases h87 : k < 87
              · obtain rfl : k = 86 := by omega
                exact wb_86 x0 x1 x2 x3
              · obtain rfl : k = 87 := by omega
                exact wb_87 x0 x1 x2 x3
        · by_cases h92 : k < 92
          · by_cases h90 : k < 90
            · by_cases h89 : k < 89
              · obtain rfl : k = 88 := by omega
                exact wb_88 x0 x1 x2 x3
              · obtain rfl : k = 89 := by omega
                exact wb_89 x0 x1 x2 x3
            · by_cases h91 : k < 91
              · obtain rfl : k = 90 := by omega
                exact wb_90 x0 x1 x2 x3
              · obtain rfl : k = 91 := by omega
                exact wb_91 x0 x1 x2 x3
          · by_cases h94 : k < 94
            · by_cases h93 : k < 93
              · obtain rfl : k = 92 := by omega
                exact wb_92 x0 x1 x2 x3
              · obtain rfl : k = 93 := by omega
                exact wb_93 x0 x1 x2 x3
            · by_cases h95 : k < 95
              · obtain rfl : k = 94 := by omega
                exact wb_94 x0 x1 x2 x3
              · obtain rfl : k = 95 := by omega
                exact wb_95 x0 x1 x2 x3
    · by_cases h112 : k < 112
      · by_cases h104 : k < 104
        · by_cases h100 : k < 100
          · by_cases h98 : k < 98
            · by_cases h97 : k < 97
              · obtain rfl : k = 96 := by omega
                exact wb_96 x0 x1 x2 x3
              · obtain rfl : k = 97 := by omega
                exact wb_97 x0 x1 x2 x3
            · by_cases h99 : k < 99
              · obtain rfl : k = 98 := by omega
                exact wb_98 x0 x1 x2 x3
              · obtain rfl : k = 99 := by omega
                exact wb_99 x0 x1 x2 x3
          · by_cases h102 : k < 102
            · by_cases h101 : k < 101
              · obtain rfl : k = 100 := by omega
                exact wb_100 x0 x1 x2 x3
              · obtain rfl : k = 101 := by omega
                exact wb_101 x0 x1 x2 x3
            · by_cases h103 : k < 103
              · obtain rfl : k = 102 := by omega
                exact wb_102 x0 x1 x2 x3
              · obtain rfl : k = 103 := by omega
                exact wb_103 x0 x1 x2 x3
        · by_cases h108 : k < 108
          · by_cases h106 : k < 106
            · by_cases h105 : k < 105
              · obtain rfl : k = 104 := by omega
                exact wb_104 x0 x1 x2 x3
              · obtain rfl : k = 105 := by omega
                exact wb_105 x0 x1 x2 x3
            · by_cases h107 : k < 107
              · obtain rfl : k = 106 := by omega
                exact wb_106 x0 x1 x2 x3
              · obtain rfl : k = 107 := by omega
                exact wb_107 x0 x1 x2 x3
          · by_cases h110 : k < 110
            · by_cases h109 : k < 109
              · obtain rfl : k = 108 := by omega
                exact wb_108 x0 x1 x2 x3
              · obtain rfl : k = 109 := by omega
                exact wb_109 x0 x1 x2 x3
            · by_cases h111 : k < 111
              · obtain rfl : k = 110 := by omega
                exact wb_110 x0 x1 x2 x3
              · obtain rfl : k = 111 := by omega
                exact wb_111 x0 x1 x2 x3
      · by_cases h120 : k < 120
        · by_cases h116 : k < 116
          · by_cases h114 : k < 114
            · by_cases h113 : k < 113
              · obtain rfl : k = 112 := by omega
                exact wb_112 x0 x1 x2 x3
              · obtain rfl : k = 113 := by omega
                exact wb_113 x0 x1 x2 x3
            · by_cases h115 : k < 115
              · obtain rfl : k = 114 := by omega
                exact wb_114 x0 x1 x2 x3
              · obtain rfl : k = 115 := by omega
                exact wb_115 x0 x1 x2 x3
          · by_cases h118 : k < 118
            · by_cases h117 : k < 117
              · obtain rfl : k = 116 := by omega
                exact wb_116 x0 x1 x2 x3
              · obtain rfl : k = 117 := by omega
                exact wb_117 x0 x1 x2 x3
            · by_cases h119 : k < 119
              · obtain rfl : k = 118 := by omega
                exact wb_118 x0 x1 x2 x3
              · obtain rfl : k = 119 := by omega
                exact wb_119 x0 x1 x2 x3
        · by_cases h124 : k < 124
          · by_cases h122 : k < 122
            · by_cases h121 : k < 121
              · obtain rfl : k = 120 := by omega
                exact wb_120 x0 x1 x2 x3
              · obtain rfl : k = 121 := by omega
                exact wb_121 x0 x1 x2 x3
            · by_cases h123 : k < 123
              · obtain rfl : k = 122 := by omega
                exact wb_122 x0 x1 x2 x3
              · obtain rfl : k = 123 := by omega
                exact wb_123 x0 x1 x2 x3
          · by_cases h126 : k < 126
            · by_cases h125 : k < 125
              · obtain rfl : k = 124 := by omega
                exact wb_124 x0 x1 x2 x3
              · obtain rfl : k = 125 := by omega
                exact wb_125 x0 x1 x2 x3
            · by_cases h127 : k < 127
              · obtain rfl : k = 126 := by omega
                exact wb_126 x0 x1 x2 x3
              · obtain rfl : k = 127 := by omega
                exact wb_127 x0 x1 x2 x3

end Go.Proofs.Ytpllklojcjhjaaa

/- The root of a number; package root. -/
/- A bit set, a half, a length; the root of a number. -/
namespace Go.Proofs.Ytpllklojcjhjaaa
open Go Go.RowKit
set_option linter.unusedSimpArgs false
set_option linter.unusedVariables false

theorem lc_words {x : Nat} (hx : x < Mw) : ∃ a b c d, wv x = W4 a b c d ∧ a < 18446744073709551616 ∧ b < 18446744073709551616 ∧ c < 18446744073709551616 ∧ d < 18446744073709551616 ∧ nvl [a, b, c, d] = x := by
  obtain ⟨a, b, c, d, e, h0, h1, h2, h3, hv⟩ := W4_words (x := x)
  rw [Nat.mod_eq_of_lt hx] at hv
  exact ⟨a, b, c, d, e, h0, h1, h2, h3, hv⟩
/-- Half a number. -/
theorem half_c {x : Nat} (hx : x < Mw) : PureX Try.prog 62 #[wv x] (rt (wv (x / 2))) := by
  obtain ⟨a, b, c, d, e, h0, h1, h2, h3, hv⟩ := lc_words hx
  have h := runA_pure mix (hv_raw a b c d) trivial rfl rfl
  obtain ⟨z0, f0, k0, e0⟩ := low1_eq h0 h1 (s := 1) (by omega)
  obtain ⟨z1, f1, k1, e1⟩ := low1_eq h1 h2 (s := 1) (by omega)
  obtain ⟨z2, f2, k2, e2⟩ := low1_eq h2 h3 (s := 1) (by omega)
  rw [f0, f1, f2, fdiv_nat] at h
  have hz : nvl [z0, z1, z2, d / 2 ^ 1] = x / 2 := by
    rw [← hv]
    simp only [nvl, Nat.mul_zero, Nat.add_zero]
    omega
  rw [e, ← hz, wv_nvl k0 k1 k2 (by omega)]
  exact h
theorem orB_eq {x b : Nat} (hx : x < 18446744073709551616) (hb : b < 64) (hm : x % 2 ^ (b + 1) = 0) : orB x b = u (x + 2 ^ b) ∧ x + 2 ^ b < 18446744073709551616 := by
  have hp : (2 : Nat) ^ b < 2 ^ (b + 1) := Nat.pow_lt_pow_right (by omega) (by omega)
  have h64 : (18446744073709551616 : Nat) = 2 ^ (b + 1) * 2 ^ (63 - b) := by rw [← Nat.pow_add, show b + 1 + (63 - b) = 64 by omega]
  have ex : x = 2 ^ (b + 1) * (x / 2 ^ (b + 1)) := by have := Nat.div_add_mod x (2 ^ (b + 1)); omega
  have hlt : x / 2 ^ (b + 1) < 2 ^ (63 - b) := by
    rw [Nat.div_lt_iff_lt_mul (Nat.pow_pos (by omega)), Nat.mul_comm, ← h64]; exact hx
  have hsum : x + 2 ^ b < 18446744073709551616 := by
    have h1 : 2 ^ (b + 1) * (x / 2 ^ (b + 1) + 1) ≤ 2 ^ (b + 1) * 2 ^ (63 - b) := Nat.mul_le_mul_left _ hlt
    rw [← h64, Nat.mul_add, ← ex, Nat.mul_one] at h1
    omega
  refine ⟨?_, hsum⟩
  have hor : x ||| 2 ^ b = x + 2 ^ b := by
    have := Nat.two_pow_add_eq_or_of_lt hp (x / 2 ^ (b + 1))
    rw [← ex] at this
    exact this.symm
  have hbl : 2 ^ b < 18446744073709551616 := by omega
  unfold orB u
  congr 1
  have e1 : IntKind.u64.wrap ((1 : Int) * 2 ^ b) = ((2 ^ b : Nat) : Int) := by
    rw [IntKind.wrap_u64, Int.one_mul]
    have : ((2 : Int) ^ b) = ((2 ^ b : Nat) : Int) := by simp
    rw [this]
    omega
  rw [e1]
  have := bits_or_u64_nat x (2 ^ b) hx hbl
  rw [hor] at this
  exact this
theorem pow_split {p j b : Nat} (h : p = 64 * j + b) : 2 ^ p = 18446744073709551616 ^ j * 2 ^ b := by
  rw [h, Nat.pow_add, Nat.pow_mul]
theorem WB_ok (a b c d p : Nat) : resOK noB (rt (WB a b c d p)) = true := by
  unfold WB
  split <;> rfl
/-- A bit set where all below and it are none. -/
theorem wbit_c {x k : Nat} (hx : x < Mw) (hk : k < 128) (hm : x % 2 ^ (2 * k + 1) = 0) : PureX Try.prog 61 #[wv x, .int .i64 (Int.ofNat (2 * k))] (rt (wv (x + 2 ^ (2 * k)))) := by
  obtain ⟨a, b, c, d, e, h0, h1, h2, h3, hv⟩ := lc_words hx
  have h := runA_pure mix (wb_raw a b c d k hk) trivial rfl (WB_ok a b c d (2 * k))
  rw [← e] at h
  obtain ⟨q, hq⟩ : ∃ q, 2 * k = 64 * ((2 * k) / 64) + (2 * k) % 64 ∧ q = (2 * k) % 64 := ⟨_, (Nat.div_add_mod _ _).symm, rfl⟩
  have hb : (2 * k) % 64 < 64 := Nat.mod_lt _ (by omega)
  have hps := pow_split hq.1
  -- the words below are none, the word's own low bits too
  have key : ∀ j, (2 * k) / 64 = j → x % (18446744073709551616 ^ j * 2 ^ ((2 * k) % 64 + 1)) = 0 := fun j hj => by
    have := hm
    rw [show 2 * k + 1 = 64 * j + ((2 * k) % 64 + 1) by omega, Nat.pow_add, Nat.pow_mul] at this
    exact this
  have low : ∀ (lo hi P Q : Nat), lo < P → 0 < P → (lo + P * hi) % (P * Q) = 0 → lo = 0 ∧ hi % Q = 0 := fun lo hi P Q hl hP h => by
    have h4 : (lo + P * hi) % P = 0 := Nat.mod_eq_zero_of_dvd (Nat.dvd_trans (Nat.dvd_mul_right P Q) (Nat.dvd_of_mod_eq_zero h))
    rw [Nat.add_mul_mod_self_left, Nat.mod_eq_of_lt hl] at h4
    subst h4
    rw [Nat.zero_add, Nat.mul_mod_mul_left] at h
    exact ⟨rfl, (Nat.mul_eq_zero.1 h).resolve_left (by omega)⟩
  have hj : (2 * k) / 64 = 0 ∨ (2 * k) / 64 = 1 ∨ (2 * k) / 64 = 2 ∨ (2 * k) / 64 = 3 := by omega
  have word : ∀ (y Q r : Nat), (y + 18446744073709551616 * r) % Q = 0 → (∃ z, 18446744073709551616 = Q * z) → y % Q = 0 := fun y Q r h ⟨z, hz⟩ => by
    rw [hz, Nat.mul_assoc, Nat.add_mul_mod_self_left] at h
    exact h
  have hQ : ∃ z, 18446744073709551616 = 2 ^ ((2 * k) % 64 + 1) * z := ⟨2 ^ (63 - (2 * k) % 64), by rw [← Nat.pow_add, show (2 * k) % 64 + 1 + (63 - (2 * k) % 64) = 64 by omega]⟩
  unfold WB at h
  generalize (2 * k) % 64 = bb' at *
  rw [hps]
  rcases hj with hj | hj | hj | hj <;> rw [hj] at h <;> simp only at h <;> have kk := key _ hj <;> rw [hj]
  · rw [Nat.pow_zero, Nat.one_mul] at kk ⊢
    rw [← hv, nvl] at kk
    obtain ⟨o1, o2⟩ := orB_eq h0 hb (word _ _ _ kk hQ)
    rw [o1] at h
    have hz : nvl [a + 2 ^ bb', b, c, d] = x + 2 ^ bb' := by rw [← hv]; simp only [nvl]; omega
    rw [← hz, wv_nvl o2 h1 h2 h3]
    exact h
  · have e2 : x = nvl [a] + 18446744073709551616 ^ 1 * nvl [b, c, d] := by rw [← hv]; exact nvl_append [a] [b, c, d]
    rw [e2] at kk
    obtain ⟨-, k2⟩ := low _ _ _ _ (by rw [nvl_one]; simpa using h0) (Nat.pow_pos (by omega)) kk
    rw [nvl] at k2
    obtain ⟨o1, o2⟩ := orB_eq h1 hb (word _ _ _ k2 hQ)
    rw [o1] at h
    have hz : nvl [a, b + 2 ^ bb', c, d] = x + 18446744073709551616 ^ 1 * 2 ^ bb' := by rw [← hv]; simp only [nvl, Nat.pow_one]; omega
    rw [← hz, wv_nvl h0 o2 h2 h3]
    exact h
  · have e2 : x = nvl [a, b] + 18446744073709551616 ^ 2 * nvl [c, d] := by rw [← hv]; exact nvl_append [a, b] [c, d]
    rw [e2] at kk
    obtain ⟨-, k2⟩ := low _ _ _ _ (nvl_lt [a, b] (sm_cons h0 (sm_cons h1 sm_nil))) (Nat.pow_pos (by omega)) kk
    rw [nvl] at k2
    obtain ⟨o1, o2⟩ := orB_eq h2 hb (word _ _ _ k2 hQ)
    rw [o1] at h
    have hz : nvl [a, b, c + 2 ^ bb', d] = x + 18446744073709551616 ^ 2 * 2 ^ bb' := by rw [← hv]; simp only [nvl, show (18446744073709551616 : Nat) ^ 2 = 340282366920938463463374607431768211456 from rfl]; omega
    rw [← hz, wv_nvl h0 h1 o2 h3]
    exact h
  · have e2 : x = nvl [a, b, c] + 18446744073709551616 ^ 3 * nvl [d] := by rw [← hv]; exact nvl_append [a, b, c] [d]
    rw [e2] at kk
    obtain ⟨-, k2⟩ := low _ _ _ _ (nvl_lt [a, b, c] (sm_cons h0 (sm_cons h1 (sm_cons h2 sm_nil)))) (Nat.pow_pos (by omega)) kk
    rw [nvl_one] at k2
    obtain ⟨o1, o2⟩ := orB_eq h3 hb k2
    rw [o1] at h
    have hz : nvl [a, b, c, d + 2 ^ bb'] = x + 18446744073709551616 ^ 3 * 2 ^ bb' := by rw [← hv]; simp only [nvl, show (18446744073709551616 : Nat) ^ 3 = 6277101735386680763835789423207666416102355444464034512896 from rfl]; omega
    rw [← hz, wv_nvl h0 h1 h2 o2]
    exact h

/-- How many bits a word, a number has. -/
theorem len64_c {x : Nat} (hx : x < 18446744073709551616) : PureX Try.prog 93 #[u x] (rt (.int .i64 (Int.ofNat (Lib.bitLen x)))) := by
  intro w _
  have h := Try.bits_Len64 (x : Int) w (by omega) (by omega)
  rw [show ((x : Int)).toNat = x by omega] at h
  refine h.mono ?_
  rintro e w' ⟨rfl, rfl⟩
  exact ⟨rfl, Below.refl _ _⟩
theorem bitLen_b {x : Nat} (h0 : x ≠ 0) (hx : x < 18446744073709551616) : 1 ≤ Lib.bitLen x ∧ Lib.bitLen x ≤ 64 ∧ 2 ^ (Lib.bitLen x - 1) ≤ x ∧ x < 2 ^ Lib.bitLen x := by
  obtain ⟨b1, b2, b3⟩ := Lib.bitLenAux_bounds 64 x (by omega) h0
  have b4 : Lib.bitLen x ≤ 64 := Lib.bitLen_le x 64 (Nat.le_refl _) (by omega)
  have e : Lib.bitLenAux 64 x = Lib.bitLen x := rfl
  rw [e] at b1 b2 b3
  exact ⟨by omega, b4, b2, b3⟩

end Go.Proofs.Ytpllklojcjhjaaa

/- How many bits a number has; a root's rounds. -/
namespace Go.Proofs.Ytpllklojcjhjaaa
open Go Go.RowKit
set_option linter.unusedSimpArgs false
set_option linter.unusedVariables false

/-- The number of bits. -/
def IsLen (x L : Nat) : Prop := (x = 0 ∧ L = 0) ∨ (1 ≤ L ∧ L ≤ 256 ∧ 2 ^ (L - 1) ≤ x ∧ x < 2 ^ L)
theorem isLen_of {lo P y t : Nat} (hlo : lo < P) (hP : P = 2 ^ (64 * t)) (ht : t ≤ 3) (h0 : y ≠ 0) (hy : y < 18446744073709551616) : IsLen (lo + P * y) (64 * t + Lib.bitLen y) := by
  obtain ⟨b1, b2, b3, b4⟩ := bitLen_b h0 hy
  generalize Lib.bitLen y = n at *
  refine .inr ⟨by omega, by omega, ?_, ?_⟩
  · rw [show 64 * t + n - 1 = 64 * t + (n - 1) by omega, Nat.pow_add, ← hP]
    exact Nat.le_trans (Nat.mul_le_mul_left P b3) (Nat.le_add_left _ _)
  · rw [Nat.pow_add, ← hP]
    have h1 : P * (y + 1) ≤ P * 2 ^ n := Nat.mul_le_mul_left P b4
    rw [Nat.mul_add, Nat.mul_one] at h1
    omega
theorem wrap_small {z : Int} (h : -9223372036854775808 ≤ z ∧ z < 9223372036854775808) : IntKind.i64.wrap z = z := by
  rw [IntKind.wrap_i64]
  omega
theorem wrap_len {t n : Nat} (ht : t ≤ 3) (hn : n ≤ 64) : IntKind.i64.wrap (((64 * t : Nat) : Int) + Int.ofNat n) = Int.ofNat (64 * t + n) := by
  have e : ((64 * t : Nat) : Int) + Int.ofNat n = ((64 * t + n : Nat) : Int) := by simp
  rw [e, wrap_small ⟨by omega, by omega⟩]
  rfl
set_option maxRecDepth 100000 in
theorem len_c {x : Nat} (hx : x < Mw) : ∃ L, IsLen x L ∧ PureX Try.prog 76 #[wv x] (rt (.int .i64 (Int.ofNat L))) := by
  obtain ⟨x0, x1, x2, x3, e, h0, h1, h2, h3, hv⟩ := lc_words hx
  rw [e]
  have ne : ∀ {y : Nat}, y ≠ 0 → (Int.ofNat y != 0) = true := fun h => ofNat_ne h
  have bl : ∀ {y : Nat}, y ≠ 0 → y < 18446744073709551616 → Lib.bitLen y ≤ 64 := fun h0 h => (bitLen_b h0 h).2.1
  by_cases e3 : x3 = 0
  · subst e3
    by_cases e2 : x2 = 0
    · subst e2
      by_cases e1 : x1 = 0
      · subst e1
        by_cases e0 : x0 = 0
        · subst e0
          exact ⟨0, .inl ⟨by rw [← hv]; rfl, rfl⟩, runA_pure mix (ln_0 0 0 0 0) ⟨rfl, rfl, rfl, rfl, trivial⟩ rfl rfl⟩
        · have r := runA_pure mix (ln_1 x0 0 0 0 (Int.ofNat (Lib.bitLen x0))) ⟨ne e0, len64_c h0, rfl, rfl, rfl, trivial⟩ rfl rfl
          rw [show ((0 : Int) + Int.ofNat (Lib.bitLen x0)) = (((64 * 0 : Nat) : Int) + Int.ofNat (Lib.bitLen x0)) from rfl, wrap_len (by omega) (bl e0 h0)] at r
          refine ⟨_, ?_, r⟩
          have il := isLen_of (lo := nvl []) (P := 1) (y := x0) (t := 0) (by simp only [nvl, Nat.mul_zero, Nat.add_zero] <;> omega) rfl (by omega) e0 h0
          rw [show nvl [] + 1 * x0 = x by rw [← hv]; simp only [nvl, Nat.mul_zero, Nat.add_zero, Nat.zero_add] <;> omega] at il
          exact il
      · by_cases e0 : x0 = 0
        · subst e0
          have r := runA_pure mix (ln_2 0 x1 0 0 (Int.ofNat (Lib.bitLen x1))) ⟨rfl, ne e1, len64_c h1, rfl, rfl, trivial⟩ rfl rfl
          rw [show ((64 : Int) + Int.ofNat (Lib.bitLen x1)) = (((64 * 1 : Nat) : Int) + Int.ofNat (Lib.bitLen x1)) from rfl, wrap_len (by omega) (bl e1 h1)] at r
          refine ⟨_, ?_, r⟩
          have il := isLen_of (lo := nvl [0]) (P := 18446744073709551616) (y := x1) (t := 1) (by simp only [nvl, Nat.mul_zero, Nat.add_zero] <;> omega) rfl (by omega) e1 h1
          rw [show nvl [0] + 18446744073709551616 * x1 = x by rw [← hv]; simp only [nvl, Nat.mul_zero, Nat.add_zero, Nat.zero_add] <;> omega] at il
          exact il
        · have r := runA_pure mix (ln_3 x0 x1 0 0 (Int.ofNat (Lib.bitLen x0)) (Int.ofNat (Lib.bitLen x1))) ⟨ne e0, len64_c h0, ne e1, len64_c h1, rfl, rfl, trivial⟩ rfl rfl
          rw [show ((64 : Int) + Int.ofNat (Lib.bitLen x1)) = (((64 * 1 : Nat) : Int) + Int.ofNat (Lib.bitLen x1)) from rfl, wrap_len (by omega) (bl e1 h1)] at r
          refine ⟨_, ?_, r⟩
          have il := isLen_of (lo := nvl [x0]) (P := 18446744073709551616) (y := x1) (t := 1) (by simp only [nvl, Nat.mul_zero, Nat.add_zero] <;> omega) rfl (by omega) e1 h1
          rw [show nvl [x0] + 18446744073709551616 * x1 = x by rw [← hv]; simp only [nvl, Nat.mul_zero, Nat.add_zero, Nat.zero_add] <;> omega] at il
          exact il
    · by_cases e1 : x1 = 0
      · subst e1
        by_cases e0 : x0 = 0
        · subst e0
          have r := runA_pure mix (ln_4 0 0 x2 0 (Int.ofNat (Lib.bitLen x2))) ⟨rfl, rfl, ne e2, len64_c h2, rfl, trivial⟩ rfl rfl
          rw [show ((128 : Int) + Int.ofNat (Lib.bitLen x2)) = (((64 * 2 : Nat) : Int) + Int.ofNat (Lib.bitLen x2)) from rfl, wrap_len (by omega) (bl e2 h2)] at r
          refine ⟨_, ?_, r⟩
          have il := isLen_of (lo := nvl [0, 0]) (P := 340282366920938463463374607431768211456) (y := x2) (t := 2) (by simp only [nvl, Nat.mul_zero, Nat.add_zero] <;> omega) rfl (by omega) e2 h2
          rw [show nvl [0, 0] + 340282366920938463463374607431768211456 * x2 = x by rw [← hv]; simp only [nvl, Nat.mul_zero, Nat.add_zero, Nat.zero_add] <;> omega] at il
          exact il
        · have r := runA_pure mix (ln_5 x0 0 x2 0 (Int.ofNat (Lib.bitLen x0)) (Int.ofNat (Lib.bitLen x2))) ⟨ne e0, len64_c h0, rfl, ne e2, len64_c h2, rfl, trivial⟩ rfl rfl
          rw [show ((128 : Int) + Int.ofNat (Lib.bitLen x2)) = (((64 * 2 : Nat) : Int) + Int.ofNat (Lib.bitLen x2)) from rfl, wrap_len (by omega) (bl e2 h2)] at r
          refine ⟨_, ?_, r⟩
          have il := isLen_of (lo := nvl [x0, 0]) (P := 340282366920938463463374607431768211456) (y := x2) (t := 2) (by simp only [nvl, Nat.mul_zero, Nat.add_zero] <;> omega) rfl (by omega) e2 h2
          rw [show nvl [x0, 0] + 340282366920938463463374607431768211456 * x2 = x by rw [← hv]; simp only [nvl, Nat.mul_zero, Nat.add_zero, Nat.zero_add] <;> omega] at il
          exact il
      · by_cases e0 : x0 = 0
        · subst e0
          have r := runA_pure mix (ln_6 0 x1 x2 0 (Int.ofNat (Lib.bitLen x1)) (Int.ofNat (Lib.bitLen x2))) ⟨rfl, ne e1, len64_c h1, ne e2, len64_c h2, rfl, trivial⟩ rfl rfl
          rw [show ((128 : Int) + Int.ofNat (Lib.bitLen x2)) = (((64 * 2 : Nat) : Int) + Int.ofNat (Lib.bitLen x2)) from rfl, wrap_len (by omega) (bl e2 h2)] at r
          refine ⟨_, ?_, r⟩
          have il := isLen_of (lo := nvl [0, x1]) (P := 340282366920938463463374607431768211456) (y := x2) (t := 2) (by simp only [nvl, Nat.mul_zero, Nat.add_zero] <;> omega) rfl (by omega) e2 h2
          rw [show nvl [0, x1] + 340282366920938463463374607431768211456 * x2 = x by rw [← hv]; simp only [nvl, Nat.mul_zero, Nat.add_zero, Nat.zero_add] <;> omega] at il
          exact il
        · have r := runA_pure mix (ln_7 x0 x1 x2 0 (Int.ofNat (Lib.bitLen x0)) (Int.ofNat (Lib.bitLen x1)) (Int.ofNat (Lib.bitLen x2))) ⟨ne e0, len64_c h0, ne e1, len64_c h1, ne e2, len64_c h2, rfl, trivial⟩ rfl rfl
          rw [show ((128 : Int) + Int.ofNat (Lib.bitLen x2)) = (((64 * 2 : Nat) : Int) + Int.ofNat (Lib.bitLen x2)) from rfl, wrap_len (by omega) (bl e2 h2)] at r
          refine ⟨_, ?_, r⟩
          have il := isLen_of (lo := nvl [x0, x1]) (P := 340282366920938463463374607431768211456) (y := x2) (t := 2) (by simp only [nvl, Nat.mul_zero, Nat.add_zero] <;> omega) rfl (by omega) e2 h2
          rw [show nvl [x0, x1] + 340282366920938463463374607431768211456 * x2 = x by rw [← hv]; simp only [nvl, Nat.mul_zero, Nat.add_zero, Nat.zero_add] <;> omega] at il
          exact il
  · by_cases e2 : x2 = 0
    · subst e2
      by_cases e1 : x1 = 0
      · subst e1
        by_cases e0 : x0 = 0
        · subst e0
          have r := runA_pure mix (ln_8 0 0 0 x3 (Int.ofNat (Lib.bitLen x3))) ⟨rfl, rfl, rfl, ne e3, len64_c h3, trivial⟩ rfl rfl
          rw [show ((192 : Int) + Int.ofNat (Lib.bitLen x3)) = (((64 * 3 : Nat) : Int) + Int.ofNat (Lib.bitLen x3)) from rfl, wrap_len (by omega) (bl e3 h3)] at r
          refine ⟨_, ?_, r⟩
          have il := isLen_of (lo := nvl [0, 0, 0]) (P := 6277101735386680763835789423207666416102355444464034512896) (y := x3) (t := 3) (by simp only [nvl, Nat.mul_zero, Nat.add_zero] <;> omega) rfl (by omega) e3 h3
          rw [show nvl [0, 0, 0] + 6277101735386680763835789423207666416102355444464034512896 * x3 = x by rw [← hv]; simp only [nvl, Nat.mul_zero, Nat.add_zero, Nat.zero_add] <;> omega] at il
          exact il
        · have r := runA_pure mix (ln_9 x0 0 0 x3 (Int.ofNat (Lib.bitLen x0)) (Int.ofNat (Lib.bitLen x3))) ⟨ne e0, len64_c h0, rfl, rfl, ne e3, len64_c h3, trivial⟩ rfl rfl
          rw [show ((192 : Int) + Int.ofNat (Lib.bitLen x3)) = (((64 * 3 : Nat) : Int) + Int.ofNat (Lib.bitLen x3)) from rfl, wrap_len (by omega) (bl e3 h3)] at r
          refine ⟨_, ?_, r⟩
          have il := isLen_of (lo := nvl [x0, 0, 0]) (P := 6277101735386680763835789423207666416102355444464034512896) (y := x3) (t := 3) (by simp only [nvl, Nat.mul_zero, Nat.add_zero] <;> omega) rfl (by omega) e3 h3
          rw [show nvl [x0, 0, 0] + 6277101735386680763835789423207666416102355444464034512896 * x3 = x by rw [← hv]; simp only [nvl, Nat.mul_zero, Nat.add_zero, Nat.zero_add] <;> omega] at il
          exact il
      · by_cases e0 : x0 = 0
        · subst e0
          have r := runA_pure mix (ln_10 0 x1 0 x3 (Int.ofNat (Lib.bitLen x1)) (Int.ofNat (Lib.bitLen x3))) ⟨rfl, ne e1, len64_c h1, rfl, ne e3, len64_c h3, trivial⟩ rfl rfl
          rw [show ((192 : Int) + Int.ofNat (Lib.bitLen x3)) = (((64 * 3 : Nat) : Int) + Int.ofNat (Lib.bitLen x3)) from rfl, wrap_len (by omega) (bl e3 h3)] at r
          refine ⟨_, ?_, r⟩
          have il := isLen_of (lo := nvl [0, x1, 0]) (P := 6277101735386680763835789423207666416102355444464034512896) (y := x3) (t := 3) (by simp only [nvl, Nat.mul_zero, Nat.add_zero] <;> omega) rfl (by omega) e3 h3
          rw [show nvl [0, x1, 0] + 6277101735386680763835789423207666416102355444464034512896 * x3 = x by rw [← hv]; simp only [nvl, Nat.mul_zero, Nat.add_zero, Nat.zero_add] <;> omega] at il
          exact il
        · have r := runA_pure mix (ln_11 x0 x1 0 x3 (Int.ofNat (Lib.bitLen x0)) (Int.ofNat (Lib.bitLen x1)) (Int.ofNat (Lib.bitLen x3))) ⟨ne e0, len64_c h0, ne e1, len64_c h1, rfl, ne e3, len64_c h3, trivial⟩ rfl rfl
          rw [show ((192 : Int) + Int.ofNat (Lib.bitLen x3)) = (((64 * 3 : Nat) : Int) + Int.ofNat (Lib.bitLen x3)) from rfl, wrap_len (by omega) (bl e3 h3)] at r
          refine ⟨_, ?_, r⟩
          have il := isLen_of (lo := nvl [x0, x1, 0]) (P := 6277101735386680763835789423207666416102355444464034512896) (y := x3) (t := 3) (by simp only [nvl, Nat.mul_zero, Nat.add_zero] <;> omega) rfl (by omega) e3 h3
          rw [show nvl [x0, x1, 0] + 6277101735386680763835789423207666416102355444464034512896 * x3 = x by rw [← hv]; simp only [nvl, Nat.mul_zero, Nat.add_zero, Nat.zero_add] <;> omega] at il
          exact il
    · by_cases e1 : x1 = 0
      · subst e1
        by_cases e0 : x0 = 0
        · subst e0
          have r := runA_pure mix (ln_12 0 0 x2 x3 (Int.ofNat (Lib.bitLen x2)) (Int.ofNat (Lib.bitLen x3))) ⟨rfl, rfl, ne e2, len64_c h2, ne e3, len64_c h3, trivial⟩ rfl rfl
          rw [show ((192 : Int) + Int.ofNat (Lib.bitLen x3)) = (((64 * 3 : Nat) : Int) + Int.ofNat (Lib.bitLen x3)) from rfl, wrap_len (by omega) (bl e3 h3)] at r
          refine ⟨_, ?_, r⟩
          have il := isLen_of (lo := nvl [0, 0, x2]) (P := 6277101735386680763835789423207666416102355444464034512896) (y := x3) (t := 3) (by simp only [nvl, Nat.mul_zero, Nat.add_zero] <;> omega) rfl (by omega) e3 h3
          rw [show nvl [0, 0, x2] + 6277101735386680763835789423207666416102355444464034512896 * x3 = x by rw [← hv]; simp only [nvl, Nat.mul_zero, Nat.add_zero, Nat.zero_add] <;> omega] at il
          exact il
        · have r := runA_pure mix (ln_13 x0 0 x2 x3 (Int.ofNat (Lib.bitLen x0)) (Int.ofNat (Lib.bitLen x2)) (Int.ofNat (Lib.bitLen x3))) ⟨ne e0, len64_c h0, rfl, ne e2, len64_c h2, ne e3, len64_c h3, trivial⟩ rfl rfl
          rw [show ((192 : Int) + Int.ofNat (Lib.bitLen x3)) = (((64 * 3 : Nat) : Int) + Int.ofNat (Lib.bitLen x3)) from rfl, wrap_len (by omega) (bl e3 h3)] at r
          refine ⟨_, ?_, r⟩
          have il := isLen_of (lo := nvl [x0, 0, x2]) (P := 6277101735386680763835789423207666416102355444464034512896) (y := x3) (t := 3) (by simp only [nvl, Nat.mul_zero, Nat.add_zero] <;> omega) rfl (by omega) e3 h3
          rw [show nvl [x0, 0, x2] + 6277101735386680763835789423207666416102355444464034512896 * x3 = x by rw [← hv]; simp only [nvl, Nat.mul_zero, Nat.add_zero, Nat.zero_add] <;> omega] at il
          exact il
      · by_cases e0 : x0 = 0
        · subst e0
          have r := runA_pure mix (ln_14 0 x1 x2 x3 (Int.ofNat (Lib.bitLen x1)) (Int.ofNat (Lib.bitLen x2)) (Int.ofNat (Lib.bitLen x3))) ⟨rfl, ne e1, len64_c h1, ne e2, len64_c h2, ne e3, len64_c h3, trivial⟩ rfl rfl
          rw [show ((192 : Int) + Int.ofNat (Lib.bitLen x3)) = (((64 * 3 : Nat) : Int) + Int.ofNat (Lib.bitLen x3)) from rfl, wrap_len (by omega) (bl e3 h3)] at r
          refine ⟨_, ?_, r⟩
          have il := isLen_of (lo := nvl [0, x1, x2]) (P := 6277101735386680763835789423207666416102355444464034512896) (y := x3) (t := 3) (by simp only [nvl, Nat.mul_zero, Nat.add_zero] <;> omega) rfl (by omega) e3 h3
          rw [show nvl [0, x1, x2] + 6277101735386680763835789423207666416102355444464034512896 * x3 = x by rw [← hv]; simp only [nvl, Nat.mul_zero, Nat.add_zero, Nat.zero_add] <;> omega] at il
          exact il
        · have r := runA_pure mix (ln_15 x0 x1 x2 x3 (Int.ofNat (Lib.bitLen x0)) (Int.ofNat (Lib.bitLen x1)) (Int.ofNat (Lib.bitLen x2)) (Int.ofNat (Lib.bitLen x3))) ⟨ne e0, len64_c h0, ne e1, len64_c h1, ne e2, len64_c h2, ne e3, len64_c h3, trivial⟩ rfl rfl
          rw [show ((192 : Int) + Int.ofNat (Lib.bitLen x3)) = (((64 * 3 : Nat) : Int) + Int.ofNat (Lib.bitLen x3)) from rfl, wrap_len (by omega) (bl e3 h3)] at r
          refine ⟨_, ?_, r⟩
          have il := isLen_of (lo := nvl [x0, x1, x2]) (P := 6277101735386680763835789423207666416102355444464034512896) (y := x3) (t := 3) (by simp only [nvl, Nat.mul_zero, Nat.add_zero] <;> omega) rfl (by omega) e3 h3
          rw [show nvl [x0, x1, x2] + 6277101735386680763835789423207666416102355444464034512896 * x3 = x by rw [← hv]; simp only [nvl, Nat.mul_zero, Nat.add_zero, Nat.zero_add] <;> omega] at il
          exact il

/-- What a root's bits come to: the next bit is taken if the square still fits. -/
def bitF (a F k : Nat) : Nat := if (F + 2 ^ k) * (F + 2 ^ k) ≤ a then F + 2 ^ k else F
def fin (a : Nat) : Nat → Nat → Nat
  | F, 0 => F
  | F, k + 1 => fin a (bitF a F k) k
structure InvR (a F m : Nat) : Prop where
  lt : a < 57896044618658097711785492504343953926634992332820282019728792003956564819968
  top : m ≤ 128
  div : F % 2 ^ m = 0
  low : F * F ≤ a
  high : a < (F + 2 ^ m) * (F + 2 ^ m)
theorem InvR.next {a F k : Nat} (h : InvR a F (k + 1)) : InvR a (bitF a F k) k := by
  have hd : F % 2 ^ k = 0 := by
    have := h.div
    rw [Nat.pow_succ] at this
    exact Nat.mod_eq_zero_of_dvd (Nat.dvd_trans (Nat.dvd_mul_right _ _) (Nat.dvd_of_mod_eq_zero this))
  have hk := h.top
  unfold bitF
  split
  · rename_i hc
    refine ⟨h.lt, by omega, by rw [Nat.add_mod_right]; exact hd, hc, ?_⟩
    have := h.high
    rw [Nat.pow_succ] at this
    rw [show F + 2 ^ k + 2 ^ k = F + 2 ^ k * 2 by omega]
    exact this
  · rename_i hc
    exact ⟨h.lt, by omega, hd, h.low, by omega⟩
theorem InvR.fin {a : Nat} : ∀ (m F : Nat), InvR a F m → InvR a (Go.Proofs.Ytpllklojcjhjaaa.fin a F m) 0
  | 0, F, h => h
  | m + 1, F, h => InvR.fin m _ h.next

theorem HX_HY (a r lf i : Nat) : look (HX a r lf) i = look (HY a r lf) i := by
  simp only [HX, HY, look]
  by_cases h2 : 1002 = i
  · have h3 : 1003 ≠ i := by omega
    rw [if_neg h3, if_pos h2, if_pos h2]
  · rw [if_neg h2, if_neg h2]
theorem CallsV.permY {P : Program} {l : Nat} {args : Array Value} {H H' G : Hp} {r : Res} (h : CallsV P (.yield l) args H r H') (hl : ∀ i, look G i = look H' i) : CallsV P (.yield l) args H r G := by
  intro β w hR n
  obtain ⟨fn, tmps, assign, body, hy, hr⟩ := h β w hR n
  refine ⟨fn, tmps, assign, body, hy, RoundIn.mono hr ?_⟩
  rintro e w' ⟨β', hb, he, hR'⟩
  exact ⟨β', hb, he, hR'.congr (fun _ _ => rfl) hl⟩
theorem nz_nat {x : Nat} (h : x < Mw) : nz (x : Int) = x := by
  have := nz_cast (x : Int)
  rw [Int.emod_eq_of_lt (by omega) (by omega)] at this
  exact Int.ofNat.inj this
theorem sq_grow {F k : Nat} : (F + 2 ^ k) * (F + 2 ^ k) = F * F + (F * 2 ^ (k + 1) + 2 ^ (2 * k)) := by
  rw [Nat.pow_succ, Nat.two_mul k, Nat.pow_add, Nat.add_mul, Nat.mul_add, Nat.mul_add, Nat.mul_comm (2 ^ k) F, ← Nat.mul_assoc F]
  omega
theorem pows_small {F m : Nat} {a : Nat} (h : InvR a F (m + 1)) : F * 2 ^ (m + 1) + 2 ^ (2 * m) < 57896044618658097711785492504343953926634992332820282019728792003956564819968 := by
  have hm := h.top
  have ha := h.lt
  have hF : F < 340282366920938463463374607431768211456 := by
    refine Nat.lt_of_not_le (fun hc => ?_)
    have h2 : 340282366920938463463374607431768211456 * 340282366920938463463374607431768211456 ≤ F * F := Nat.mul_le_mul hc hc
    have h3 := h.low
    omega
  have hd := h.div
  rcases (show m = 127 ∨ m = 126 ∨ m ≤ 125 by omega) with hm | hm | hm
  · subst hm
    have : F = 0 := by
      rw [show (2 : Nat) ^ (127 + 1) = 340282366920938463463374607431768211456 from rfl, Nat.mod_eq_of_lt hF] at hd
      exact hd
    subst this
    exact of_decide_eq_true (by kernel_rfl)
  · subst hm
    have hF2 : F ≤ 170141183460469231731687303715884105728 := by
      rw [show (2 : Nat) ^ (126 + 1) = 170141183460469231731687303715884105728 from rfl] at hd
      omega
    have h4 : F * 2 ^ (126 + 1) ≤ 170141183460469231731687303715884105728 * 2 ^ (126 + 1) := Nat.mul_le_mul_right _ hF2
    have h5 : 170141183460469231731687303715884105728 * 2 ^ (126 + 1) + 2 ^ (2 * 126) < 57896044618658097711785492504343953926634992332820282019728792003956564819968 := of_decide_eq_true (by kernel_rfl)
    exact Nat.lt_of_le_of_lt (Nat.add_le_add_right h4 _) h5
  · have h4 : F * 2 ^ (m + 1) ≤ 340282366920938463463374607431768211456 * 2 ^ 126 := Nat.mul_le_mul (Nat.le_of_lt hF) (Nat.pow_le_pow_right (by omega) (by omega))
    have h6 : 2 ^ (2 * m) ≤ 2 ^ 250 := Nat.pow_le_pow_right (by omega) (by omega)
    have h5 : 340282366920938463463374607431768211456 * 2 ^ 126 + 2 ^ 250 < 57896044618658097711785492504343953926634992332820282019728792003956564819968 := of_decide_eq_true (by kernel_rfl)
    exact Nat.lt_of_le_of_lt (Nat.add_le_add h4 h6) h5
theorem wrap_2k {k : Nat} (hk : k < 128) : IntKind.i64.wrap (2 * Int.ofNat k) = Int.ofNat (2 * k) := by
  have e : (2 : Int) * Int.ofNat k = ((2 * k : Nat) : Int) := by simp
  rw [e, wrap_small ⟨by omega, by omega⟩]
  rfl
/-- One round. -/
theorem round_c {a F k : Nat} (h : InvR a F (k + 1)) : CallsV Try.prog (.yield 1005) #[.int .i64 (Int.ofNat k)] (HX a (F * 2 ^ (k + 1)) (a - F * F)) (rt (bb true)) (HX a (bitF a F k * 2 ^ k) (a - bitF a F k * bitF a F k)) := by
  have hk : k < 128 := by have := h.top; omega
  have hp := pows_small h
  have ha := h.lt
  have hsq := sq_grow (F := F) (k := k)
  obtain ⟨c, hc⟩ := Nat.dvd_of_mod_eq_zero h.div
  have p2 : (2 : Nat) ^ (2 * k + 1) = 2 ^ (k + 1) * 2 ^ k := by rw [← Nat.pow_add]; congr 1; omega
  have m1 : F * 2 ^ (k + 1) % 2 ^ (2 * k + 1) = 0 := by
    refine Nat.mod_eq_zero_of_dvd ⟨c * 2, ?_⟩
    rw [hc, p2, Nat.pow_succ]
    simp only [Nat.mul_comm, Nat.mul_left_comm, Nat.mul_assoc]
  have hhalf : F * 2 ^ (k + 1) / 2 = F * 2 ^ k := by rw [Nat.pow_succ, ← Nat.mul_assoc, Nat.mul_div_cancel _ (by omega)]
  have m2 : F * 2 ^ k % 2 ^ (2 * k + 1) = 0 := by
    refine Nat.mod_eq_zero_of_dvd ⟨c, ?_⟩
    rw [hc, p2]
    simp only [Nat.mul_comm, Nat.mul_left_comm, Nat.mul_assoc]
  have Mv : Mw = 115792089237316195423570985008687907853269984665640564039457584007913129639936 := rfl
  have b1 := wbit_c (x := F * 2 ^ (k + 1)) (by omega) hk m1
  have b2 := half_c (x := F * 2 ^ (k + 1)) (by omega)
  rw [hhalf] at b2
  have hle : F * 2 ^ k ≤ F * 2 ^ (k + 1) := Nat.mul_le_mul_left _ (Nat.pow_le_pow_right (by omega) (by omega))
  have b3 := wbit_c (x := F * 2 ^ k) (by omega) hk m2
  rw [← wrap_2k hk] at b1 b3
  obtain ⟨o, b4⟩ := sub_any ((a - F * F : Nat) : Int) ((F * 2 ^ (k + 1) + 2 ^ (2 * k) : Nat) : Int)
  rw [← wz_nat, ← wz_nat] at b4
  have hF2 := h.low
  obtain ⟨p, hpe⟩ : ∃ p, F * 2 ^ (k + 1) + 2 ^ (2 * k) = p := ⟨_, rfl⟩
  obtain ⟨lf, hlf⟩ : ∃ lf, a - F * F = lf := ⟨_, rfl⟩
  rw [hpe] at b1 b4 hp hsq
  rw [hlf] at b4 ⊢
  have b5 := sign_z (z := ((lf : Nat) : Int) - (p : Int)) (by unfold inR; omega)
  by_cases hc : p ≤ lf
  · have hs : decide (0 ≤ (((lf : Nat) : Int) - (p : Int)).sign) = true := by
      rcases (show (lf : Int) - (p : Int) = 0 ∨ 0 < (lf : Int) - (p : Int) by omega) with h | h
      · rw [h]; rfl
      · rw [Int.sign_eq_one_of_pos h]; rfl
    have hbf : bitF a F k = F + 2 ^ k := by unfold bitF; rw [if_pos (by omega)]
    have hz : nz ((lf : Int) - (p : Int)) = lf - p := by
      rw [show (lf : Int) - (p : Int) = ((lf - p : Nat) : Int) by omega]
      exact nz_nat (by omega)
    have e1 : bitF a F k * 2 ^ k = F * 2 ^ k + 2 ^ (2 * k) := by rw [hbf, Nat.add_mul, Nat.two_mul, Nat.pow_add]
    have e2 : a - bitF a F k * bitF a F k = lf - p := by rw [hbf, hsq]; omega
    rw [e1, e2, ← hz]
    exact (runY_calls mix (rd_t a (F * 2 ^ (k + 1)) lf p (nz ((lf : Int) - (p : Int))) (F * 2 ^ k) (F * 2 ^ k + 2 ^ (2 * k)) (Int.ofNat k) _ o) ⟨b1, b4, b2, b5, hs, b3, trivial⟩ (by kernel_rfl) (by kernel_rfl) (by kernel_rfl)).permY (HX_HY _ _ _)
  · have hs : decide (0 ≤ (((lf : Nat) : Int) - (p : Int)).sign) = false := by
      rw [Int.sign_eq_neg_one_of_neg (by omega)]; rfl
    have hbf : bitF a F k = F := by unfold bitF; rw [if_neg (by omega)]
    rw [hbf, hlf]
    exact (runY_calls mix (rd_f a (F * 2 ^ (k + 1)) lf p (nz ((lf : Int) - (p : Int))) (F * 2 ^ k) (Int.ofNat k) _ o) ⟨b1, b4, b2, b5, hs, trivial⟩ (by kernel_rfl) (by kernel_rfl) (by kernel_rfl)).permY (HX_HY _ _ _)

end Go.Proofs.Ytpllklojcjhjaaa

/- A root, whole. -/
namespace Go.Proofs.Ytpllklojcjhjaaa
open Go Go.RowKit
set_option linter.unusedSimpArgs false
set_option linter.unusedVariables false

theorem it_loop {a : Nat} (L L1 L2 L3 : Value) : ∀ (m F : Nat) (x9 x10 x11 x12 x13 x14 x15 x16 : Value), InvR a F m →
    ∃ t', LoopN Try.prog L133 (m + 1) (TI a L L1 L2 L3 (.int .i64 ((m : Int) - 1)) x9 x10 x11 x12 x13 x14 x15 x16) [] (HX a (F * 2 ^ m) (a - F * F)) (.exit 0) t' [] (HX a (fin a F m) (a - fin a F m * fin a F m))
  | 0, F, x9, x10, x11, x12, x13, x14, x15, x16, h => by
    have hd : decide (0 ≤ (((0 : Nat) : Int) - 1)) = false := rfl
    rw [Nat.pow_zero, Nat.mul_one]
    exact ⟨_, LoopN.last (runS_step mix (it_end a F (a - F * F) (((0 : Nat) : Int) - 1) L L1 L2 L3 x9 x10 x11 x12 x13 x14 x15 x16) ⟨hd, trivial⟩)⟩
  | m + 1, F, x9, x10, x11, x12, x13, x14, x15, x16, h => by
    have hm := h.top
    have hk : (((m + 1 : Nat) : Int) - 1) = Int.ofNat m := by show _ = (m : Int); omega
    rw [hk]
    have hr := round_c h
    have hd : decide (0 ≤ Int.ofNat m) = true := decide_eq_true (show (0 : Int) ≤ (m : Int) by omega)
    obtain ⟨t', ht⟩ := it_loop L L1 L2 L3 m (bitF a F m) (.int .i64 (Int.ofNat m)) (bb (decide (0 ≤ Int.ofNat m))) (.int .i64 (Int.ofNat m)) (.int .i64 ((m : Int) - 1)) yv (.int .i64 (Int.ofNat m)) (bb true) (bb false) h.next
    have st := runS_step mix (it_round a (F * 2 ^ (m + 1)) (a - F * F) (bitF a F m * 2 ^ m) (a - bitF a F m * bitF a F m) (Int.ofNat m) L L1 L2 L3 x9 x10 x11 x12 x13 x14 x15 x16) ⟨hd, hr, trivial⟩
    rw [show IntKind.i64.wrap (Int.ofNat m - 1) = (m : Int) - 1 from wrap_small (by show -9223372036854775808 ≤ (m : Int) - 1 ∧ (m : Int) - 1 < 9223372036854775808; omega)] at st
    exact ⟨t', LoopN.round st ht⟩
/-- The whole number of a number's bits' half, upwards. -/
theorem isLen_up {a L : Nat} (h : IsLen a L) : a < 2 ^ ((L + 1) / 2) * 2 ^ ((L + 1) / 2) ∧ (a < 57896044618658097711785492504343953926634992332820282019728792003956564819968 → (L + 1) / 2 ≤ 128) := by
  have e : 2 ^ ((L + 1) / 2) * 2 ^ ((L + 1) / 2) = 2 ^ (2 * ((L + 1) / 2)) := by rw [← Nat.pow_add]; congr 1; omega
  rw [e]
  rcases h with ⟨rfl, rfl⟩ | ⟨h1, h2, h3, h4⟩
  · exact ⟨by decide, fun _ => by decide⟩
  · exact ⟨Nat.lt_of_lt_of_le h4 (Nat.pow_le_pow_right (by omega) (by omega)), fun _ => by omega⟩
theorem f133_at : Try.prog.funcs[75]? = some Try.f75 := Try.func75
/-- The root of a number that is not below 0, and how far its square is below it. -/
theorem bits_c {a : Nat} (ha : a < 57896044618658097711785492504343953926634992332820282019728792003956564819968) : ∃ R, InvR a R 0 ∧ CallsV Try.prog (.func 75) #[yv, pt 1003] (HX a 0 a) (rt undef) (HX a R (a - R * R)) := by
  obtain ⟨L, hL, hlen⟩ := len_c (x := a) (Nat.lt_trans ha (by decide))
  obtain ⟨hup, h128⟩ := isLen_up hL
  have hL256 : L ≤ 256 := by rcases hL with ⟨_, rfl⟩ | ⟨_, h, _⟩ <;> omega
  have st := runS_step mix (it_start a 0 a (Int.ofNat L)) ⟨hlen, trivial⟩
  have e1 : IntKind.i64.wrap (Int.ofNat L + 1) = ((L + 1 : Nat) : Int) := by
    rw [show Int.ofNat L + 1 = ((L + 1 : Nat) : Int) by simp]
    exact wrap_small ⟨by omega, by omega⟩
  have e2 : IntKind.i64.wrap (Int.tdiv ((L + 1 : Nat) : Int) 2) = (((L + 1) / 2 : Nat) : Int) := by
    rw [show Int.tdiv ((L + 1 : Nat) : Int) 2 = (((L + 1) / 2 : Nat) : Int) from rfl]
    exact wrap_small ⟨by omega, by omega⟩
  have e3 : IntKind.i64.wrap ((((L + 1) / 2 : Nat) : Int) - 1) = (((L + 1) / 2 : Nat) : Int) - 1 := wrap_small ⟨by omega, by omega⟩
  rw [e1, e2, e3] at st
  have hinv : InvR a 0 ((L + 1) / 2) := ⟨ha, h128 ha, Nat.zero_mod _, Nat.zero_le _, by rw [Nat.zero_add]; exact hup⟩
  obtain ⟨t', ht⟩ := it_loop (a := a) (.int .i64 (Int.ofNat L)) (.int .i64 ((L + 1 : Nat) : Int)) (.int .i64 (((L + 1) / 2 : Nat) : Int)) (.int .i64 ((((L + 1) / 2 : Nat) : Int) - 1)) ((L + 1) / 2) 0 undef undef undef undef undef undef undef undef hinv
  rw [Nat.zero_mul, Nat.zero_mul, Nat.sub_zero] at ht
  refine ⟨_, InvR.fin _ _ hinv, ?_⟩
  exact callsV_step f133_at body133 (st.seq (StepV.block ht.loop)) rfl (v := undef) rfl (by kernel_rfl) (fun i o h => h) (by kernel_rfl)
/-- extract. -/
theorem extract_z {a : Int} (ha : inR a) (h0 : 0 ≤ a) : ∃ R : Nat, (R * R : Nat) ≤ a.toNat ∧ a.toNat < (R + 1) * (R + 1) ∧ PureX Try.prog 46 #[wz a] (rt (xv R (a.toNat - R * R))) := by
  obtain ⟨x, rfl⟩ := Int.eq_ofNat_of_zero_le h0
  have hx : x < 57896044618658097711785492504343953926634992332820282019728792003956564819968 := by unfold inR at ha; omega
  obtain ⟨R, hR, hc⟩ := bits_c hx
  refine ⟨R, hR.low, by have := hR.high; rw [Nat.pow_zero] at this; exact this, ?_⟩
  have hs := sign_z ha
  have hd : decide ((x : Int).sign < 0) = false := by
    rcases (show (x : Int) = 0 ∨ 0 < (x : Int) by omega) with h | h
    · rw [h]; rfl
    · rw [Int.sign_eq_one_of_pos h]; rfl
  rw [← wz_nat] at hs ⊢
  have hr := runA_pure mix (rf_ok x (x : Int).sign) ⟨hs, hd, trivial⟩ rfl rfl
  exact runB_pure mix (ex_raw x R (x - R * R)) ⟨hr, hc, trivial⟩ rfl rfl

end Go.Proofs.Ytpllklojcjhjaaa

/- The functions of package root. -/
namespace Go.Proofs.Ytpllklojcjhjaaa
open Go Go.RowKit
set_option linter.unusedSimpArgs false
set_option linter.unusedVariables false

theorem ex_pan (x : Nat) (v : Int) : runA Try.prog 46 #[wv x] [] [(58, errs v)] =
    some (errs v, [PureX Try.prog 58 #[wv x] (errs v)]) := by kernel_rfl
theorem ri_ok (k m : Int) (x r l : Nat) (o : Bool) : runA Try.prog 28 #[.int .i64 (k)] [] [(47, rt (wv x)), (46, rt (xv r l)), (45, rt (tp [.int .i64 (m), bb (o)]))] =
    some (rt (tp [.int .i64 (m), .int .i64 (0)]), [PureX Try.prog 47 #[.int .i64 (k)] (rt (wv x)), PureX Try.prog 46 #[wv x] (rt (xv r l)), PureX Try.prog 45 #[wv r] (rt (tp [.int .i64 (m), bb (o)]))]) := by kernel_rfl
theorem ri_pan (k v : Int) (x : Nat) : runA Try.prog 28 #[.int .i64 (k)] [] [(47, rt (wv x)), (46, errs v)] =
    some (rt (tp [.int .i64 (0), .int .i64 (v)]), [PureX Try.prog 47 #[.int .i64 (k)] (rt (wv x)), PureX Try.prog 46 #[wv x] (errs v)]) := by kernel_rfl
theorem sq_uniq {x R S : Nat} (h1 : R * R ≤ x) (h2 : x < (R + 1) * (R + 1)) (h3 : S * S ≤ x) (h4 : x < (S + 1) * (S + 1)) : R = S := by
  rcases Nat.lt_trichotomy R S with h | h | h
  · have := Nat.mul_le_mul (show R + 1 ≤ S from h) (show R + 1 ≤ S from h)
    omega
  · exact h
  · have := Nat.mul_le_mul (show S + 1 ≤ R from h) (show S + 1 ≤ R from h)
    omega
/-- The whole root. -/
def isq (x : Nat) : Nat := fin x 0 128
theorem isq_ok {x : Nat} (hx : x < 57896044618658097711785492504343953926634992332820282019728792003956564819968) : isq x * isq x ≤ x ∧ x < (isq x + 1) * (isq x + 1) := by
  have h := InvR.fin (a := x) 128 0 ⟨hx, by omega, Nat.zero_mod _, Nat.zero_le _, Nat.lt_trans hx (by decide)⟩
  have h2 := h.high
  rw [Nat.pow_zero] at h2
  exact ⟨h.low, h2⟩
theorem isq_lt {x : Nat} (hx : x < 57896044618658097711785492504343953926634992332820282019728792003956564819968) : isq x < 340282366920938463463374607431768211456 := by
  refine Nat.lt_of_not_le (fun hc => ?_)
  have h2 : 340282366920938463463374607431768211456 * 340282366920938463463374607431768211456 ≤ isq x * isq x := Nat.mul_le_mul hc hc
  have := (isq_ok hx).1
  omega
theorem extr_z {x : Nat} (hx : x < 57896044618658097711785492504343953926634992332820282019728792003956564819968) : PureX Try.prog 46 #[wz (x : Int)] (rt (xv (isq x) (x - isq x * isq x))) := by
  obtain ⟨R, h1, h2, h3⟩ := extract_z (a := (x : Int)) (by unfold inR; omega) (by omega)
  rw [show ((x : Int)).toNat = x by omega] at h1 h2 h3
  obtain ⟨k1, k2⟩ := isq_ok hx
  rw [← sq_uniq h1 h2 k1 k2]
  exact h3
theorem ref_pan {a : Int} (ha : inR a) (h : a < 0) : PureX Try.prog 58 #[wz a] (errs 2) := by
  have hs := sign_z ha
  rw [Int.sign_eq_neg_one_of_neg h] at hs
  exact runA_pure mix (rf_pan (nz a) (-1)) ⟨hs, rfl, trivial⟩ rfl rfl
theorem ref_ok {a : Int} (ha : inR a) (h : 0 ≤ a) : PureX Try.prog 58 #[wz a] (rt undef) := by
  have hs := sign_z ha
  have hd : decide (a.sign < 0) = false := by
    rcases (show a = 0 ∨ 0 < a by omega) with h | h
    · rw [h]; rfl
    · rw [Int.sign_eq_one_of_pos h]; rfl
  exact runA_pure mix (rf_ok (nz a) a.sign) ⟨hs, hd, trivial⟩ rfl rfl
theorem extr_pan {a : Int} (ha : inR a) (h : a < 0) : PureX Try.prog 46 #[wz a] (errs 2) := runA_pure mix (ex_pan (nz a) 2) ⟨ref_pan ha h, trivial⟩ rfl rfl
theorem side_uniq {x y p q : Int} (hp : OnSide (x - y * p) y) (hq : OnSide (x - y * q) y) (h0 : y ≠ 0) : p = q := by
  have key : ∀ d : Int, 1 ≤ d → y.natAbs ≤ (y * d).natAbs := fun d hd => by
    rw [Int.natAbs_mul]
    exact Nat.le_mul_of_pos_right _ (by omega)
  have e : (x - y * p) - (x - y * q) = y * (q - p) := by rw [Int.mul_sub]; omega
  rcases Int.lt_trichotomy p q with h | h | h
  · have k := key (q - p) (by omega)
    rw [← e] at k
    unfold OnSide at hp hq
    omega
  · exact h
  · have k := key (p - q) (by omega)
    have e2 : y * (p - q) = -((x - y * p) - (x - y * q)) := by rw [e, ← Int.mul_neg]; congr 1; omega
    rw [e2] at k
    unfold OnSide at hp hq
    omega
theorem eqv_false {x y : Int} (hx : inR x) (hy : inR y) (h : x ≠ y) : eqv (nz x) (nz y) = false := by rw [eqv_z hx hy, decide_eq_false h]
/-- A floor is told by the side. -/
theorem flI_nat {x y : Nat} (hy : 0 < y) : flI (x : Int) (y : Int) = ((x / y : Nat) : Int) := by
  have h := flI_side (x := (x : Int)) (y := (y : Int)) (by omega)
  refine side_uniq (x := (x : Int)) (y := (y : Int)) h ?_ (by omega)
  have e : (x : Int) - (y : Int) * ((x / y : Nat) : Int) = ((x % y : Nat) : Int) := by
    have := Nat.div_add_mod x y
    have h2 : ((y * (x / y) + x % y : Nat) : Int) = (x : Int) := by rw [this]
    rw [Int.natCast_add, Int.natCast_mul] at h2
    omega
  rw [e]
  have := Nat.mod_lt x hy
  exact .inl ⟨by omega, by omega⟩
theorem nat_in {x : Nat} (hx : x < 57896044618658097711785492504343953926634992332820282019728792003956564819968) : inR (x : Int) ∧ (x : Int) ≠ least := by
  have : (x : Int) ≠ -57896044618658097711785492504343953926634992332820282019728792003956564819968 := by omega
  exact ⟨by unfold inR; omega, this⟩
theorem rint_ok {k : Nat} (hk : k < 9223372036854775808) : PureX Try.prog 28 #[.int .i64 (k : Int)] (rt (tp [.int .i64 (isq k : Int), .int .i64 0])) := by
  have hx : k < 57896044618658097711785492504343953926634992332820282019728792003956564819968 := by omega
  have h1 := of_z (x := (k : Int)) (by unfold isI; omega)
  have h2 := extr_z hx
  have hle : isq k ≤ k := Nat.le_trans (Nat.le_mul_self _) (isq_ok hx).1
  have hi : isI (isq k : Int) := by unfold isI; omega
  have h3 := int_z (isI_in hi)
  rw [if_pos hi] at h3
  rw [← wz_nat] at h3
  exact runA_pure mix (ri_ok (k : Int) (isq k : Int) (nz (k : Int)) (isq k) _ _) ⟨h1, h2, h3, trivial⟩ rfl rfl
theorem isq_is {x R : Nat} (hx : x < 57896044618658097711785492504343953926634992332820282019728792003956564819968) (h1 : R * R ≤ x) (h2 : x < (R + 1) * (R + 1)) : isq x = R := sq_uniq (isq_ok hx).1 (isq_ok hx).2 h1 h2
end Go.Proofs.Ytpllklojcjhjaaa
