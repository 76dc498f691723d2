/- Texts of the seat, joined. -/
import Derived.Test.YtlioffkonfkflaaGreatZz3
import Derived.Test.YtlioffkonfkflaaGreatZz10
/- The blocks of a root that is being found; its rounds, raw. -/
/- The blocks of a root that is being found. -/
namespace Go.Proofs.YtlioffkonfkflaaGreat
open Go Go.RowKit
set_option linter.unusedSimpArgs false
set_option linter.unusedVariables false

/-- The first range over a function in some code: what it assigns, its body. -/
def rfc : Code → Option (Code × Code)
  | .seq x y => match rfc x with | some r => some r | none => rfc y
  | .block _ b => rfc b
  | .rangeFunc _ _ a b => some (a, b)
  | _ => none
noncomputable def A84 : Code := ((Tryz.f141.body.bind rfc).map (·.1)).getD .skip
noncomputable def B84 : Code := ((Tryz.f141.body.bind rfc).map (·.2)).getD .skip
/-- A root and what is left. -/
def xo (r lf : Nat) : Obj := .cells ((wv r).cells ++ (wv lf).cells) 114 (0, 0)
def xv (r lf : Nat) : Value := .agg ((wv r).cells ++ (wv lf).cells)
def T84 (a : Nat) : Array Value := #[wv a, pt 1000, pt 1001, pt 1002, undef, undef, undef, wv a, undef, wv a, xv 0 a, wv a, .func (.func 199) #[] #[pt 1003], undef, undef, undef, undef, undef, undef, undef, undef, undef, undef, undef, undef, undef, undef, undef, undef, undef, undef, undef, undef, undef, undef, undef, undef, undef, undef, undef, undef]
noncomputable def R84 (a : Nat) : Obj := .loop { state := .ready, pending := none, fn := 0, tmps := T84 a, params := #[13], assign := A84, body := B84, defers := 1004 }
noncomputable def HX (a r lf : Nat) : Hp := [(1003, wo a), (1002, xo r lf), (1001, xo 0 0), (1000, wo a), (1004, .deferred (some [])), (1005, R84 a)]

end Go.Proofs.YtlioffkonfkflaaGreat

/- A root's rounds, and the places of its bits, raw. -/
namespace Go.Proofs.YtlioffkonfkflaaGreat
open Go Go.RowKit
set_option linter.unusedSimpArgs false
set_option linter.unusedVariables false

noncomputable def HY (a r lf : Nat) : Hp := [(1002, xo r lf), (1003, wo a), (1001, xo 0 0), (1000, wo a), (1004, .deferred (some [])), (1005, R84 a)]
theorem rd_t (a r lf p d h q : Nat) (k s : Int) (o : Bool) : runY Tryz.prog 1005 #[.int .i64 k] (HX a r lf) [t] [(182, rt (wv p)), (125, rt (tp [wv d, bb o])), (183, rt (wv h)), (170, rt (.int .i64 s)), (182, rt (wv q))] [] =
    some (rt (bb true), HY a q d, [PureX Tryz.prog 182 #[wv r, .int .i64 (IntKind.i64.wrap (2 * k))] (rt (wv p)), PureX Tryz.prog 125 #[wv lf, wv p] (rt (tp [wv d, bb o])), PureX Tryz.prog 183 #[wv r] (rt (wv h)), PureX Tryz.prog 170 #[wv d] (rt (.int .i64 s)), decide (0 ≤ s) = true, PureX Tryz.prog 182 #[wv h, .int .i64 (IntKind.i64.wrap (2 * k))] (rt (wv q))]) := by kernel_rfl
theorem rd_f (a r lf p d h : Nat) (k s : Int) (o : Bool) : runY Tryz.prog 1005 #[.int .i64 k] (HX a r lf) [f] [(182, rt (wv p)), (125, rt (tp [wv d, bb o])), (183, rt (wv h)), (170, rt (.int .i64 s))] [] =
    some (rt (bb true), HY a h lf, [PureX Tryz.prog 182 #[wv r, .int .i64 (IntKind.i64.wrap (2 * k))] (rt (wv p)), PureX Tryz.prog 125 #[wv lf, wv p] (rt (tp [wv d, bb o])), PureX Tryz.prog 183 #[wv r] (rt (wv h)), PureX Tryz.prog 170 #[wv d] (rt (.int .i64 s)), decide (0 ≤ s) = false]) := by kernel_rfl

/-- The first loop in some code; what stands ahead. -/
def lpc : Code → Option Code
  | .seq x y => match lpc x with | some r => some r | none => lpc y
  | .block _ b => lpc b
  | .loop b => some b
  | _ => none
noncomputable def L133 : Code := (Tryz.f199.body.bind lpc).getD .skip
noncomputable def K133 : Code := match Tryz.f199.body with | some (.seq x _) => x | _ => .skip
theorem body133 : Tryz.f199.body = some (.seq K133 (.block 0 (.loop L133))) := by kernel_rfl
def yv : Value := .func (.yield 1005) #[] #[]
def TI (a : Nat) (L L1 L2 L3 k x9 x10 x11 x12 x13 x14 x15 x16 : Value) : List Value := [yv, pt 1003, undef, k, wv a, L, L1, L2, L3, x9, x10, x11, x12, x13, x14, x15, x16]
theorem it_start (a r lf : Nat) (L : Int) : runS Tryz.prog K133 (frame0 Tryz.f199 #[yv, pt 1003]) (HX a r lf) [] [(200, rt (.int .i64 L))] [] =
    some (.normal, TI a (.int .i64 L) (.int .i64 (IntKind.i64.wrap (L + 1))) (.int .i64 (IntKind.i64.wrap (Int.tdiv (IntKind.i64.wrap (L + 1)) 2))) (.int .i64 (IntKind.i64.wrap (IntKind.i64.wrap (Int.tdiv (IntKind.i64.wrap (L + 1)) 2) - 1))) (.int .i64 (IntKind.i64.wrap (IntKind.i64.wrap (Int.tdiv (IntKind.i64.wrap (L + 1)) 2) - 1))) undef undef undef undef undef undef undef undef, HX a r lf, [PureX Tryz.prog 200 #[wv a] (rt (.int .i64 L))]) := by kernel_rfl
theorem it_round (a r lf r2 lf2 : Nat) (k : Int) (L L1 L2 L3 x9 x10 x11 x12 x13 x14 x15 x16 : Value) : runS Tryz.prog L133 (TI a L L1 L2 L3 (.int .i64 k) x9 x10 x11 x12 x13 x14 x15 x16) (HX a r lf) [t] [] [(1001005, rt (bb true), HX a r2 lf2)] =
    some (.normal, TI a L L1 L2 L3 (.int .i64 (IntKind.i64.wrap (k - 1))) (.int .i64 k) (bb (decide (0 ≤ k))) (.int .i64 k) (.int .i64 (IntKind.i64.wrap (k - 1))) yv (.int .i64 k) (bb true) (bb false), HX a r2 lf2, [decide (0 ≤ k) = true, CallsV Tryz.prog (.yield 1005) #[.int .i64 k] (HX a r lf) (rt (bb true)) (HX a r2 lf2)]) := by kernel_rfl
theorem it_end (a r lf : Nat) (k : Int) (L L1 L2 L3 x9 x10 x11 x12 x13 x14 x15 x16 : Value) : runS Tryz.prog L133 (TI a L L1 L2 L3 (.int .i64 k) x9 x10 x11 x12 x13 x14 x15 x16) (HX a r lf) [f] [] [] =
    some (.exit 0, TI a L L1 L2 L3 (.int .i64 k) (.int .i64 k) (bb (decide (0 ≤ k))) x11 x12 x13 x14 x15 x16, HX a r lf, [decide (0 ≤ k) = false]) := by kernel_rfl
theorem ex_raw (a r lf : Nat) : runB Tryz.prog 141 #[wv a] [] [] [(180, rt undef)] [(199, rt undef, HX a r lf)] =
    some (rt (xv r lf), [], [PureX Tryz.prog 180 #[wv a] (rt undef), CallsV Tryz.prog (.func 199) #[yv, pt 1003] (HX a 0 a) (rt undef) (HX a r lf)]) := by kernel_rfl

end Go.Proofs.YtlioffkonfkflaaGreat

/- A bit set, a half, a length: raw. -/
namespace Go.Proofs.YtlioffkonfkflaaGreat
open Go Go.RowKit
set_option linter.unusedSimpArgs false
set_option linter.unusedVariables false

def orB (x b : Nat) : Value := .int .u64 (bits BinOp.or IntKind.u64 (Int.ofNat x) (IntKind.u64.wrap (1 * 2 ^ b)))
def WB (x0 x1 x2 x3 p : Nat) : Value :=
  match p / 64 with
  | 0 => .agg #[orB x0 (p % 64), u x1, u x2, u x3]
  | 1 => .agg #[u x0, orB x1 (p % 64), u x2, u x3]
  | 2 => .agg #[u x0, u x1, orB x2 (p % 64), u x3]
  | _ => .agg #[u x0, u x1, u x2, orB x3 (p % 64)]
theorem hv_raw (x0 x1 x2 x3 : Nat) : runA Tryz.prog 183 #[W4 x0 x1 x2 x3] [] [] = some (rt (.agg #[low1 x0 x1 1, low1 x1 x2 1, low1 x2 x3 1, .int .u64 (Int.fdiv (Int.ofNat x3) (2 ^ 1))]), []) := by kernel_rfl
theorem rf_ok (x : Nat) (k : Int) : runA Tryz.prog 180 #[wv x] [f] [(170, rt (.int .i64 k))] = some (rt undef, [PureX Tryz.prog 170 #[wv x] (rt (.int .i64 k)), decide (k < 0) = false]) := by kernel_rfl
theorem rf_pan (x : Nat) (k : Int) : runA Tryz.prog 180 #[wv x] [t] [(170, rt (.int .i64 k))] = some (errs 2, [PureX Tryz.prog 170 #[wv x] (rt (.int .i64 k)), decide (k < 0) = true]) := by kernel_rfl
theorem ln_0 (x0 x1 x2 x3 : Nat) : runA Tryz.prog 200 #[W4 x0 x1 x2 x3] [n, f, n, f, n, f, n, f, n] [] = some (rt (.int .i64 (0)), [(Int.ofNat x0 != 0) = false, (Int.ofNat x1 != 0) = false, (Int.ofNat x2 != 0) = false, (Int.ofNat x3 != 0) = false]) := by kernel_rfl
theorem ln_1 (x0 x1 x2 x3 : Nat) (c0 : Int) : runA Tryz.prog 200 #[W4 x0 x1 x2 x3] [n, t, n, f, n, f, n, f, n] [(210, rt (.int .i64 c0))] = some (rt (.int .i64 (IntKind.i64.wrap (0 + c0))), [(Int.ofNat x0 != 0) = true, PureX Tryz.prog 210 #[u x0] (rt (.int .i64 c0)), (Int.ofNat x1 != 0) = false, (Int.ofNat x2 != 0) = false, (Int.ofNat x3 != 0) = false]) := by kernel_rfl
theorem ln_2 (x0 x1 x2 x3 : Nat) (c1 : Int) : runA Tryz.prog 200 #[W4 x0 x1 x2 x3] [n, f, n, t, n, f, n, f, n] [(210, rt (.int .i64 c1))] = some (rt (.int .i64 (IntKind.i64.wrap (64 + c1))), [(Int.ofNat x0 != 0) = false, (Int.ofNat x1 != 0) = true, PureX Tryz.prog 210 #[u x1] (rt (.int .i64 c1)), (Int.ofNat x2 != 0) = false, (Int.ofNat x3 != 0) = false]) := by kernel_rfl
theorem ln_3 (x0 x1 x2 x3 : Nat) (c0 c1 : Int) : runA Tryz.prog 200 #[W4 x0 x1 x2 x3] [n, t, n, t, n, f, n, f, n] [(210, rt (.int .i64 c0)), (210, rt (.int .i64 c1))] = some (rt (.int .i64 (IntKind.i64.wrap (64 + c1))), [(Int.ofNat x0 != 0) = true, PureX Tryz.prog 210 #[u x0] (rt (.int .i64 c0)), (Int.ofNat x1 != 0) = true, PureX Tryz.prog 210 #[u x1] (rt (.int .i64 c1)), (Int.ofNat x2 != 0) = false, (Int.ofNat x3 != 0) = false]) := by kernel_rfl
theorem ln_4 (x0 x1 x2 x3 : Nat) (c2 : Int) : runA Tryz.prog 200 #[W4 x0 x1 x2 x3] [n, f, n, f, n, t, n, f, n] [(210, rt (.int .i64 c2))] = some (rt (.int .i64 (IntKind.i64.wrap (128 + c2))), [(Int.ofNat x0 != 0) = false, (Int.ofNat x1 != 0) = false, (Int.ofNat x2 != 0) = true, PureX Tryz.prog 210 #[u x2] (rt (.int .i64 c2)), (Int.ofNat x3 != 0) = false]) := by kernel_rfl
theorem ln_5 (x0 x1 x2 x3 : Nat) (c0 c2 : Int) : runA Tryz.prog 200 #[W4 x0 x1 x2 x3] [n, t, n, f, n, t, n, f, n] [(210, rt (.int .i64 c0)), (210, rt (.int .i64 c2))] = some (rt (.int .i64 (IntKind.i64.wrap (128 + c2))), [(Int.ofNat x0 != 0) = true, PureX Tryz.prog 210 #[u x0] (rt (.int .i64 c0)), (Int.ofNat x1 != 0) = false, (Int.ofNat x2 != 0) = true, PureX Tryz.prog 210 #[u x2] (rt (.int .i64 c2)), (Int.ofNat x3 != 0) = false]) := by kernel_rfl
theorem ln_6 (x0 x1 x2 x3 : Nat) (c1 c2 : Int) : runA Tryz.prog 200 #[W4 x0 x1 x2 x3] [n, f, n, t, n, t, n, f, n] [(210, rt (.int .i64 c1)), (210, rt (.int .i64 c2))] = some (rt (.int .i64 (IntKind.i64.wrap (128 + c2))), [(Int.ofNat x0 != 0) = false, (Int.ofNat x1 != 0) = true, PureX Tryz.prog 210 #[u x1] (rt (.int .i64 c1)), (Int.ofNat x2 != 0) = true, PureX Tryz.prog 210 #[u x2] (rt (.int .i64 c2)), (Int.ofNat x3 != 0) = false]) := by kernel_rfl
theorem ln_7 (x0 x1 x2 x3 : Nat) (c0 c1 c2 : Int) : runA Tryz.prog 200 #[W4 x0 x1 x2 x3] [n, t, n, t, n, t, n, f, n] [(210, rt (.int .i64 c0)), (210, rt (.int .i64 c1)), (210, rt (.int .i64 c2))] = some (rt (.int .i64 (IntKind.i64.wrap (128 + c2))), [(Int.ofNat x0 != 0) = true, PureX Tryz.prog 210 #[u x0] (rt (.int .i64 c0)), (Int.ofNat x1 != 0) = true, PureX Tryz.prog 210 #[u x1] (rt (.int .i64 c1)), (Int.ofNat x2 != 0) = true, PureX Tryz.prog 210 #[u x2] (rt (.int .i64 c2)), (Int.ofNat x3 != 0) = false]) := by kernel_rfl
theorem ln_8 (x0 x1 x2 x3 : Nat) (c3 : Int) : runA Tryz.prog 200 #[W4 x0 x1 x2 x3] [n, f, n, f, n, f, n, t, n] [(210, rt (.int .i64 c3))] = some (rt (.int .i64 (IntKind.i64.wrap (192 + c3))), [(Int.ofNat x0 != 0) = false, (Int.ofNat x1 != 0) = false, (Int.ofNat x2 != 0) = false, (Int.ofNat x3 != 0) = true, PureX Tryz.prog 210 #[u x3] (rt (.int .i64 c3))]) := by kernel_rfl
theorem ln_9 (x0 x1 x2 x3 : Nat) (c0 c3 : Int) : runA Tryz.prog 200 #[W4 x0 x1 x2 x3] [n, t, n, f, n, f, n, t, n] [(210, rt (.int .i64 c0)), (210, rt (.int .i64 c3))] = some (rt (.int .i64 (IntKind.i64.wrap (192 + c3))), [(Int.ofNat x0 != 0) = true, PureX Tryz.prog 210 #[u x0] (rt (.int .i64 c0)), (Int.ofNat x1 != 0) = false, (Int.ofNat x2 != 0) = false, (Int.ofNat x3 != 0) = true, PureX Tryz.prog 210 #[u x3] (rt (.int .i64 c3))]) := by kernel_rfl
theorem ln_10 (x0 x1 x2 x3 : Nat) (c1 c3 : Int) : runA Tryz.prog 200 #[W4 x0 x1 x2 x3] [n, f, n, t, n, f, n, t, n] [(210, rt (.int .i64 c1)), (210, rt (.int .i64 c3))] = some (rt (.int .i64 (IntKind.i64.wrap (192 + c3))), [(Int.ofNat x0 != 0) = false, (Int.ofNat x1 != 0) = true, PureX Tryz.prog 210 #[u x1] (rt (.int .i64 c1)), (Int.ofNat x2 != 0) = false, (Int.ofNat x3 != 0) = true, PureX Tryz.prog 210 #[u x3] (rt (.int .i64 c3))]) := by kernel_rfl
theorem ln_11 (x0 x1 x2 x3 : Nat) (c0 c1 c3 : Int) : runA Tryz.prog 200 #[W4 x0 x1 x2 x3] [n, t, n, t, n, f, n, t, n] [(210, rt (.int .i64 c0)), (210, rt (.int .i64 c1)), (210, rt (.int .i64 c3))] = some (rt (.int .i64 (IntKind.i64.wrap (192 + c3))), [(Int.ofNat x0 != 0) = true, PureX Tryz.prog 210 #[u x0] (rt (.int .i64 c0)), (Int.ofNat x1 != 0) = true, PureX Tryz.prog 210 #[u x1] (rt (.int .i64 c1)), (Int.ofNat x2 != 0) = false, (Int.ofNat x3 != 0) = true, PureX Tryz.prog 210 #[u x3] (rt (.int .i64 c3))]) := by kernel_rfl
theorem ln_12 (x0 x1 x2 x3 : Nat) (c2 c3 : Int) : runA Tryz.prog 200 #[W4 x0 x1 x2 x3] [n, f, n, f, n, t, n, t, n] [(210, rt (.int .i64 c2)), (210, rt (.int .i64 c3))] = some (rt (.int .i64 (IntKind.i64.wrap (192 + c3))), [(Int.ofNat x0 != 0) = false, (Int.ofNat x1 != 0) = false, (Int.ofNat x2 != 0) = true, PureX Tryz.prog 210 #[u x2] (rt (.int .i64 c2)), (Int.ofNat x3 != 0) = true, PureX Tryz.prog 210 #[u x3] (rt (.int .i64 c3))]) := by kernel_rfl
theorem ln_13 (x0 x1 x2 x3 : Nat) (c0 c2 c3 : Int) : runA Tryz.prog 200 #[W4 x0 x1 x2 x3] [n, t, n, f, n, t, n, t, n] [(210, rt (.int .i64 c0)), (210, rt (.int .i64 c2)), (210, rt (.int .i64 c3))] = some (rt (.int .i64 (IntKind.i64.wrap (192 + c3))), [(Int.ofNat x0 != 0) = true, PureX Tryz.prog 210 #[u x0] (rt (.int .i64 c0)), (Int.ofNat x1 != 0) = false, (Int.ofNat x2 != 0) = true, PureX Tryz.prog 210 #[u x2] (rt (.int .i64 c2)), (Int.ofNat x3 != 0) = true, PureX Tryz.prog 210 #[u x3] (rt (.int .i64 c3))]) := by kernel_rfl
theorem ln_14 (x0 x1 x2 x3 : Nat) (c1 c2 c3 : Int) : runA Tryz.prog 200 #[W4 x0 x1 x2 x3] [n, f, n, t, n, t, n, t, n] [(210, rt (.int .i64 c1)), (210, rt (.int .i64 c2)), (210, rt (.int .i64 c3))] = some (rt (.int .i64 (IntKind.i64.wrap (192 + c3))), [(Int.ofNat x0 != 0) = false, (Int.ofNat x1 != 0) = true, PureX Tryz.prog 210 #[u x1] (rt (.int .i64 c1)), (Int.ofNat x2 != 0) = true, PureX Tryz.prog 210 #[u x2] (rt (.int .i64 c2)), (Int.ofNat x3 != 0) = true, PureX Tryz.prog 210 #[u x3] (rt (.int .i64 c3))]) := by kernel_rfl
theorem ln_15 (x0 x1 x2 x3 : Nat) (c0 c1 c2 c3 : Int) : runA Tryz.prog 200 #[W4 x0 x1 x2 x3] [n, t, n, t, n, t, n, t, n] [(210, rt (.int .i64 c0)), (210, rt (.int .i64 c1)), (210, rt (.int .i64 c2)), (210, rt (.int .i64 c3))] = some (rt (.int .i64 (IntKind.i64.wrap (192 + c3))), [(Int.ofNat x0 != 0) = true, PureX Tryz.prog 210 #[u x0] (rt (.int .i64 c0)), (Int.ofNat x1 != 0) = true, PureX Tryz.prog 210 #[u x1] (rt (.int .i64 c1)), (Int.ofNat x2 != 0) = true, PureX Tryz.prog 210 #[u x2] (rt (.int .i64 c2)), (Int.ofNat x3 != 0) = true, PureX Tryz.prog 210 #[u x3] (rt (.int .i64 c3))]) := by kernel_rfl
theorem wb_0 (x0 x1 x2 x3 : Nat) : runA Tryz.prog 182 #[W4 x0 x1 x2 x3, .int .i64 (Int.ofNat 0)] [] [] = some (rt (WB x0 x1 x2 x3 0), []) := by kernel_rfl
theorem wb_1 (x0 x1 x2 x3 : Nat) : runA Tryz.prog 182 #[W4 x0 x1 x2 x3, .int .i64 (Int.ofNat 2)] [] [] = some (rt (WB x0 x1 x2 x3 2), []) := by kernel_rfl
theorem wb_2 (x0 x1 x2 x3 : Nat) : runA Tryz.prog 182 #[W4 x0 x1 x2 x3, .int .i64 (Int.ofNat 4)] [] [] = some (rt (WB x0 x1 x2 x3 4), []) := by kernel_rfl
theorem wb_3 (x0 x1 x2 x3 : Nat) : runA Tryz.prog 182 #[W4 x0 x1 x2 x3, .int .i64 (Int.ofNat 6)] [] [] = some (rt (WB x0 x1 x2 x3 6), []) := by kernel_rfl
theorem wb_4 (x0 x1 x2 x3 : Nat) : runA Tryz.prog 182 #[W4 x0 x1 x2 x3, .int .i64 (Int.ofNat 8)] [] [] = some (rt (WB x0 x1 x2 x3 8), []) := by kernel_rfl
theorem wb_5 (x0 x1 x2 x3 : Nat) : runA Tryz.prog 182 #[W4 x0 x1 x2 x3, .int .i64 (Int.ofNat 10)] [] [] = some (rt (WB x0 x1 x2 x3 10), []) := by kernel_rfl
theorem wb_6 (x0 x1 x2 x3 : Nat) : runA Tryz.prog 182 #[W4 x0 x1 x2 x3, .int .i64 (Int.ofNat 12)] [] [] = some (rt (WB x0 x1 x2 x3 12), []) := by kernel_rfl
theorem wb_7 (x0 x1 x2 x3 : Nat) : runA Tryz.prog 182 #[W4 x0 x1 x2 x3, .int .i64 (Int.ofNat 14)] [] [] = some (rt (WB x0 x1 x2 x3 14), []) := by kernel_rfl
theorem wb_8 (x0 x1 x2 x3 : Nat) : runA Tryz.prog 182 #[W4 x0 x1 x2 x3, .int .i64 (Int.ofNat 16)] [] [] = some (rt (WB x0 x1 x2 x3 16), []) := by kernel_rfl
theorem wb_9 (x0 x1 x2 x3 : Nat) : runA Tryz.prog 182 #[W4 x0 x1 x2 x3, .int .i64 (Int.ofNat 18)] [] [] = some (rt (WB x0 x1 x2 x3 18), []) := by kernel_rfl
theorem wb_10 (x0 x1 x2 x3 : Nat) : runA Tryz.prog 182 #[W4 x0 x1 x2 x3, .int .i64 (Int.ofNat 20)] [] [] = some (rt (WB x0 x1 x2 x3 20), []) := by kernel_rfl
theorem wb_11 (x0 x1 x2 x3 : Nat) : runA Tryz.prog 182 #[W4 x0 x1 x2 x3, .int .i64 (Int.ofNat 22)] [] [] = some (rt (WB x0 x1 x2 x3 22), []) := by kernel_rfl
theorem wb_12 (x0 x1 x2 x3 : Nat) : runA Tryz.prog 182 #[W4 x0 x1 x2 x3, .int .i64 (Int.ofNat 24)] [] [] = some (rt (WB x0 x1 x2 x3 24), []) := by kernel_rfl
theorem wb_13 (x0 x1 x2 x3 : Nat) : runA Tryz.prog 182 #[W4 x0 x1 x2 x3, .int .i64 (Int.ofNat 26)] [] [] = some (rt (WB x0 x1 x2 x3 26), []) := by kernel_rfl
theorem wb_14 (x0 x1 x2 x3 : Nat) : runA Tryz.prog 182 #[W4 x0 x1 x2 x3, .int .i64 (Int.ofNat 28)] [] [] = some (rt (WB x0 x1 x2 x3 28), []) := by kernel_rfl
theorem wb_15 (x0 x1 x2 x3 : Nat) : runA Tryz.prog 182 #[W4 x0 x1 x2 x3, .int .i64 (Int.ofNat 30)] [] [] = some (rt (WB x0 x1 x2 x3 30), []) := by kernel_rfl
theorem wb_16 (x0 x1 x2 x3 : Nat) : runA Tryz.prog 182 #[W4 x0 x1 x2 x3, .int .i64 (Int.ofNat 32)] [] [] = some (rt (WB x0 x1 x2 x3 32), []) := by kernel_rfl
theorem wb_17 (x0 x1 x2 x3 : Nat) : runA Tryz.prog 182 #[W4 x0 x1 x2 x3, .int .i64 (Int.ofNat 34)] [] [] = some (rt (WB x0 x1 x2 x3 34), []) := by kernel_rfl
theorem wb_18 (x0 x1 x2 x3 : Nat) : runA Tryz.prog 182 #[W4 x0 x1 x2 x3, .int .i64 (Int.ofNat 36)] [] [] = some (rt (WB x0 x1 x2 x3 36), []) := by kernel_rfl
theorem wb_19 (x0 x1 x2 x3 : Nat) : runA Tryz.prog 182 #[W4 x0 x1 x2 x3, .int .i64 (Int.ofNat 38)] [] [] = some (rt (WB x0 x1 x2 x3 38), []) := by kernel_rfl
theorem wb_20 (x0 x1 x2 x3 : Nat) : runA Tryz.prog 182 #[W4 x0 x1 x2 x3, .int .i64 (Int.ofNat 40)] [] [] = some (rt (WB x0 x1 x2 x3 40), []) := by kernel_rfl
theorem wb_21 (x0 x1 x2 x3 : Nat) : runA Tryz.prog 182 #[W4 x0 x1 x2 x3, .int .i64 (Int.ofNat 42)] [] [] = some (rt (WB x0 x1 x2 x3 42), []) := by kernel_rfl
theorem wb_22 (x0 x1 x2 x3 : Nat) : runA Tryz.prog 182 #[W4 x0 x1 x2 x3, .int .i64 (Int.ofNat 44)] [] [] = some (rt (WB x0 x1 x2 x3 44), []) := by kernel_rfl
theorem wb_23 (x0 x1 x2 x3 : Nat) : runA Tryz.prog 182 #[W4 x0 x1 x2 x3, .int .i64 (Int.ofNat 46)] [] [] = some (rt (WB x0 x1 x2 x3 46), []) := by kernel_rfl
theorem wb_24 (x0 x1 x2 x3 : Nat) : runA Tryz.prog 182 #[W4 x0 x1 x2 x3, .int .i64 (Int.ofNat 48)] [] [] = some (rt (WB x0 x1 x2 x3 48), []) := by kernel_rfl
theorem wb_25 (x0 x1 x2 x3 : Nat) : runA Tryz.prog 182 #[W4 x0 x1 x2 x3, .int .i64 (Int.ofNat 50)] [] [] = some (rt (WB x0 x1 x2 x3 50), []) := by kernel_rfl
theorem wb_26 (x0 x1 x2 x3 : Nat) : runA Tryz.prog 182 #[W4 x0 x1 x2 x3, .int .i64 (Int.ofNat 52)] [] [] = some (rt (WB x0 x1 x2 x3 52), []) := by kernel_rfl
theorem wb_27 (x0 x1 x2 x3 : Nat) : runA Tryz.prog 182 #[W4 x0 x1 x2 x3, .int .i64 (Int.ofNat 54)] [] [] = some (rt (WB x0 x1 x2 x3 54), []) := by kernel_rfl
theorem wb_28 (x0 x1 x2 x3 : Nat) : runA Tryz.prog 182 #[W4 x0 x1 x2 x3, .int .i64 (Int.ofNat 56)] [] [] = some (rt (WB x0 x1 x2 x3 56), []) := by kernel_rfl
theorem wb_29 (x0 x1 x2 x3 : Nat) : runA Tryz.prog 182 #[W4 x0 x1 x2 x3, .int .i64 (Int.ofNat 58)] [] [] = some (rt (WB x0 x1 x2 x3 58), []) := by kernel_rfl
theorem wb_30 (x0 x1 x2 x3 : Nat) : runA Tryz.prog 182 #[W4 x0 x1 x2 x3, .int .i64 (Int.ofNat 60)] [] [] = some (rt (WB x0 x1 x2 x3 60), []) := by kernel_rfl
theorem wb_31 (x0 x1 x2 x3 : Nat) : runA Tryz.prog 182 #[W4 x0 x1 x2 x3, .int .i64 (Int.ofNat 62)] [] [] = some (rt (WB x0 x1 x2 x3 62), []) := by kernel_rfl
theorem wb_32 (x0 x1 x2 x3 : Nat) : runA Tryz.prog 182 #[W4 x0 x1 x2 x3, .int .i64 (Int.ofNat 64)] [] [] = some (rt (WB x0 x1 x2 x3 64), []) := by kernel_rfl
theorem wb_33 (x0 x1 x2 x3 : Nat) : runA Tryz.prog 182 #[W4 x0 x1 x2 x3, .int .i64 (Int.ofNat 66)] [] [] = some (rt (WB x0 x1 x2 x3 66), []) := by kernel_rfl
theorem wb_34 (x0 x1 x2 x3 : Nat) : runA Tryz.prog 182 #[W4 x0 x1 x2 x3, .int .i64 (Int.ofNat 68)] [] [] = some (rt (WB x0 x1 x2 x3 68), []) := by kernel_rfl
theorem wb_35 (x0 x1 x2 x3 : Nat) : runA Tryz.prog 182 #[W4 x0 x1 x2 x3, .int .i64 (Int.ofNat 70)] [] [] = some (rt (WB x0 x1 x2 x3 70), []) := by kernel_rfl
theorem wb_36 (x0 x1 x2 x3 : Nat) : runA Tryz.prog 182 #[W4 x0 x1 x2 x3, .int .i64 (Int.ofNat 72)] [] [] = some (rt (WB x0 x1 x2 x3 72), []) := by kernel_rfl
theorem wb_37 (x0 x1 x2 x3 : Nat) : runA Tryz.prog 182 #[W4 x0 x1 x2 x3, .int .i64 (Int.ofNat 74)] [] [] = some (rt (WB x0 x1 x2 x3 74), []) := by kernel_rfl
theorem wb_38 (x0 x1 x2 x3 : Nat) : runA Tryz.prog 182 #[W4 x0 x1 x2 x3, .int .i64 (Int.ofNat 76)] [] [] = some (rt (WB x0 x1 x2 x3 76), []) := by kernel_rfl
theorem wb_39 (x0 x1 x2 x3 : Nat) : runA Tryz.prog 182 #[W4 x0 x1 x2 x3, .int .i64 (Int.ofNat 78)] [] [] = some (rt (WB x0 x1 x2 x3 78), []) := by kernel_rfl
theorem wb_40 (x0 x1 x2 x3 : Nat) : runA Tryz.prog 182 #[W4 x0 x1 x2 x3, .int .i64 (Int.ofNat 80)] [] [] = some (rt (WB x0 x1 x2 x3 80), []) := by kernel_rfl
theorem wb_41 (x0 x1 x2 x3 : Nat) : runA Tryz.prog 182 #[W4 x0 x1 x2 x3, .int .i64 (Int.ofNat 82)] [] [] = some (rt (WB x0 x1 x2 x3 82), []) := by kernel_rfl
theorem wb_42 (x0 x1 x2 x3 : Nat) : runA Tryz.prog 182 #[W4 x0 x1 x2 x3, .int .i64 (Int.ofNat 84)] [] [] = some (rt (WB x0 x1 x2 x3 84), []) := by kernel_rfl
theorem wb_43 (x0 x1 x2 x3 : Nat) : runA Tryz.prog 182 #[W4 x0 x1 x2 x3, .int .i64 (Int.ofNat 86)] [] [] = some (rt (WB x0 x1 x2 x3 86), []) := by kernel_rfl
theorem wb_44 (x0 x1 x2 x3 : Nat) : runA Tryz.prog 182 #[W4 x0 x1 x2 x3, .int .i64 (Int.ofNat 88)] [] [] = some (rt (WB x0 x1 x2 x3 88), []) := by kernel_rfl
theorem wb_45 (x0 x1 x2 x3 : Nat) : runA Tryz.prog 182 #[W4 x0 x1 x2 x3, .int .i64 (Int.ofNat 90)] [] [] = some (rt (WB x0 x1 x2 x3 90), []) := by kernel_rfl
theorem wb_46 (x0 x1 x2 x3 : Nat) : runA Tryz.prog 182 #[W4 x0 x1 x2 x3, .int .i64 (Int.ofNat 92)] [] [] = some (rt (WB x0 x1 x2 x3 92), []) := by kernel_rfl
theorem wb_47 (x0 x1 x2 x3 : Nat) : runA Tryz.prog 182 #[W4 x0 x1 x2 x3, .int .i64 (Int.ofNat 94)] [] [] = some (rt (WB x0 x1 x2 x3 94), []) := by kernel_rfl
theorem wb_48 (x0 x1 x2 x3 : Nat) : runA Tryz.prog 182 #[W4 x0 x1 x2 x3, .int .i64 (Int.ofNat 96)] [] [] = some (rt (WB x0 x1 x2 x3 96), []) := by kernel_rfl
theorem wb_49 (x0 x1 x2 x3 : Nat) : runA Tryz.prog 182 #[W4 x0 x1 x2 x3, .int .i64 (Int.ofNat 98)] [] [] = some (rt (WB x0 x1 x2 x3 98), []) := by kernel_rfl
theorem wb_50 (x0 x1 x2 x3 : Nat) : runA Tryz.prog 182 #[W4 x0 x1 x2 x3, .int .i64 (Int.ofNat 100)] [] [] = some (rt (WB x0 x1 x2 x3 100), []) := by kernel_rfl
theorem wb_51 (x0 x1 x2 x3 : Nat) : runA Tryz.prog 182 #[W4 x0 x1 x2 x3, .int .i64 (Int.ofNat 102)] [] [] = some (rt (WB x0 x1 x2 x3 102), []) := by kernel_rfl
theorem wb_52 (x0 x1 x2 x3 : Nat) : runA Tryz.prog 182 #[W4 x0 x1 x2 x3, .int .i64 (Int.ofNat 104)] [] [] = some (rt (WB x0 x1 x2 x3 104), []) := by kernel_rfl
theorem wb_53 (x0 x1 x2 x3 : Nat) : runA Tryz.prog 182 #[W4 x0 x1 x2 x3, .int .i64 (Int.ofNat 106)] [] [] = some (rt (WB x0 x1 x2 x3 106), []) := by kernel_rfl
theorem wb_54 (x0 x1 x2 x3 : Nat) : runA Tryz.prog 182 #[W4 x0 x1 x2 x3, .int .i64 (Int.ofNat 108)] [] [] = some (rt (WB x0 x1 x2 x3 108), []) := by kernel_rfl
theorem wb_55 (x0 x1 x2 x3 : Nat) : runA Tryz.prog 182 #[W4 x0 x1 x2 x3, .int .i64 (Int.ofNat 110)] [] [] = some (rt (WB x0 x1 x2 x3 110), []) := by kernel_rfl
theorem wb_56 (x0 x1 x2 x3 : Nat) : runA Tryz.prog 182 #[W4 x0 x1 x2 x3, .int .i64 (Int.ofNat 112)] [] [] = some (rt (WB x0 x1 x2 x3 112), []) := by kernel_rfl
theorem wb_57 (x0 x1 x2 x3 : Nat) : runA Tryz.prog 182 #[W4 x0 x1 x2 x3, .int .i64 (Int.ofNat 114)] [] [] = some (rt (WB x0 x1 x2 x3 114), []) := by kernel_rfl
theorem wb_58 (x0 x1 x2 x3 : Nat) : runA Tryz.prog 182 #[W4 x0 x1 x2 x3, .int .i64 (Int.ofNat 116)] [] [] = some (rt (WB x0 x1 x2 x3 116), []) := by kernel_rfl
theorem wb_59 (x0 x1 x2 x3 : Nat) : runA Tryz.prog 182 #[W4 x0 x1 x2 x3, .int .i64 (Int.ofNat 118)] [] [] = some (rt (WB x0 x1 x2 x3 118), []) := by kernel_rfl
theorem wb_60 (x0 x1 x2 x3 : Nat) : runA Tryz.prog 182 #[W4 x0 x1 x2 x3, .int .i64 (Int.ofNat 120)] [] [] = some (rt (WB x0 x1 x2 x3 120), []) := by kernel_rfl
theorem wb_61 (x0 x1 x2 x3 : Nat) : runA Tryz.prog 182 #[W4 x0 x1 x2 x3, .int .i64 (Int.ofNat 122)] [] [] = some (rt (WB x0 x1 x2 x3 122), []) := by kernel_rfl
theorem wb_62 (x0 x1 x2 x3 : Nat) : runA Tryz.prog 182 #[W4 x0 x1 x2 x3, .int .i64 (Int.ofNat 124)] [] [] = some (rt (WB x0 x1 x2 x3 124), []) := by kernel_rfl
theorem wb_63 (x0 x1 x2 x3 : Nat) : runA Tryz.prog 182 #[W4 x0 x1 x2 x3, .int .i64 (Int.ofNat 126)] [] [] = some (rt (WB x0 x1 x2 x3 126), []) := by kernel_rfl
theorem wb_64 (x0 x1 x2 x3 : Nat) : runA Tryz.prog 182 #[W4 x0 x1 x2 x3, .int .i64 (Int.ofNat 128)] [] [] = some (rt (WB x0 x1 x2 x3 128), []) := by kernel_rfl
theorem wb_65 (x0 x1 x2 x3 : Nat) : runA Tryz.prog 182 #[W4 x0 x1 x2 x3, .int .i64 (Int.ofNat 130)] [] [] = some (rt (WB x0 x1 x2 x3 130), []) := by kernel_rfl
theorem wb_66 (x0 x1 x2 x3 : Nat) : runA Tryz.prog 182 #[W4 x0 x1 x2 x3, .int .i64 (Int.ofNat 132)] [] [] = some (rt (WB x0 x1 x2 x3 132), []) := by kernel_rfl
theorem wb_67 (x0 x1 x2 x3 : Nat) : runA Tryz.prog 182 #[W4 x0 x1 x2 x3, .int .i64 (Int.ofNat 134)] [] [] = some (rt (WB x0 x1 x2 x3 134), []) := by kernel_rfl
theorem wb_68 (x0 x1 x2 x3 : Nat) : runA Tryz.prog 182 #[W4 x0 x1 x2 x3, .int .i64 (Int.ofNat 136)] [] [] = some (rt (WB x0 x1 x2 x3 136), []) := by kernel_rfl
theorem wb_69 (x0 x1 x2 x3 : Nat) : runA Tryz.prog 182 #[W4 x0 x1 x2 x3, .int .i64 (Int.ofNat 138)] [] [] = some (rt (WB x0 x1 x2 x3 138), []) := by kernel_rfl
theorem wb_70 (x0 x1 x2 x3 : Nat) : runA Tryz.prog 182 #[W4 x0 x1 x2 x3, .int .i64 (Int.ofNat 140)] [] [] = some (rt (WB x0 x1 x2 x3 140), []) := by kernel_rfl
theorem wb_71 (x0 x1 x2 x3 : Nat) : runA Tryz.prog 182 #[W4 x0 x1 x2 x3, .int .i64 (Int.ofNat 142)] [] [] = some (rt (WB x0 x1 x2 x3 142), []) := by kernel_rfl
theorem wb_72 (x0 x1 x2 x3 : Nat) : runA Tryz.prog 182 #[W4 x0 x1 x2 x3, .int .i64 (Int.ofNat 144)] [] [] = some (rt (WB x0 x1 x2 x3 144), []) := by kernel_rfl
theorem wb_73 (x0 x1 x2 x3 : Nat) : runA Tryz.prog 182 #[W4 x0 x1 x2 x3, .int .i64 (Int.ofNat 146)] [] [] = some (rt (WB x0 x1 x2 x3 146), []) := by kernel_rfl
theorem wb_74 (x0 x1 x2 x3 : Nat) : runA Tryz.prog 182 #[W4 x0 x1 x2 x3, .int .i64 (Int.ofNat 148)] [] [] = some (rt (WB x0 x1 x2 x3 148), []) := by kernel_rfl
theorem wb_75 (x0 x1 x2 x3 : Nat) : runA Tryz.prog 182 #[W4 x0 x1 x2 x3, .int .i64 (Int.ofNat 150)] [] [] = some (rt (WB x0 x1 x2 x3 150), []) := by kernel_rfl
theorem wb_76 (x0 x1 x2 x3 : Nat) : runA Tryz.prog 182 #[W4 x0 x1 x2 x3, .int .i64 (Int.ofNat 152)] [] [] = some (rt (WB x0 x1 x2 x3 152), []) := by kernel_rfl
theorem wb_77 (x0 x1 x2 x3 : Nat) : runA Tryz.prog 182 #[W4 x0 x1 x2 x3, .int .i64 (Int.ofNat 154)] [] [] = some (rt (WB x0 x1 x2 x3 154), []) := by kernel_rfl
theorem wb_78 (x0 x1 x2 x3 : Nat) : runA Tryz.prog 182 #[W4 x0 x1 x2 x3, .int .i64 (Int.ofNat 156)] [] [] = some (rt (WB x0 x1 x2 x3 156), []) := by kernel_rfl
theorem wb_79 (x0 x1 x2 x3 : Nat) : runA Tryz.prog 182 #[W4 x0 x1 x2 x3, .int .i64 (Int.ofNat 158)] [] [] = some (rt (WB x0 x1 x2 x3 158), []) := by kernel_rfl
theorem wb_80 (x0 x1 x2 x3 : Nat) : runA Tryz.prog 182 #[W4 x0 x1 x2 x3, .int .i64 (Int.ofNat 160)] [] [] = some (rt (WB x0 x1 x2 x3 160), []) := by kernel_rfl
theorem wb_81 (x0 x1 x2 x3 : Nat) : runA Tryz.prog 182 #[W4 x0 x1 x2 x3, .int .i64 (Int.ofNat 162)] [] [] = some (rt (WB x0 x1 x2 x3 162), []) := by kernel_rfl
theorem wb_82 (x0 x1 x2 x3 : Nat) : runA Tryz.prog 182 #[W4 x0 x1 x2 x3, .int .i64 (Int.ofNat 164)] [] [] = some (rt (WB x0 x1 x2 x3 164), []) := by kernel_rfl
theorem wb_83 (x0 x1 x2 x3 : Nat) : runA Tryz.prog 182 #[W4 x0 x1 x2 x3, .int .i64 (Int.ofNat 166)] [] [] = some (rt (WB x0 x1 x2 x3 166), []) := by kernel_rfl
theorem wb_84 (x0 x1 x2 x3 : Nat) : runA Tryz.prog 182 #[W4 x0 x1 x2 x3, .int .i64 (Int.ofNat 168)] [] [] = some (rt (WB x0 x1 x2 x3 168), []) := by kernel_rfl
theorem wb_85 (x0 x1 x2 x3 : Nat) : runA Tryz.prog 182 #[W4 x0 x1 x2 x3, .int .i64 (Int.ofNat 170)] [] [] = some (rt (WB x0 x1 x2 x3 170), []) := by kernel_rfl
theorem wb_86 (x0 x1 x2 x3 : Nat) : runA Tryz.prog 182 #[W4 x0 x1 x2 x3, .int .i64 (Int.ofNat 172)] [] [] = some (rt (WB x0 x1 x2 x3 172), []) := by kernel_rfl
theorem wb_87 (x0 x1 x2 x3 : Nat) : runA Tryz.prog 182 #[W4 x0 x1 x2 x3, .int .i64 (Int.ofNat 174)] [] [] = some (rt (WB x0 x1 x2 x3 174), []) := by kernel_rfl
theorem wb_88 (x0 x1 x2 x3 : Nat) : runA Tryz.prog 182 #[W4 x0 x1 x2 x3, .int .i64 (Int.ofNat 176)] [] [] = some (rt (WB x0 x1 x2 x3 176), []) := by kernel_rfl
theorem wb_89 (x0 x1 x2 x3 : Nat) : runA Tryz.prog 182 #[W4 x0 x1 x2 x3, .int .i64 (Int.ofNat 178)] [] [] = some (rt (WB x0 x1 x2 x3 178), []) := by kernel_rfl
theorem wb_90 (x0 x1 x2 x3 : Nat) : runA Tryz.prog 182 #[W4 x0 x1 x2 x3, .int .i64 (Int.ofNat 180)] [] [] = some (rt (WB x0 x1 x2 x3 180), []) := by kernel_rfl
theorem wb_91 (x0 x1 x2 x3 : Nat) : runA Tryz.prog 182 #[W4 x0 x1 x2 x3, .int .i64 (Int.ofNat 182)] [] [] = some (rt (WB x0 x1 x2 x3 182), []) := by kernel_rfl
theorem wb_92 (x0 x1 x2 x3 : Nat) : runA Tryz.prog 182 #[W4 x0 x1 x2 x3, .int .i64 (Int.ofNat 184)] [] [] = some (rt (WB x0 x1 x2 x3 184), []) := by kernel_rfl
theorem wb_93 (x0 x1 x2 x3 : Nat) : runA Tryz.prog 182 #[W4 x0 x1 x2 x3, .int .i64 (Int.ofNat 186)] [] [] = some (rt (WB x0 x1 x2 x3 186), []) := by kernel_rfl
theorem wb_94 (x0 x1 x2 x3 : Nat) : runA Tryz.prog 182 #[W4 x0 x1 x2 x3, .int .i64 (Int.ofNat 188)] [] [] = some (rt (WB x0 x1 x2 x3 188), []) := by kernel_rfl
theorem wb_95 (x0 x1 x2 x3 : Nat) : runA Tryz.prog 182 #[W4 x0 x1 x2 x3, .int .i64 (Int.ofNat 190)] [] [] = some (rt (WB x0 x1 x2 x3 190), []) := by kernel_rfl
theorem wb_96 (x0 x1 x2 x3 : Nat) : runA Tryz.prog 182 #[W4 x0 x1 x2 x3, .int .i64 (Int.ofNat 192)] [] [] = some (rt (WB x0 x1 x2 x3 192), []) := by kernel_rfl
theorem wb_97 (x0 x1 x2 x3 : Nat) : runA Tryz.prog 182 #[W4 x0 x1 x2 x3, .int .i64 (Int.ofNat 194)] [] [] = some (rt (WB x0 x1 x2 x3 194), []) := by kernel_rfl
theorem wb_98 (x0 x1 x2 x3 : Nat) : runA Tryz.prog 182 #[W4 x0 x1 x2 x3, .int .i64 (Int.ofNat 196)] [] [] = some (rt (WB x0 x1 x2 x3 196), []) := by kernel_rfl
theorem wb_99 (x0 x1 x2 x3 : Nat) : runA Tryz.prog 182 #[W4 x0 x1 x2 x3, .int .i64 (Int.ofNat 198)] [] [] = some (rt (WB x0 x1 x2 x3 198), []) := by kernel_rfl
theorem wb_100 (x0 x1 x2 x3 : Nat) : runA Tryz.prog 182 #[W4 x0 x1 x2 x3, .int .i64 (Int.ofNat 200)] [] [] = some (rt (WB x0 x1 x2 x3 200), []) := by kernel_rfl
theorem wb_101 (x0 x1 x2 x3 : Nat) : runA Tryz.prog 182 #[W4 x0 x1 x2 x3, .int .i64 (Int.ofNat 202)] [] [] = some (rt (WB x0 x1 x2 x3 202), []) := by kernel_rfl
theorem wb_102 (x0 x1 x2 x3 : Nat) : runA Tryz.prog 182 #[W4 x0 x1 x2 x3, .int .i64 (Int.ofNat 204)] [] [] = some (rt (WB x0 x1 x2 x3 204), []) := by kernel_rfl
theorem wb_103 (x0 x1 x2 x3 : Nat) : runA Tryz.prog 182 #[W4 x0 x1 x2 x3, .int .i64 (Int.ofNat 206)] [] [] = some (rt (WB x0 x1 x2 x3 206), []) := by kernel_rfl
theorem wb_104 (x0 x1 x2 x3 : Nat) : runA Tryz.prog 182 #[W4 x0 x1 x2 x3, .int .i64 (Int.ofNat 208)] [] [] = some (rt (WB x0 x1 x2 x3 208), []) := by kernel_rfl
theorem wb_105 (x0 x1 x2 x3 : Nat) : runA Tryz.prog 182 #[W4 x0 x1 x2 x3, .int .i64 (Int.ofNat 210)] [] [] = some (rt (WB x0 x1 x2 x3 210), []) := by kernel_rfl
theorem wb_106 (x0 x1 x2 x3 : Nat) : runA Tryz.prog 182 #[W4 x0 x1 x2 x3, .int .i64 (Int.ofNat 212)] [] [] = some (rt (WB x0 x1 x2 x3 212), []) := by kernel_rfl
theorem wb_107 (x0 x1 x2 x3 : Nat) : runA Tryz.prog 182 #[W4 x0 x1 x2 x3, .int .i64 (Int.ofNat 214)] [] [] = some (rt (WB x0 x1 x2 x3 214), []) := by kernel_rfl
theorem wb_108 (x0 x1 x2 x3 : Nat) : runA Tryz.prog 182 #[W4 x0 x1 x2 x3, .int .i64 (Int.ofNat 216)] [] [] = some (rt (WB x0 x1 x2 x3 216), []) := by kernel_rfl
theorem wb_109 (x0 x1 x2 x3 : Nat) : runA Tryz.prog 182 #[W4 x0 x1 x2 x3, .int .i64 (Int.ofNat 218)] [] [] = some (rt (WB x0 x1 x2 x3 218), []) := by kernel_rfl
theorem wb_110 (x0 x1 x2 x3 : Nat) : runA Tryz.prog 182 #[W4 x0 x1 x2 x3, .int .i64 (Int.ofNat 220)] [] [] = some (rt (WB x0 x1 x2 x3 220), []) := by kernel_rfl
theorem wb_111 (x0 x1 x2 x3 : Nat) : runA Tryz.prog 182 #[W4 x0 x1 x2 x3, .int .i64 (Int.ofNat 222)] [] [] = some (rt (WB x0 x1 x2 x3 222), []) := by kernel_rfl
theorem wb_112 (x0 x1 x2 x3 : Nat) : runA Tryz.prog 182 #[W4 x0 x1 x2 x3, .int .i64 (Int.ofNat 224)] [] [] = some (rt (WB x0 x1 x2 x3 224), []) := by kernel_rfl
theorem wb_113 (x0 x1 x2 x3 : Nat) : runA Tryz.prog 182 #[W4 x0 x1 x2 x3, .int .i64 (Int.ofNat 226)] [] [] = some (rt (WB x0 x1 x2 x3 226), []) := by kernel_rfl
theorem wb_114 (x0 x1 x2 x3 : Nat) : runA Tryz.prog 182 #[W4 x0 x1 x2 x3, .int .i64 (Int.ofNat 228)] [] [] = some (rt (WB x0 x1 x2 x3 228), []) := by kernel_rfl
theorem wb_115 (x0 x1 x2 x3 : Nat) : runA Tryz.prog 182 #[W4 x0 x1 x2 x3, .int .i64 (Int.ofNat 230)] [] [] = some (rt (WB x0 x1 x2 x3 230), []) := by kernel_rfl
theorem wb_116 (x0 x1 x2 x3 : Nat) : runA Tryz.prog 182 #[W4 x0 x1 x2 x3, .int .i64 (Int.ofNat 232)] [] [] = some (rt (WB x0 x1 x2 x3 232), []) := by kernel_rfl
theorem wb_117 (x0 x1 x2 x3 : Nat) : runA Tryz.prog 182 #[W4 x0 x1 x2 x3, .int .i64 (Int.ofNat 234)] [] [] = some (rt (WB x0 x1 x2 x3 234), []) := by kernel_rfl
theorem wb_118 (x0 x1 x2 x3 : Nat) : runA Tryz.prog 182 #[W4 x0 x1 x2 x3, .int .i64 (Int.ofNat 236)] [] [] = some (rt (WB x0 x1 x2 x3 236), []) := by kernel_rfl
theorem wb_119 (x0 x1 x2 x3 : Nat) : runA Tryz.prog 182 #[W4 x0 x1 x2 x3, .int .i64 (Int.ofNat 238)] [] [] = some (rt (WB x0 x1 x2 x3 238), []) := by kernel_rfl
theorem wb_120 (x0 x1 x2 x3 : Nat) : runA Tryz.prog 182 #[W4 x0 x1 x2 x3, .int .i64 (Int.ofNat 240)] [] [] = some (rt (WB x0 x1 x2 x3 240), []) := by kernel_rfl
theorem wb_121 (x0 x1 x2 x3 : Nat) : runA Tryz.prog 182 #[W4 x0 x1 x2 x3, .int .i64 (Int.ofNat 242)] [] [] = some (rt (WB x0 x1 x2 x3 242), []) := by kernel_rfl
theorem wb_122 (x0 x1 x2 x3 : Nat) : runA Tryz.prog 182 #[W4 x0 x1 x2 x3, .int .i64 (Int.ofNat 244)] [] [] = some (rt (WB x0 x1 x2 x3 244), []) := by kernel_rfl
theorem wb_123 (x0 x1 x2 x3 : Nat) : runA Tryz.prog 182 #[W4 x0 x1 x2 x3, .int .i64 (Int.ofNat 246)] [] [] = some (rt (WB x0 x1 x2 x3 246), []) := by kernel_rfl
theorem wb_124 (x0 x1 x2 x3 : Nat) : runA Tryz.prog 182 #[W4 x0 x1 x2 x3, .int .i64 (Int.ofNat 248)] [] [] = some (rt (WB x0 x1 x2 x3 248), []) := by kernel_rfl
theorem wb_125 (x0 x1 x2 x3 : Nat) : runA Tryz.prog 182 #[W4 x0 x1 x2 x3, .int .i64 (Int.ofNat 250)] [] [] = some (rt (WB x0 x1 x2 x3 250), []) := by kernel_rfl
theorem wb_126 (x0 x1 x2 x3 : Nat) : runA Tryz.prog 182 #[W4 x0 x1 x2 x3, .int .i64 (Int.ofNat 252)] [] [] = some (rt (WB x0 x1 x2 x3 252), []) := by kernel_rfl
theorem wb_127 (x0 x1 x2 x3 : Nat) : runA Tryz.prog 182 #[W4 x0 x1 x2 x3, .int .i64 (Int.ofNat 254)] [] [] = some (rt (WB x0 x1 x2 x3 254), []) := by kernel_rfl
theorem wb_raw (x0 x1 x2 x3 k : Nat) (hk : k < 128) : runA Tryz.prog 182 #[W4 x0 x1 x2 x3, .int .i64 (Int.ofNat (2 * k))] [] [] = some (rt (WB x0 x1 x2 x3 (2 * k)), []) := by
  by_cases h64 : k < 64
  · by_cases h32 : k < 32
    · by_cases h16 : k < 16
      · by_cases h8 : k < 8
        · by_cases h4 : k < 4
          · by_cases h2 : k < 2
            · by_cases h1 : k < 1
              · obtain rfl : k = 0 := by omega
                exact wb_0 x0 x1 x2 x3
              · obtain rfl : k = 1 := by omega
                exact wb_1 x0 x1 x2 x3
            · by_cases h3 : k < 3
              · obtain rfl : k = 2 := by omega
                exact wb_2 x0 x1 x2 x3
              · obtain rfl : k = 3 := by omega
                exact wb_3 x0 x1 x2 x3
          · by_cases h6 : k < 6
            · by_cases h5 : k < 5
              · obtain rfl : k = 4 := by omega
                exact wb_4 x0 x1 x2 x3
              · obtain rfl : k = 5 := by omega
                exact wb_5 x0 x1 x2 x3
            · by_cases h7 : k < 7
              · obtain rfl : k = 6 := by omega
                exact wb_6 x0 x1 x2 x3
              · obtain rfl : k = 7 := by omega
                exact wb_7 x0 x1 x2 x3
        · by_cases h12 : k < 12
          · by_cases h10 : k < 10
            · by_cases h9 : k < 9
              · obtain rfl : k = 8 := by omega
                exact wb_8 x0 x1 x2 x3
              · obtain rfl : k = 9 := by omega
                exact wb_9 x0 x1 x2 x3
            · by_cases h11 : k < 11
              · obtain rfl : k = 10 := by omega
                exact wb_10 x0 x1 x2 x3
              · obtain rfl : k = 11 := by omega
                exact wb_11 x0 x1 x2 x3
          · by_cases h14 : k < 14
            · by_cases h13 : k < 13
              · obtain rfl : k = 12 := by omega
                exact wb_12 x0 x1 x2 x3
              · obtain rfl : k = 13 := by omega
                exact wb_13 x0 x1 x2 x3
            · by_cases h15 : k < 15
              · obtain rfl : k = 14 := by omega
                exact wb_14 x0 x1 x2 x3
              · obtain rfl : k = 15 := by omega
                exact wb_15 x0 x1 x2 x3
      · by_cases h24 : k < 24
        · by_cases h20 : k < 20
          · by_cases h18 : k < 18
            · by_cases h17 : k < 17
              · obtain rfl : k = 16 := by omega
                exact wb_16 x0 x1 x2 x3
              · obtain rfl : k = 17 := by omega
                exact wb_17 x0 x1 x2 x3
            · by_cases h19 : k < 19
              · obtain rfl : k = 18 := by omega
                exact wb_18 x0 x1 x2 x3
              · obtain rfl : k = 19 := by omega
                exact wb_19 x0 x1 x2 x3
          · by_cases h22 : k < 22
            · by_cases h21 : k < 21
              · obtain rfl : k = 20 := by omega
                exact wb_20 x0 x1 x2 x3
              · obtain rfl : k = 21 := by omega
                exact wb_21 x0 x1 x2 x3
            · by_cases h23 : k < 23
              · obtain rfl : k = 22 := by omega
                exact wb_22 x0 x1 x2 x3
              · obtain rfl : k = 23 := by omega
                exact wb_23 x0 x1 x2 x3
        · by_cases h28 : k < 28
          · by_cases h26 : k < 26
            · by_cases h25 : k < 25
              · obtain rfl : k = 24 := by omega
                exact wb_24 x0 x1 x2 x3
              · obtain rfl : k = 25 := by omega
                exact wb_25 x0 x1 x2 x3
            · by_cases h27 : k < 27
              · obtain rfl : k = 26 := by omega
                exact wb_26 x0 x1 x2 x3
              · obtain rfl : k = 27 := by omega
                exact wb_27 x0 x1 x2 x3
          · by_cases h30 : k < 30
            · by_cases h29 : k < 29
              · obtain rfl : k = 28 := by omega
                exact wb_28 x0 x1 x2 x3
              · obtain rfl : k = 29 := by omega
                exact wb_29 x0 x1 x2 x3
            · by_cases h31 : k < 31
              · obtain rfl : k = 30 := by omega
                exact wb_30 x0 x1 x2 x3
              · obtain rfl : k = 31 := by omega
                exact wb_31 x0 x1 x2 x3
    · by_cases h48 : k < 48
      · by_cases h40 : k < 40
        · by_cases h36 : k < 36
          · by_cases h34 : k < 34
            · by_cases h33 : k < 33
              · obtain rfl : k = 32 := by omega
                exact wb_32 x0 x1 x2 x3
              · obtain rfl : k = 33 := by omega
                exact wb_33 x0 x1 x2 x3
            · by_cases h35 : k < 35
              · obtain rfl : k = 34 := by omega
                exact wb_34 x0 x1 x2 x3
              · obtain rfl : k = 35 := by omega
                exact wb_35 x0 x1 x2 x3
          · by_cases h38 : k < 38
            · by_cases h37 : k < 37
              · obtain rfl : k = 36 := by omega
                exact wb_36 x0 x1 x2 x3
              · obtain rfl : k = 37 := by omega
                exact wb_37 x0 x1 x2 x3
            · by_cases h39 : k < 39
              · obtain rfl : k = 38 := by omega
                exact wb_38 x0 x1 x2 x3
              · obtain rfl : k = 39 := by omega
                exact wb_39 x0 x1 x2 x3
        · by_cases h44 : k < 44
          · by_cases h42 : k < 42
            · by_cases h41 : k < 41
              · obtain rfl : k = 40 := by omega
                exact wb_40 x0 x1 x2 x3
              · obtain rfl : k = 41 := by omega
                exact wb_41 x0 x1 x2 x3
            · by_cases h43 : k < 43
              · obtain rfl : k = 42 := by omega
                exact wb_42 x0 x1 x2 x3
              · obtain rfl : k = 43 := by omega
                exact wb_43 x0 x1 x2 x3
          · by_cases h46 : k < 46
            · by_cases h45 : k < 45
              · obtain rfl : k = 44 := by omega
                exact wb_44 x0 x1 x2 x3
              · obtain rfl : k = 45 := by omega
                exact wb_45 x0 x1 x2 x3
            · by_cases h47 : k < 47
              · obtain rfl : k = 46 := by omega
                exact wb_46 x0 x1 x2 x3
              · obtain rfl : k = 47 := by omega
                exact wb_47 x0 x1 x2 x3
      · by_cases h56 : k < 56
        · by_cases h52 : k < 52
          · by_cases h50 : k < 50
            · by_cases h49 : k < 49
              · obtain rfl : k = 48 := by omega
                exact wb_48 x0 x1 x2 x3
              · obtain rfl : k = 49 := by omega
                exact wb_49 x0 x1 x2 x3
            · by_cases h51 : k < 51
              · obtain rfl : k = 50 := by omega
                exact wb_50 x0 x1 x2 x3
              · obtain rfl : k = 51 := by omega
                exact wb_51 x0 x1 x2 x3
          · by_cases h54 : k < 54
            · by_cases h53 : k < 53
              · obtain rfl : k = 52 := by omega
                exact wb_52 x0 x1 x2 x3
              · obtain rfl : k = 53 := by omega
                exact wb_53 x0 x1 x2 x3
            · by_cases h55 : k < 55
              · obtain rfl : k = 54 := by omega
                exact wb_54 x0 x1 x2 x3
              · obtain rfl : k = 55 := by omega
                exact wb_55 x0 x1 x2 x3
        · by_cases h60 : k < 60
          · by_cases h58 : k < 58
            · by_cases h57 : k < 57
              · obtain rfl : k = 56 := by omega
                exact wb_56 x0 x1 x2 x3
              · obtain rfl : k = 57 := by omega
                exact wb_57 x0 x1 x2 x3
            · by_cases h59 : k < 59
              · obtain rfl : k = 58 := by omega
                exact wb_58 x0 x1 x2 x3
              · obtain rfl : k = 59 := by omega
                exact wb_59 x0 x1 x2 x3
          · by_cases h62 : k < 62
            · by_cases h61 : k < 61
              · obtain rfl : k = 60 := by omega
                exact wb_60 x0 x1 x2 x3
              · obtain rfl : k = 61 := by omega
                exact wb_61 x0 x1 x2 x3
            · by_cases h63 : k < 63
              · obtain rfl : k = 62 := by omega
                exact wb_62 x0 x1 x2 x3
              · obtain rfl : k = 63 := by omega
                exact wb_63 x0 x1 x2 x3
  · by_cases h96 : k < 96
    · by_cases h80 : k < 80
      · by_cases h72 : k < 72
        · by_cases h68 : k < 68
          · by_cases h66 : k < 66
            · by_cases h65 : k < 65
              · obtain rfl : k = 64 := by omega
                exact wb_64 x0 x1 x2 x3
              · obtain rfl : k = 65 := by omega
                exact wb_65 x0 x1 x2 x3
            · by_cases h67 : k < 67
              · obtain rfl : k = 66 := by omega
                exact wb_66 x0 x1 x2 x3
              · obtain rfl : k = 67 := by omega
                exact wb_67 x0 x1 x2 x3
          · by_cases h70 : k < 70
            · by_cases h69 : k < 69
              · obtain rfl : k = 68 := by omega
                exact wb_68 x0 x1 x2 x3
              · obtain rfl : k = 69 := by omega
                exact wb_69 x0 x1 x2 x3
            · by_cases h71 : k < 71
              · obtain rfl : k = 70 := by omega
                exact wb_70 x0 x1 x2 x3
              · obtain rfl : k = 71 := by omega
                exact wb_71 x0 x1 x2 x3
        · by_cases h76 : k < 76
          · by_cases h74 : k < 74
            · by_cases h73 : k < 73
              · obtain rfl : k = 72 := by omega
                exact wb_72 x0 x1 x2 x3
              · obtain rfl : k = 73 := by omega
                exact wb_73 x0 x1 x2 x3
            · by_cases h75 : k < 75
              · obtain rfl : k = 74 := by omega
                exact wb_74 x0 x1 x2 x3
              · obtain rfl : k = 75 := by omega
                exact wb_75 x0 x1 x2 x3
          · by_cases h78 : k < 78
            · by_cases h77 : k < 77
              · obtain rfl : k = 76 := by omega
                exact wb_76 x0 x1 x2 x3
              · obtain rfl : k = 77 := by omega
                exact wb_77 x0 x1 x2 x3
            · by_cases h79 : k < 79
              · obtain rfl : k = 78 := by omega
                exact wb_78 x0 x1 x2 x3
              · obtain rfl : k = 79 := by omega
                exact wb_79 x0 x1 x2 x3
      · by_cases h88 : k < 88
        · by_cases h84 : k < 84
          · by_cases h82 : k < 82
            · by_cases h81 : k < 81
              · obtain rfl : k = 80 := by omega
                exact wb_80 x0 x1 x2 x3
              · obtain rfl : k = 81 := by omega
                exact wb_81 x0 x1 x2 x3
            · by_cases h83 : k < 83
              · obtain rfl : k = 82 := by omega
                exact wb_82 x0 x1 x2 x3
              · obtain rfl : k = 83 := by omega
                exact wb_83 x0 x1 x2 x3
          · by_cases h86 : k < 86
            · by_cases h85 : k < 85
              · obtain rfl : k = 84 := by omega
                exact wb_84 x0 x1 x2 x3
              · obtain rfl : k = 85 := by omega
                exact wb_85 x0 x1 x2 x3
            · by_cases h87 : k < 87
              · obtain rfl : k = 86 := by omega
                exact wb_86 x0 x1 x2 x3
              · obtain rfl : k = 87 := by omega
                exact wb_87 x0 x1 x2 x3
        · by_cases h92 : k < 92
          · by_cases h90 : k < 90
            · by_cases h89 : k < 89
              · obtain rfl : k = 88 := by omega
                exact wb_88 x0 x1 x2 x3
              · obtain rfl : k = 89 := by omega
                exact wb_89 x0 x1 x2 x3
            · by_cases h91 : k < 91
              · obtain rfl : k = 90 := by omega
                exact wb_90 x0 x1 x2 x3
              · obtain rfl : k = 91 := by omega
                exact wb_91 x0 x1 x2 x3
          · by_cases h94 : k < 94
            · by_cases h93 : k < 93
              · obtain rfl : k = 92 := by omega
                exact wb_92 x0 x1 x2 x3
              · obtain rfl : k = 93 := by omega
                exact wb_93 x0 x1 x2 x3
            · by_cases h95 : k < 95
              · obtain rfl : k = 94 := by omega
                exact wb_94 x0 x1 x2 x3
              · obtain rfl : k = 95 := by omega
                exact wb_95 x0 x1 x2 x3
    · by_cases h112 : k < 112
      · by_cases h104 : k < 104
        · by_cases h100 : k < 100
          · by_cases h98 : k < 98
            · by_cases h97 : k < 97
              · obtain rfl : k = 96 := by omega
                exact wb_96 x0 x1 x2 x3
              · obtain rfl : k = 97 := by omega
                exact wb_97 x0 x1 x2 x3
            · by_cases h99 : k < 99
              · obtain rfl : k = 98 := by omega
                exact wb_98 x0 x1 x2 x3
              · obtain rfl : k = 99 := by omega
                exact wb_99 x0 x1 x2 x3
          · by_cases h102 : k < 102
            · by_cases h101 : k < 101
              · obtain rfl : k = 100 := by omega
                exact wb_100 x0 x1 x2 x3
              · obtain rfl : k = 101 := by omega
                exact wb_101 x0 x1 x2 x3
            · by_cases h103 : k < 103
              · obtain rfl : k = 102 := by omega
                exact wb_102 x0 x1 x2 x3
              · obtain rfl : k = 103 := by omega
                exact wb_103 x0 x1 x2 x3
        · by_cases h108 : k < 108
          · by_cases h106 : k < 106
            · by_cases h105 : k < 105
              · obtain rfl : k = 104 := by omega
                exact wb_104 x0 x1 x2 x3
              · obtain rfl : k = 105 := by omega
                exact wb_105 x0 x1 x2 x3
            · by_cases h107 : k < 107
              · obtain rfl : k = 106 := by omega
                exact wb_106 x0 x1 x2 x3
              · obtain rfl : k = 107 := by omega
                exact wb_107 x0 x1 x2 x3
          · by_cases h110 : k < 110
            · by_cases h109 : k < 109
              · obtain rfl : k = 108 := by omega
                exact wb_108 x0 x1 x2 x3
              · obtain rfl : k = 109 := by omega
                exact wb_109 x0 x1 x2 x3
            · by_cases h111 : k < 111
              · obtain rfl : k = 110 := by omega
                exact wb_110 x0 x1 x2 x3
              · obtain rfl : k = 111 := by omega
                exact wb_111 x0 x1 x2 x3
      · by_cases h120 : k < 120
        · by_cases h116 : k < 116
          · by_cases h114 : k < 114
            · by_cases h113 : k < 113
              · obtain rfl : k = 112 := by omega
                exact wb_112 x0 x1 x2 x3
              · obtain rfl : k = 113 := by omega
                exact wb_113 x0 x1 x2 x3
            · by_cases h115 : k < 115
              · obtain rfl : k = 114 := by omega
                exact wb_114 x0 x1 x2 x3
              · obtain rfl : k = 115 := by omega
                exact wb_115 x0 x1 x2 x3
          · by_cases h118 : k < 118
            · by_cases h117 : k < 117
              · obtain rfl : k = 116 := by omega
                exact wb_116 x0 x1 x2 x3
              · obtain rfl : k = 117 := by omega
                exact wb_117 x0 x1 x2 x3
            · by_cases h119 : k < 119
              · obtain rfl : k = 118 := by omega
                exact wb_118 x0 x1 x2 x3
              · obtain rfl : k = 119 := by omega
                exact wb_119 x0 x1 x2 x3
        · by_cases h124 : k < 124
          · by_cases h122 : k < 122
            · by_cases h121 : k < 121
              · obtain rfl : k = 120 := by omega
                exact wb_120 x0 x1 x2 x3
              · obtain rfl : k = 121 := by omega
                exact wb_121 x0 x1 x2 x3
            · by_cases h123 : k < 123
              · obtain rfl : k = 122 := by omega
                exact wb_122 x0 x1 x2 x3
              · obtain rfl : k = 123 := by omega
                exact wb_123 x0 x1 x2 x3
          · by_cases h126 : k < 126
            · by_cases h125 : k < 125
              · obtain rfl : k = 124 := by omega
                exact wb_124 x0 x1 x2 x3
              · obtain rfl : k = 125 := by omega
                exact wb_125 x0 x1 x2 x3
            · by_cases h127 : k < 127
              · obtain rfl : k = 126 := by omega
                exact wb_126 x0 x1 x2 x3
              · obtain rfl : k = 127 := by omega
                exact wb_127 x0 x1 x2 x3

end Go.Proofs.YtlioffkonfkflaaGreat
