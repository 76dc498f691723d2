/- The blocks of a root that is being found; its rounds, raw. -/
import Derived.Test.YtpbhoamojocbpaaE15
import Derived.Test.YtpbhoamojocbpaaF17
/- The blocks of a root that is being found. -/
namespace Go.Proofs.Ytpbhoamojocbpaa
open Go Go.RowKit
set_option linter.unusedSimpArgs false
set_option linter.unusedVariables false

/-- The first range over a function in some code: what it assigns, its body. -/
def rfc : Code → Option (Code × Code)
  | .seq x y => match rfc x with | some r => some r | none => rfc y
  | .block _ b => rfc b
  | .rangeFunc _ _ a b => some (a, b)
  | _ => none
noncomputable def A84 : Code := ((Try.f84.body.bind rfc).map (·.1)).getD .skip
noncomputable def B84 : Code := ((Try.f84.body.bind rfc).map (·.2)).getD .skip
/-- A root and what is left. -/
def xo (r lf : Nat) : Obj := .cells ((wv r).cells ++ (wv lf).cells) 67 (0, 0)
def xv (r lf : Nat) : Value := .agg ((wv r).cells ++ (wv lf).cells)
def T84 (a : Nat) : Array Value := #[wv a, pt 1000, pt 1001, pt 1002, undef, undef, undef, wv a, undef, wv a, xv 0 a, wv a, .func (.func 133) #[] #[pt 1003], undef, undef, undef, undef, undef, undef, undef, undef, undef, undef, undef, undef, undef, undef, undef, undef, undef, undef, undef, undef, undef, undef, undef, undef, undef, undef, undef, undef]
noncomputable def R84 (a : Nat) : Obj := .loop { state := .ready, pending := none, fn := 0, tmps := T84 a, params := #[13], assign := A84, body := B84, defers := 1004 }
noncomputable def HX (a r lf : Nat) : Hp := [(1003, wo a), (1002, xo r lf), (1001, xo 0 0), (1000, wo a), (1004, .deferred (some [])), (1005, R84 a)]

end Go.Proofs.Ytpbhoamojocbpaa

/- A root's rounds, and the places of its bits, raw. -/
namespace Go.Proofs.Ytpbhoamojocbpaa
open Go Go.RowKit
set_option linter.unusedSimpArgs false
set_option linter.unusedVariables false

noncomputable def HY (a r lf : Nat) : Hp := [(1002, xo r lf), (1003, wo a), (1001, xo 0 0), (1000, wo a), (1004, .deferred (some [])), (1005, R84 a)]
theorem rd_t (a r lf p d h q : Nat) (k s : Int) (o : Bool) : runY Try.prog 1005 #[.int .i64 k] (HX a r lf) [t] [(118, rt (wv p)), (66, rt (tp [wv d, bb o])), (92, rt (wv h)), (101, rt (.int .i64 s)), (118, rt (wv q))] [] =
    some (rt (bb true), HY a q d, [PureX Try.prog 118 #[wv r, .int .i64 (IntKind.i64.wrap (2 * k))] (rt (wv p)), PureX Try.prog 66 #[wv lf, wv p] (rt (tp [wv d, bb o])), PureX Try.prog 92 #[wv r] (rt (wv h)), PureX Try.prog 101 #[wv d] (rt (.int .i64 s)), decide (0 ≤ s) = true, PureX Try.prog 118 #[wv h, .int .i64 (IntKind.i64.wrap (2 * k))] (rt (wv q))]) := by kernel_rfl
theorem rd_f (a r lf p d h : Nat) (k s : Int) (o : Bool) : runY Try.prog 1005 #[.int .i64 k] (HX a r lf) [f] [(118, rt (wv p)), (66, rt (tp [wv d, bb o])), (92, rt (wv h)), (101, rt (.int .i64 s))] [] =
    some (rt (bb true), HY a h lf, [PureX Try.prog 118 #[wv r, .int .i64 (IntKind.i64.wrap (2 * k))] (rt (wv p)), PureX Try.prog 66 #[wv lf, wv p] (rt (tp [wv d, bb o])), PureX Try.prog 92 #[wv r] (rt (wv h)), PureX Try.prog 101 #[wv d] (rt (.int .i64 s)), decide (0 ≤ s) = false]) := by kernel_rfl

/-- The first loop in some code; what stands ahead. -/
def lpc : Code → Option Code
  | .seq x y => match lpc x with | some r => some r | none => lpc y
  | .block _ b => lpc b
  | .loop b => some b
  | _ => none
noncomputable def L133 : Code := (Try.f133.body.bind lpc).getD .skip
noncomputable def K133 : Code := match Try.f133.body with | some (.seq x _) => x | _ => .skip
theorem body133 : Try.f133.body = some (.seq K133 (.block 0 (.loop L133))) := by kernel_rfl
def yv : Value := .func (.yield 1005) #[] #[]
def TI (a : Nat) (L L1 L2 L3 k x9 x10 x11 x12 x13 x14 x15 x16 : Value) : List Value := [yv, pt 1003, undef, k, wv a, L, L1, L2, L3, x9, x10, x11, x12, x13, x14, x15, x16]
theorem it_start (a r lf : Nat) (L : Int) : runS Try.prog K133 (frame0 Try.f133 #[yv, pt 1003]) (HX a r lf) [] [(134, rt (.int .i64 L))] [] =
    some (.normal, TI a (.int .i64 L) (.int .i64 (IntKind.i64.wrap (L + 1))) (.int .i64 (IntKind.i64.wrap (Int.tdiv (IntKind.i64.wrap (L + 1)) 2))) (.int .i64 (IntKind.i64.wrap (IntKind.i64.wrap (Int.tdiv (IntKind.i64.wrap (L + 1)) 2) - 1))) (.int .i64 (IntKind.i64.wrap (IntKind.i64.wrap (Int.tdiv (IntKind.i64.wrap (L + 1)) 2) - 1))) undef undef undef undef undef undef undef undef, HX a r lf, [PureX Try.prog 134 #[wv a] (rt (.int .i64 L))]) := by kernel_rfl
theorem it_round (a r lf r2 lf2 : Nat) (k : Int) (L L1 L2 L3 x9 x10 x11 x12 x13 x14 x15 x16 : Value) : runS Try.prog L133 (TI a L L1 L2 L3 (.int .i64 k) x9 x10 x11 x12 x13 x14 x15 x16) (HX a r lf) [t] [] [(1001005, rt (bb true), HX a r2 lf2)] =
    some (.normal, TI a L L1 L2 L3 (.int .i64 (IntKind.i64.wrap (k - 1))) (.int .i64 k) (bb (decide (0 ≤ k))) (.int .i64 k) (.int .i64 (IntKind.i64.wrap (k - 1))) yv (.int .i64 k) (bb true) (bb false), HX a r2 lf2, [decide (0 ≤ k) = true, CallsV Try.prog (.yield 1005) #[.int .i64 k] (HX a r lf) (rt (bb true)) (HX a r2 lf2)]) := by kernel_rfl
theorem it_end (a r lf : Nat) (k : Int) (L L1 L2 L3 x9 x10 x11 x12 x13 x14 x15 x16 : Value) : runS Try.prog L133 (TI a L L1 L2 L3 (.int .i64 k) x9 x10 x11 x12 x13 x14 x15 x16) (HX a r lf) [f] [] [] =
    some (.exit 0, TI a L L1 L2 L3 (.int .i64 k) (.int .i64 k) (bb (decide (0 ≤ k))) x11 x12 x13 x14 x15 x16, HX a r lf, [decide (0 ≤ k) = false]) := by kernel_rfl
theorem ex_raw (a r lf : Nat) : runB Try.prog 84 #[wv a] [] [] [(116, rt undef)] [(133, rt undef, HX a r lf)] =
    some (rt (xv r lf), [], [PureX Try.prog 116 #[wv a] (rt undef), CallsV Try.prog (.func 133) #[yv, pt 1003] (HX a 0 a) (rt undef) (HX a r lf)]) := by kernel_rfl

end Go.Proofs.Ytpbhoamojocbpaa

