/- Texts of the seat, joined. -/
import Derived.Test.YtpllklojcjhjaaaZz17
import Derived.Test.YtpllklojcjhjaaaZz20
/- NearMoved, by letters. -/
namespace Go.Proofs.Ytpllklojcjhjaaa
open Go Go.RowKit
set_option linter.unusedSimpArgs false
set_option linter.unusedVariables false
set_option maxRecDepth 100000

theorem mvl_1_1 (st so : Int) (off cap cap2 : Nat) (c : Array Value) (r r2 : P3) (L1 L2 : List Bd) (R : List Pr) (a g : Bd) : runF Try.prog 1000 [] 4 #[sv st (slw 1 off 1 cap), sv so (slw 2 0 1 cap2), vv r] [(1, win off c), (2, wob [g])] [] [(17, rt (vv r2)), (19, rt (bb true)), (19, rt (bb true)), (9, rt (bb true))] [(8, rt (bb true), [(1, win off c)]), (8, rt (bb true), [(2, wob [g])]), (15, rt (tp [sv st (slw 3 0 1 capU), ii 0]), [(3, KB.opq L1), (1, win off c)]), (15, rt (tp [sv st (slw 4 0 1 capU), ii 0]), [(4, KB.opq L2), (3, KB.opq L1)]), (18, rt (sv st (slw 5 0 1 capU)), [(5, KB.own [a]), (1, win off c)]), (10, rt sl0, [(1, win off c)]), (10, rt sl0, [(3, KB.opq L1)]), (10, rt sl0, [(5, KB.own [(a.1, g.2)])]), (16, rt (bb true), [(1, win off c), (4, KB.opq L2)])] [] =
    some (rt (bb true), [], [CallsV Try.prog (.func 8) #[sv st (slw 1 off 1 cap)] [(1, win off c)] (rt (bb true)) [(1, win off c)], CallsV Try.prog (.func 8) #[sv so (slw 2 0 1 cap2)] [(2, wob [g])] (rt (bb true)) [(2, wob [g])], CallsV Try.prog (.func 15) #[sv st (slw 1 off 1 cap), vv r] [(1, win off c)] (rt (tp [sv st (slw 3 0 1 capU), ii 0])) [(3, KB.opq L1), (1, win off c)], PureX Try.prog 17 #[vv r] (rt (vv r2)), CallsV Try.prog (.func 15) #[sv st (slw 3 0 1 capU), vv r2] [(3, KB.opq L1)] (rt (tp [sv st (slw 4 0 1 capU), ii 0])) [(4, KB.opq L2), (3, KB.opq L1)], CallsV Try.prog (.func 18) #[sv st (slw 1 off 1 cap)] [(1, win off c)] (rt (sv st (slw 5 0 1 capU))) [(5, KB.own [a]), (1, win off c)], CallsV Try.prog (.func 10) #[sv st (slw 1 off 1 cap)] [(1, win off c)] (rt sl0) [(1, win off c)], CallsV Try.prog (.func 10) #[sv st (slw 3 0 1 capU)] [(3, KB.opq L1)] (rt sl0) [(3, KB.opq L1)], CallsV Try.prog (.func 10) #[sv so (slw 5 0 1 capU)] [(5, KB.own [(a.1, g.2)])] (rt sl0) [(5, KB.own [(a.1, g.2)])], CallsV Try.prog (.func 16) #[sv st (slw 4 0 1 capU), sv st (slw 1 off 1 cap)] [(1, win off c), (4, KB.opq L2)] (rt (bb true)) [(1, win off c), (4, KB.opq L2)], PureX Try.prog 19 #[sl0, sl0] (rt (bb true)), PureX Try.prog 19 #[sl0, sl0] (rt (bb true)), PureX Try.prog 9 #[] (rt (bb true))]) := by kernel_rfl
theorem mvl_1_2 (st so : Int) (off cap cap2 : Nat) (c : Array Value) (r r2 : P3) (L1 L2 : List Bd) (R : List Pr) (a g h : Bd) : runF Try.prog 1000 [] 4 #[sv st (slw 1 off 1 cap), sv so (slw 2 0 2 cap2), vv r] [(1, win off c), (2, wob [g, h])] [] [(17, rt (vv r2)), (19, rt (bb true)), (19, rt (bb true)), (9, rt (bb true))] [(8, rt (bb true), [(1, win off c)]), (8, rt (bb true), [(2, wob [g, h])]), (15, rt (tp [sv st (slw 3 0 1 capU), ii 0]), [(3, KB.opq L1), (1, win off c)]), (15, rt (tp [sv st (slw 4 0 1 capU), ii 0]), [(4, KB.opq L2), (3, KB.opq L1)]), (18, rt (sv st (slw 5 0 1 capU)), [(5, KB.own [a]), (1, win off c)]), (10, rt sl0, [(1, win off c)]), (10, rt sl0, [(3, KB.opq L1)]), (10, rt sl0, [(5, KB.own [(a.1, g.2)])]), (16, rt (bb true), [(1, win off c), (4, KB.opq L2)])] [] =
    some (rt (bb true), [], [CallsV Try.prog (.func 8) #[sv st (slw 1 off 1 cap)] [(1, win off c)] (rt (bb true)) [(1, win off c)], CallsV Try.prog (.func 8) #[sv so (slw 2 0 2 cap2)] [(2, wob [g, h])] (rt (bb true)) [(2, wob [g, h])], CallsV Try.prog (.func 15) #[sv st (slw 1 off 1 cap), vv r] [(1, win off c)] (rt (tp [sv st (slw 3 0 1 capU), ii 0])) [(3, KB.opq L1), (1, win off c)], PureX Try.prog 17 #[vv r] (rt (vv r2)), CallsV Try.prog (.func 15) #[sv st (slw 3 0 1 capU), vv r2] [(3, KB.opq L1)] (rt (tp [sv st (slw 4 0 1 capU), ii 0])) [(4, KB.opq L2), (3, KB.opq L1)], CallsV Try.prog (.func 18) #[sv st (slw 1 off 1 cap)] [(1, win off c)] (rt (sv st (slw 5 0 1 capU))) [(5, KB.own [a]), (1, win off c)], CallsV Try.prog (.func 10) #[sv st (slw 1 off 1 cap)] [(1, win off c)] (rt sl0) [(1, win off c)], CallsV Try.prog (.func 10) #[sv st (slw 3 0 1 capU)] [(3, KB.opq L1)] (rt sl0) [(3, KB.opq L1)], CallsV Try.prog (.func 10) #[sv so (slw 5 0 1 capU)] [(5, KB.own [(a.1, g.2)])] (rt sl0) [(5, KB.own [(a.1, g.2)])], CallsV Try.prog (.func 16) #[sv st (slw 4 0 1 capU), sv st (slw 1 off 1 cap)] [(1, win off c), (4, KB.opq L2)] (rt (bb true)) [(1, win off c), (4, KB.opq L2)], PureX Try.prog 19 #[sl0, sl0] (rt (bb true)), PureX Try.prog 19 #[sl0, sl0] (rt (bb true)), PureX Try.prog 9 #[] (rt (bb true))]) := by kernel_rfl
theorem mvl_1_3 (st so : Int) (off cap cap2 : Nat) (c : Array Value) (r r2 : P3) (L1 L2 : List Bd) (R : List Pr) (a g h i : Bd) : runF Try.prog 1000 [] 4 #[sv st (slw 1 off 1 cap), sv so (slw 2 0 3 cap2), vv r] [(1, win off c), (2, wob [g, h, i])] [] [(17, rt (vv r2)), (19, rt (bb true)), (19, rt (bb true)), (9, rt (bb true))] [(8, rt (bb true), [(1, win off c)]), (8, rt (bb true), [(2, wob [g, h, i])]), (15, rt (tp [sv st (slw 3 0 1 capU), ii 0]), [(3, KB.opq L1), (1, win off c)]), (15, rt (tp [sv st (slw 4 0 1 capU), ii 0]), [(4, KB.opq L2), (3, KB.opq L1)]), (18, rt (sv st (slw 5 0 1 capU)), [(5, KB.own [a]), (1, win off c)]), (10, rt sl0, [(1, win off c)]), (10, rt sl0, [(3, KB.opq L1)]), (10, rt sl0, [(5, KB.own [(a.1, g.2)])]), (16, rt (bb true), [(1, win off c), (4, KB.opq L2)])] [] =
    some (rt (bb true), [], [CallsV Try.prog (.func 8) #[sv st (slw 1 off 1 cap)] [(1, win off c)] (rt (bb true)) [(1, win off c)], CallsV Try.prog (.func 8) #[sv so (slw 2 0 3 cap2)] [(2, wob [g, h, i])] (rt (bb true)) [(2, wob [g, h, i])], CallsV Try.prog (.func 15) #[sv st (slw 1 off 1 cap), vv r] [(1, win off c)] (rt (tp [sv st (slw 3 0 1 capU), ii 0])) [(3, KB.opq L1), (1, win off c)], PureX Try.prog 17 #[vv r] (rt (vv r2)), CallsV Try.prog (.func 15) #[sv st (slw 3 0 1 capU), vv r2] [(3, KB.opq L1)] (rt (tp [sv st (slw 4 0 1 capU), ii 0])) [(4, KB.opq L2), (3, KB.opq L1)], CallsV Try.prog (.func 18) #[sv st (slw 1 off 1 cap)] [(1, win off c)] (rt (sv st (slw 5 0 1 capU))) [(5, KB.own [a]), (1, win off c)], CallsV Try.prog (.func 10) #[sv st (slw 1 off 1 cap)] [(1, win off c)] (rt sl0) [(1, win off c)], CallsV Try.prog (.func 10) #[sv st (slw 3 0 1 capU)] [(3, KB.opq L1)] (rt sl0) [(3, KB.opq L1)], CallsV Try.prog (.func 10) #[sv so (slw 5 0 1 capU)] [(5, KB.own [(a.1, g.2)])] (rt sl0) [(5, KB.own [(a.1, g.2)])], CallsV Try.prog (.func 16) #[sv st (slw 4 0 1 capU), sv st (slw 1 off 1 cap)] [(1, win off c), (4, KB.opq L2)] (rt (bb true)) [(1, win off c), (4, KB.opq L2)], PureX Try.prog 19 #[sl0, sl0] (rt (bb true)), PureX Try.prog 19 #[sl0, sl0] (rt (bb true)), PureX Try.prog 9 #[] (rt (bb true))]) := by kernel_rfl
theorem mvl_1_4 (st so : Int) (off cap cap2 : Nat) (c : Array Value) (r r2 : P3) (L1 L2 : List Bd) (R : List Pr) (a g h i j : Bd) : runF Try.prog 1000 [] 4 #[sv st (slw 1 off 1 cap), sv so (slw 2 0 4 cap2), vv r] [(1, win off c), (2, wob [g, h, i, j])] [] [(17, rt (vv r2)), (19, rt (bb true)), (19, rt (bb true)), (9, rt (bb true))] [(8, rt (bb true), [(1, win off c)]), (8, rt (bb true), [(2, wob [g, h, i, j])]), (15, rt (tp [sv st (slw 3 0 1 capU), ii 0]), [(3, KB.opq L1), (1, win off c)]), (15, rt (tp [sv st (slw 4 0 1 capU), ii 0]), [(4, KB.opq L2), (3, KB.opq L1)]), (18, rt (sv st (slw 5 0 1 capU)), [(5, KB.own [a]), (1, win off c)]), (10, rt sl0, [(1, win off c)]), (10, rt sl0, [(3, KB.opq L1)]), (10, rt sl0, [(5, KB.own [(a.1, g.2)])]), (16, rt (bb true), [(1, win off c), (4, KB.opq L2)])] [] =
    some (rt (bb true), [], [CallsV Try.prog (.func 8) #[sv st (slw 1 off 1 cap)] [(1, win off c)] (rt (bb true)) [(1, win off c)], CallsV Try.prog (.func 8) #[sv so (slw 2 0 4 cap2)] [(2, wob [g, h, i, j])] (rt (bb true)) [(2, wob [g, h, i, j])], CallsV Try.prog (.func 15) #[sv st (slw 1 off 1 cap), vv r] [(1, win off c)] (rt (tp [sv st (slw 3 0 1 capU), ii 0])) [(3, KB.opq L1), (1, win off c)], PureX Try.prog 17 #[vv r] (rt (vv r2)), CallsV Try.prog (.func 15) #[sv st (slw 3 0 1 capU), vv r2] [(3, KB.opq L1)] (rt (tp [sv st (slw 4 0 1 capU), ii 0])) [(4, KB.opq L2), (3, KB.opq L1)], CallsV Try.prog (.func 18) #[sv st (slw 1 off 1 cap)] [(1, win off c)] (rt (sv st (slw 5 0 1 capU))) [(5, KB.own [a]), (1, win off c)], CallsV Try.prog (.func 10) #[sv st (slw 1 off 1 cap)] [(1, win off c)] (rt sl0) [(1, win off c)], CallsV Try.prog (.func 10) #[sv st (slw 3 0 1 capU)] [(3, KB.opq L1)] (rt sl0) [(3, KB.opq L1)], CallsV Try.prog (.func 10) #[sv so (slw 5 0 1 capU)] [(5, KB.own [(a.1, g.2)])] (rt sl0) [(5, KB.own [(a.1, g.2)])], CallsV Try.prog (.func 16) #[sv st (slw 4 0 1 capU), sv st (slw 1 off 1 cap)] [(1, win off c), (4, KB.opq L2)] (rt (bb true)) [(1, win off c), (4, KB.opq L2)], PureX Try.prog 19 #[sl0, sl0] (rt (bb true)), PureX Try.prog 19 #[sl0, sl0] (rt (bb true)), PureX Try.prog 9 #[] (rt (bb true))]) := by kernel_rfl
theorem mvl_2_1 (st so : Int) (off cap cap2 : Nat) (c : Array Value) (r r2 : P3) (L1 L2 : List Bd) (R : List Pr) (a b g : Bd) : runF Try.prog 1000 [] 4 #[sv st (slw 1 off 2 cap), sv so (slw 2 0 1 cap2), vv r] [(1, win off c), (2, wob [g])] [] [(17, rt (vv r2)), (9, rt (bb true))] [(8, rt (bb true), [(1, win off c)]), (8, rt (bb true), [(2, wob [g])]), (15, rt (tp [sv st (slw 3 0 2 capU), ii 0]), [(3, KB.opq L1), (1, win off c)]), (15, rt (tp [sv st (slw 4 0 2 capU), ii 0]), [(4, KB.opq L2), (3, KB.opq L1)]), (18, rt (sv st (slw 5 0 2 capU)), [(5, KB.own [a, b]), (1, win off c)]), (10, rt (slw 6 0 R.length capU), [(6, KP.opq R), (1, win off c)]), (10, rt (slw 7 0 R.length capU), [(7, KP.opq R), (3, KB.opq L1)]), (10, rt (slw 8 0 R.length capU), [(8, KP.opq R), (5, KB.own [(a.1, g.2), b])]), (16, rt (bb true), [(1, win off c), (4, KB.opq L2)]), (19, rt (bb true), [(7, KP.opq R), (6, KP.opq R)]), (19, rt (bb true), [(6, KP.opq R), (8, KP.opq R)])] [] =
    some (rt (bb true), [], [CallsV Try.prog (.func 8) #[sv st (slw 1 off 2 cap)] [(1, win off c)] (rt (bb true)) [(1, win off c)], CallsV Try.prog (.func 8) #[sv so (slw 2 0 1 cap2)] [(2, wob [g])] (rt (bb true)) [(2, wob [g])], CallsV Try.prog (.func 15) #[sv st (slw 1 off 2 cap), vv r] [(1, win off c)] (rt (tp [sv st (slw 3 0 2 capU), ii 0])) [(3, KB.opq L1), (1, win off c)], PureX Try.prog 17 #[vv r] (rt (vv r2)), CallsV Try.prog (.func 15) #[sv st (slw 3 0 2 capU), vv r2] [(3, KB.opq L1)] (rt (tp [sv st (slw 4 0 2 capU), ii 0])) [(4, KB.opq L2), (3, KB.opq L1)], CallsV Try.prog (.func 18) #[sv st (slw 1 off 2 cap)] [(1, win off c)] (rt (sv st (slw 5 0 2 capU))) [(5, KB.own [a, b]), (1, win off c)], CallsV Try.prog (.func 10) #[sv st (slw 1 off 2 cap)] [(1, win off c)] (rt (slw 6 0 R.length capU)) [(6, KP.opq R), (1, win off c)], CallsV Try.prog (.func 10) #[sv st (slw 3 0 2 capU)] [(3, KB.opq L1)] (rt (slw 7 0 R.length capU)) [(7, KP.opq R), (3, KB.opq L1)], CallsV Try.prog (.func 10) #[sv so (slw 5 0 2 capU)] [(5, KB.own [(a.1, g.2), b])] (rt (slw 8 0 R.length capU)) [(8, KP.opq R), (5, KB.own [(a.1, g.2), b])], CallsV Try.prog (.func 16) #[sv st (slw 4 0 2 capU), sv st (slw 1 off 2 cap)] [(1, win off c), (4, KB.opq L2)] (rt (bb true)) [(1, win off c), (4, KB.opq L2)], CallsV Try.prog (.func 19) #[slw 6 0 R.length capU, slw 7 0 R.length capU] [(7, KP.opq R), (6, KP.opq R)] (rt (bb true)) [(7, KP.opq R), (6, KP.opq R)], CallsV Try.prog (.func 19) #[slw 6 0 R.length capU, slw 8 0 R.length capU] [(6, KP.opq R), (8, KP.opq R)] (rt (bb true)) [(6, KP.opq R), (8, KP.opq R)], PureX Try.prog 9 #[] (rt (bb true))]) := by kernel_rfl
theorem mvl_2_2 (st so : Int) (off cap cap2 : Nat) (c : Array Value) (r r2 : P3) (L1 L2 : List Bd) (R : List Pr) (a b g h : Bd) : runF Try.prog 1000 [] 4 #[sv st (slw 1 off 2 cap), sv so (slw 2 0 2 cap2), vv r] [(1, win off c), (2, wob [g, h])] [] [(17, rt (vv r2)), (9, rt (bb true))] [(8, rt (bb true), [(1, win off c)]), (8, rt (bb true), [(2, wob [g, h])]), (15, rt (tp [sv st (slw 3 0 2 capU), ii 0]), [(3, KB.opq L1), (1, win off c)]), (15, rt (tp [sv st (slw 4 0 2 capU), ii 0]), [(4, KB.opq L2), (3, KB.opq L1)]), (18, rt (sv st (slw 5 0 2 capU)), [(5, KB.own [a, b]), (1, win off c)]), (10, rt (slw 6 0 R.length capU), [(6, KP.opq R), (1, win off c)]), (10, rt (slw 7 0 R.length capU), [(7, KP.opq R), (3, KB.opq L1)]), (10, rt (slw 8 0 R.length capU), [(8, KP.opq R), (5, KB.own [(a.1, g.2), (b.1, h.2)])]), (16, rt (bb true), [(1, win off c), (4, KB.opq L2)]), (19, rt (bb true), [(7, KP.opq R), (6, KP.opq R)]), (19, rt (bb true), [(6, KP.opq R), (8, KP.opq R)])] [] =
    some (rt (bb true), [], [CallsV Try.prog (.func 8) #[sv st (slw 1 off 2 cap)] [(1, win off c)] (rt (bb true)) [(1, win off c)], CallsV Try.prog (.func 8) #[sv so (slw 2 0 2 cap2)] [(2, wob [g, h])] (rt (bb true)) [(2, wob [g, h])], CallsV Try.prog (.func 15) #[sv st (slw 1 off 2 cap), vv r] [(1, win off c)] (rt (tp [sv st (slw 3 0 2 capU), ii 0])) [(3, KB.opq L1), (1, win off c)], PureX Try.prog 17 #[vv r] (rt (vv r2)), CallsV Try.prog (.func 15) #[sv st (slw 3 0 2 capU), vv r2] [(3, KB.opq L1)] (rt (tp [sv st (slw 4 0 2 capU), ii 0])) [(4, KB.opq L2), (3, KB.opq L1)], CallsV Try.prog (.func 18) #[sv st (slw 1 off 2 cap)] [(1, win off c)] (rt (sv st (slw 5 0 2 capU))) [(5, KB.own [a, b]), (1, win off c)], CallsV Try.prog (.func 10) #[sv st (slw 1 off 2 cap)] [(1, win off c)] (rt (slw 6 0 R.length capU)) [(6, KP.opq R), (1, win off c)], CallsV Try.prog (.func 10) #[sv st (slw 3 0 2 capU)] [(3, KB.opq L1)] (rt (slw 7 0 R.length capU)) [(7, KP.opq R), (3, KB.opq L1)], CallsV Try.prog (.func 10) #[sv so (slw 5 0 2 capU)] [(5, KB.own [(a.1, g.2), (b.1, h.2)])] (rt (slw 8 0 R.length capU)) [(8, KP.opq R), (5, KB.own [(a.1, g.2), (b.1, h.2)])], CallsV Try.prog (.func 16) #[sv st (slw 4 0 2 capU), sv st (slw 1 off 2 cap)] [(1, win off c), (4, KB.opq L2)] (rt (bb true)) [(1, win off c), (4, KB.opq L2)], CallsV Try.prog (.func 19) #[slw 6 0 R.length capU, slw 7 0 R.length capU] [(7, KP.opq R), (6, KP.opq R)] (rt (bb true)) [(7, KP.opq R), (6, KP.opq R)], CallsV Try.prog (.func 19) #[slw 6 0 R.length capU, slw 8 0 R.length capU] [(6, KP.opq R), (8, KP.opq R)] (rt (bb true)) [(6, KP.opq R), (8, KP.opq R)], PureX Try.prog 9 #[] (rt (bb true))]) := by kernel_rfl
theorem mvl_2_3 (st so : Int) (off cap cap2 : Nat) (c : Array Value) (r r2 : P3) (L1 L2 : List Bd) (R : List Pr) (a b g h i : Bd) : runF Try.prog 1000 [] 4 #[sv st (slw 1 off 2 cap), sv so (slw 2 0 3 cap2), vv r] [(1, win off c), (2, wob [g, h, i])] [] [(17, rt (vv r2)), (9, rt (bb true))] [(8, rt (bb true), [(1, win off c)]), (8, rt (bb true), [(2, wob [g, h, i])]), (15, rt (tp [sv st (slw 3 0 2 capU), ii 0]), [(3, KB.opq L1), (1, win off c)]), (15, rt (tp [sv st (slw 4 0 2 capU), ii 0]), [(4, KB.opq L2), (3, KB.opq L1)]), (18, rt (sv st (slw 5 0 2 capU)), [(5, KB.own [a, b]), (1, win off c)]), (10, rt (slw 6 0 R.length capU), [(6, KP.opq R), (1, win off c)]), (10, rt (slw 7 0 R.length capU), [(7, KP.opq R), (3, KB.opq L1)]), (10, rt (slw 8 0 R.length capU), [(8, KP.opq R), (5, KB.own [(a.1, g.2), (b.1, h.2)])]), (16, rt (bb true), [(1, win off c), (4, KB.opq L2)]), (19, rt (bb true), [(7, KP.opq R), (6, KP.opq R)]), (19, rt (bb true), [(6, KP.opq R), (8, KP.opq R)])] [] =
    some (rt (bb true), [], [CallsV Try.prog (.func 8) #[sv st (slw 1 off 2 cap)] [(1, win off c)] (rt (bb true)) [(1, win off c)], CallsV Try.prog (.func 8) #[sv so (slw 2 0 3 cap2)] [(2, wob [g, h, i])] (rt (bb true)) [(2, wob [g, h, i])], CallsV Try.prog (.func 15) #[sv st (slw 1 off 2 cap), vv r] [(1, win off c)] (rt (tp [sv st (slw 3 0 2 capU), ii 0])) [(3, KB.opq L1), (1, win off c)], PureX Try.prog 17 #[vv r] (rt (vv r2)), CallsV Try.prog (.func 15) #[sv st (slw 3 0 2 capU), vv r2] [(3, KB.opq L1)] (rt (tp [sv st (slw 4 0 2 capU), ii 0])) [(4, KB.opq L2), (3, KB.opq L1)], CallsV Try.prog (.func 18) #[sv st (slw 1 off 2 cap)] [(1, win off c)] (rt (sv st (slw 5 0 2 capU))) [(5, KB.own [a, b]), (1, win off c)], CallsV Try.prog (.func 10) #[sv st (slw 1 off 2 cap)] [(1, win off c)] (rt (slw 6 0 R.length capU)) [(6, KP.opq R), (1, win off c)], CallsV Try.prog (.func 10) #[sv st (slw 3 0 2 capU)] [(3, KB.opq L1)] (rt (slw 7 0 R.length capU)) [(7, KP.opq R), (3, KB.opq L1)], CallsV Try.prog (.func 10) #[sv so (slw 5 0 2 capU)] [(5, KB.own [(a.1, g.2), (b.1, h.2)])] (rt (slw 8 0 R.length capU)) [(8, KP.opq R), (5, KB.own [(a.1, g.2), (b.1, h.2)])], CallsV Try.prog (.func 16) #[sv st (slw 4 0 2 capU), sv st (slw 1 off 2 cap)] [(1, win off c), (4, KB.opq L2)] (rt (bb true)) [(1, win off c), (4, KB.opq L2)], CallsV Try.prog (.func 19) #[slw 6 0 R.length capU, slw 7 0 R.length capU] [(7, KP.opq R), (6, KP.opq R)] (rt (bb true)) [(7, KP.opq R), (6, KP.opq R)], CallsV Try.prog (.func 19) #[slw 6 0 R.length capU, slw 8 0 R.length capU] [(6, KP.opq R), (8, KP.opq R)] (rt (bb true)) [(6, KP.opq R), (8, KP.opq R)], PureX Try.prog 9 #[] (rt (bb true))]) := by kernel_rfl
theorem mvl_2_4 (st so : Int) (off cap cap2 : Nat) (c : Array Value) (r r2 : P3) (L1 L2 : List Bd) (R : List Pr) (a b g h i j : Bd) : runF Try.prog 1000 [] 4 #[sv st (slw 1 off 2 cap), sv so (slw 2 0 4 cap2), vv r] [(1, win off c), (2, wob [g, h, i, j])] [] [(17, rt (vv r2)), (9, rt (bb true))] [(8, rt (bb true), [(1, win off c)]), (8, rt (bb true), [(2, wob [g, h, i, j])]), (15, rt (tp [sv st (slw 3 0 2 capU), ii 0]), [(3, KB.opq L1), (1, win off c)]), (15, rt (tp [sv st (slw 4 0 2 capU), ii 0]), [(4, KB.opq L2), (3, KB.opq L1)]), (18, rt (sv st (slw 5 0 2 capU)), [(5, KB.own [a, b]), (1, win off c)]), (10, rt (slw 6 0 R.length capU), [(6, KP.opq R), (1, win off c)]), (10, rt (slw 7 0 R.length capU), [(7, KP.opq R), (3, KB.opq L1)]), (10, rt (slw 8 0 R.length capU), [(8, KP.opq R), (5, KB.own [(a.1, g.2), (b.1, h.2)])]), (16, rt (bb true), [(1, win off c), (4, KB.opq L2)]), (19, rt (bb true), [(7, KP.opq R), (6, KP.opq R)]), (19, rt (bb true), [(6, KP.opq R), (8, KP.opq R)])] [] =
    some (rt (bb true), [], [CallsV Try.prog (.func 8) #[sv st (slw 1 off 2 cap)] [(1, win off c)] (rt (bb true)) [(1, win off c)], CallsV Try.prog (.func 8) #[sv so (slw 2 0 4 cap2)] [(2, wob [g, h, i, j])] (rt (bb true)) [(2, wob [g, h, i, j])], CallsV Try.prog (.func 15) #[sv st (slw 1 off 2 cap), vv r] [(1, win off c)] (rt (tp [sv st (slw 3 0 2 capU), ii 0])) [(3, KB.opq L1), (1, win off c)], PureX Try.prog 17 #[vv r] (rt (vv r2)), CallsV Try.prog (.func 15) #[sv st (slw 3 0 2 capU), vv r2] [(3, KB.opq L1)] (rt (tp [sv st (slw 4 0 2 capU), ii 0])) [(4, KB.opq L2), (3, KB.opq L1)], CallsV Try.prog (.func 18) #[sv st (slw 1 off 2 cap)] [(1, win off c)] (rt (sv st (slw 5 0 2 capU))) [(5, KB.own [a, b]), (1, win off c)], CallsV Try.prog (.func 10) #[sv st (slw 1 off 2 cap)] [(1, win off c)] (rt (slw 6 0 R.length capU)) [(6, KP.opq R), (1, win off c)], CallsV Try.prog (.func 10) #[sv st (slw 3 0 2 capU)] [(3, KB.opq L1)] (rt (slw 7 0 R.length capU)) [(7, KP.opq R), (3, KB.opq L1)], CallsV Try.prog (.func 10) #[sv so (slw 5 0 2 capU)] [(5, KB.own [(a.1, g.2), (b.1, h.2)])] (rt (slw 8 0 R.length capU)) [(8, KP.opq R), (5, KB.own [(a.1, g.2), (b.1, h.2)])], CallsV Try.prog (.func 16) #[sv st (slw 4 0 2 capU), sv st (slw 1 off 2 cap)] [(1, win off c), (4, KB.opq L2)] (rt (bb true)) [(1, win off c), (4, KB.opq L2)], CallsV Try.prog (.func 19) #[slw 6 0 R.length capU, slw 7 0 R.length capU] [(7, KP.opq R), (6, KP.opq R)] (rt (bb true)) [(7, KP.opq R), (6, KP.opq R)], CallsV Try.prog (.func 19) #[slw 6 0 R.length capU, slw 8 0 R.length capU] [(6, KP.opq R), (8, KP.opq R)] (rt (bb true)) [(6, KP.opq R), (8, KP.opq R)], PureX Try.prog 9 #[] (rt (bb true))]) := by kernel_rfl
theorem mvl_3_1 (st so : Int) (off cap cap2 : Nat) (c : Array Value) (r r2 : P3) (L1 L2 : List Bd) (R : List Pr) (a b d g : Bd) : runF Try.prog 1000 [] 4 #[sv st (slw 1 off 3 cap), sv so (slw 2 0 1 cap2), vv r] [(1, win off c), (2, wob [g])] [] [(17, rt (vv r2)), (9, rt (bb true))] [(8, rt (bb true), [(1, win off c)]), (8, rt (bb true), [(2, wob [g])]), (15, rt (tp [sv st (slw 3 0 3 capU), ii 0]), [(3, KB.opq L1), (1, win off c)]), (15, rt (tp [sv st (slw 4 0 3 capU), ii 0]), [(4, KB.opq L2), (3, KB.opq L1)]), (18, rt (sv st (slw 5 0 3 capU)), [(5, KB.own [a, b, d]), (1, win off c)]), (10, rt (slw 6 0 R.length capU), [(6, KP.opq R), (1, win off c)]), (10, rt (slw 7 0 R.length capU), [(7, KP.opq R), (3, KB.opq L1)]), (10, rt (slw 8 0 R.length capU), [(8, KP.opq R), (5, KB.own [(a.1, g.2), b, d])]), (16, rt (bb true), [(1, win off c), (4, KB.opq L2)]), (19, rt (bb true), [(7, KP.opq R), (6, KP.opq R)]), (19, rt (bb true), [(6, KP.opq R), (8, KP.opq R)])] [] =
    some (rt (bb true), [], [CallsV Try.prog (.func 8) #[sv st (slw 1 off 3 cap)] [(1, win off c)] (rt (bb true)) [(1, win off c)], CallsV Try.prog (.func 8) #[sv so (slw 2 0 1 cap2)] [(2, wob [g])] (rt (bb true)) [(2, wob [g])], CallsV Try.prog (.func 15) #[sv st (slw 1 off 3 cap), vv r] [(1, win off c)] (rt (tp [sv st (slw 3 0 3 capU), ii 0])) [(3, KB.opq L1), (1, win off c)], PureX Try.prog 17 #[vv r] (rt (vv r2)), CallsV Try.prog (.func 15) #[sv st (slw 3 0 3 capU), vv r2] [(3, KB.opq L1)] (rt (tp [sv st (slw 4 0 3 capU), ii 0])) [(4, KB.opq L2), (3, KB.opq L1)], CallsV Try.prog (.func 18) #[sv st (slw 1 off 3 cap)] [(1, win off c)] (rt (sv st (slw 5 0 3 capU))) [(5, KB.own [a, b, d]), (1, win off c)], CallsV Try.prog (.func 10) #[sv st (slw 1 off 3 cap)] [(1, win off c)] (rt (slw 6 0 R.length capU)) [(6, KP.opq R), (1, win off c)], CallsV Try.prog (.func 10) #[sv st (slw 3 0 3 capU)] [(3, KB.opq L1)] (rt (slw 7 0 R.length capU)) [(7, KP.opq R), (3, KB.opq L1)], CallsV Try.prog (.func 10) #[sv so (slw 5 0 3 capU)] [(5, KB.own [(a.1, g.2), b, d])] (rt (slw 8 0 R.length capU)) [(8, KP.opq R), (5, KB.own [(a.1, g.2), b, d])], CallsV Try.prog (.func 16) #[sv st (slw 4 0 3 capU), sv st (slw 1 off 3 cap)] [(1, win off c), (4, KB.opq L2)] (rt (bb true)) [(1, win off c), (4, KB.opq L2)], CallsV Try.prog (.func 19) #[slw 6 0 R.length capU, slw 7 0 R.length capU] [(7, KP.opq R), (6, KP.opq R)] (rt (bb true)) [(7, KP.opq R), (6, KP.opq R)], CallsV Try.prog (.func 19) #[slw 6 0 R.length capU, slw 8 0 R.length capU] [(6, KP.opq R), (8, KP.opq R)] (rt (bb true)) [(6, KP.opq R), (8, KP.opq R)], PureX Try.prog 9 #[] (rt (bb true))]) := by kernel_rfl
theorem mvl_3_2 (st so : Int) (off cap cap2 : Nat) (c : Array Value) (r r2 : P3) (L1 L2 : List Bd) (R : List Pr) (a b d g h : Bd) : runF Try.prog 1000 [] 4 #[sv st (slw 1 off 3 cap), sv so (slw 2 0 2 cap2), vv r] [(1, win off c), (2, wob [g, h])] [] [(17, rt (vv r2)), (9, rt (bb true))] [(8, rt (bb true), [(1, win off c)]), (8, rt (bb true), [(2, wob [g, h])]), (15, rt (tp [sv st (slw 3 0 3 capU), ii 0]), [(3, KB.opq L1), (1, win off c)]), (15, rt (tp [sv st (slw 4 0 3 capU), ii 0]), [(4, KB.opq L2), (3, KB.opq L1)]), (18, rt (sv st (slw 5 0 3 capU)), [(5, KB.own [a, b, d]), (1, win off c)]), (10, rt (slw 6 0 R.length capU), [(6, KP.opq R), (1, win off c)]), (10, rt (slw 7 0 R.length capU), [(7, KP.opq R), (3, KB.opq L1)]), (10, rt (slw 8 0 R.length capU), [(8, KP.opq R), (5, KB.own [(a.1, g.2), (b.1, h.2), d])]), (16, rt (bb true), [(1, win off c), (4, KB.opq L2)]), (19, rt (bb true), [(7, KP.opq R), (6, KP.opq R)]), (19, rt (bb true), [(6, KP.opq R), (8, KP.opq R)])] [] =
    some (rt (bb true), [], [CallsV Try.prog (.func 8) #[sv st (slw 1 off 3 cap)] [(1, win off c)] (rt (bb true)) [(1, win off c)], CallsV Try.prog (.func 8) #[sv so (slw 2 0 2 cap2)] [(2, wob [g, h])] (rt (bb true)) [(2, wob [g, h])], CallsV Try.prog (.func 15) #[sv st (slw 1 off 3 cap), vv r] [(1, win off c)] (rt (tp [sv st (slw 3 0 3 capU), ii 0])) [(3, KB.opq L1), (1, win off c)], PureX Try.prog 17 #[vv r] (rt (vv r2)), CallsV Try.prog (.func 15) #[sv st (slw 3 0 3 capU), vv r2] [(3, KB.opq L1)] (rt (tp [sv st (slw 4 0 3 capU), ii 0])) [(4, KB.opq L2), (3, KB.opq L1)], CallsV Try.prog (.func 18) #[sv st (slw 1 off 3 cap)] [(1, win off c)] (rt (sv st (slw 5 0 3 capU))) [(5, KB.own [a, b, d]), (1, win off c)], CallsV Try.prog (.func 10) #[sv st (slw 1 off 3 cap)] [(1, win off c)] (rt (slw 6 0 R.length capU)) [(6, KP.opq R), (1, win off c)], CallsV Try.prog (.func 10) #[sv st (slw 3 0 3 capU)] [(3, KB.opq L1)] (rt (slw 7 0 R.length capU)) [(7, KP.opq R), (3, KB.opq L1)], CallsV Try.prog (.func 10) #[sv so (slw 5 0 3 capU)] [(5, KB.own [(a.1, g.2), (b.1, h.2), d])] (rt (slw 8 0 R.length capU)) [(8, KP.opq R), (5, KB.own [(a.1, g.2), (b.1, h.2), d])], CallsV Try.prog (.func 16) #[sv st (slw 4 0 3 capU), sv st (slw 1 off 3 cap)] [(1, win off c), (4, KB.opq L2)] (rt (bb true)) [(1, win off c), (4, KB.opq L2)], CallsV Try.prog (.func 19) #[slw 6 0 R.length capU, slw 7 0 R.length capU] [(7, KP.opq R), (6, KP.opq R)] (rt (bb true)) [(7, KP.opq R), (6, KP.opq R)], CallsV Try.prog (.func 19) #[slw 6 0 R.length capU, slw 8 0 R.length capU] [(6, KP.opq R), (8, KP.opq R)] (rt (bb true)) [(6, KP.opq R), (8, KP.opq R)], PureX Try.prog 9 #[] (rt (bb true))]) := by kernel_rfl
theorem mvl_3_3 (st so : Int) (off cap cap2 : Nat) (c : Array Value) (r r2 : P3) (L1 L2 : List Bd) (R : List Pr) (a b d g h i : Bd) : runF Try.prog 1000 [] 4 #[sv st (slw 1 off 3 cap), sv so (slw 2 0 3 cap2), vv r] [(1, win off c), (2, wob [g, h, i])] [] [(17, rt (vv r2)), (9, rt (bb true))] [(8, rt (bb true), [(1, win off c)]), (8, rt (bb true), [(2, wob [g, h, i])]), (15, rt (tp [sv st (slw 3 0 3 capU), ii 0]), [(3, KB.opq L1), (1, win off c)]), (15, rt (tp [sv st (slw 4 0 3 capU), ii 0]), [(4, KB.opq L2), (3, KB.opq L1)]), (18, rt (sv st (slw 5 0 3 capU)), [(5, KB.own [a, b, d]), (1, win off c)]), (10, rt (slw 6 0 R.length capU), [(6, KP.opq R), (1, win off c)]), (10, rt (slw 7 0 R.length capU), [(7, KP.opq R), (3, KB.opq L1)]), (10, rt (slw 8 0 R.length capU), [(8, KP.opq R), (5, KB.own [(a.1, g.2), (b.1, h.2), (d.1, i.2)])]), (16, rt (bb true), [(1, win off c), (4, KB.opq L2)]), (19, rt (bb true), [(7, KP.opq R), (6, KP.opq R)]), (19, rt (bb true), [(6, KP.opq R), (8, KP.opq R)])] [] =
    some (rt (bb true), [], [CallsV Try.prog (.func 8) #[sv st (slw 1 off 3 cap)] [(1, win off c)] (rt (bb true)) [(1, win off c)], CallsV Try.prog (.func 8) #[sv so (slw 2 0 3 cap2)] [(2, wob [g, h, i])] (rt (bb true)) [(2, wob [g, h, i])], CallsV Try.prog (.func 15) #[sv st (slw 1 off 3 cap), vv r] [(1, win off c)] (rt (tp [sv st (slw 3 0 3 capU), ii 0])) [(3, KB.opq L1), (1, win off c)], PureX Try.prog 17 #[vv r] (rt (vv r2)), CallsV Try.prog (.func 15) #[sv st (slw 3 0 3 capU), vv r2] [(3, KB.opq L1)] (rt (tp [sv st (slw 4 0 3 capU), ii 0])) [(4, KB.opq L2), (3, KB.opq L1)], CallsV Try.prog (.func 18) #[sv st (slw 1 off 3 cap)] [(1, win off c)] (rt (sv st (slw 5 0 3 capU))) [(5, KB.own [a, b, d]), (1, win off c)], CallsV Try.prog (.func 10) #[sv st (slw 1 off 3 cap)] [(1, win off c)] (rt (slw 6 0 R.length capU)) [(6, KP.opq R), (1, win off c)], CallsV Try.prog (.func 10) #[sv st (slw 3 0 3 capU)] [(3, KB.opq L1)] (rt (slw 7 0 R.length capU)) [(7, KP.opq R), (3, KB.opq L1)], CallsV Try.prog (.func 10) #[sv so (slw 5 0 3 capU)] [(5, KB.own [(a.1, g.2), (b.1, h.2), (d.1, i.2)])] (rt (slw 8 0 R.length capU)) [(8, KP.opq R), (5, KB.own [(a.1, g.2), (b.1, h.2), (d.1, i.2)])], CallsV Try.prog (.func 16) #[sv st (slw 4 0 3 capU), sv st (slw 1 off 3 cap)] [(1, win off c), (4, KB.opq L2)] (rt (bb true)) [(1, win off c), (4, KB.opq L2)], CallsV Try.prog (.func 19) #[slw 6 0 R.length capU, slw 7 0 R.length capU] [(7, KP.opq R), (6, KP.opq R)] (rt (bb true)) [(7, KP.opq R), (6, KP.opq R)], CallsV Try.prog (.func 19) #[slw 6 0 R.length capU, slw 8 0 R.length capU] [(6, KP.opq R), (8, KP.opq R)] (rt (bb true)) [(6, KP.opq R), (8, KP.opq R)], PureX Try.prog 9 #[] (rt (bb true))]) := by kernel_rfl
theorem mvl_3_4 (st so : Int) (off cap cap2 : Nat) (c : Array Value) (r r2 : P3) (L1 L2 : List Bd) (R : List Pr) (a b d g h i j : Bd) : runF Try.prog 1000 [] 4 #[sv st (slw 1 off 3 cap), sv so (slw 2 0 4 cap2), vv r] [(1, win off c), (2, wob [g, h, i, j])] [] [(17, rt (vv r2)), (9, rt (bb true))] [(8, rt (bb true), [(1, win off c)]), (8, rt (bb true), [(2, wob [g, h, i, j])]), (15, rt (tp [sv st (slw 3 0 3 capU), ii 0]), [(3, KB.opq L1), (1, win off c)]), (15, rt (tp [sv st (slw 4 0 3 capU), ii 0]), [(4, KB.opq L2), (3, KB.opq L1)]), (18, rt (sv st (slw 5 0 3 capU)), [(5, KB.own [a, b, d]), (1, win off c)]), (10, rt (slw 6 0 R.length capU), [(6, KP.opq R), (1, win off c)]), (10, rt (slw 7 0 R.length capU), [(7, KP.opq R), (3, KB.opq L1)]), (10, rt (slw 8 0 R.length capU), [(8, KP.opq R), (5, KB.own [(a.1, g.2), (b.1, h.2), (d.1, i.2)])]), (16, rt (bb true), [(1, win off c), (4, KB.opq L2)]), (19, rt (bb true), [(7, KP.opq R), (6, KP.opq R)]), (19, rt (bb true), [(6, KP.opq R), (8, KP.opq R)])] [] =
    some (rt (bb true), [], [CallsV Try.prog (.func 8) #[sv st (slw 1 off 3 cap)] [(1, win off c)] (rt (bb true)) [(1, win off c)], CallsV Try.prog (.func 8) #[sv so (slw 2 0 4 cap2)] [(2, wob [g, h, i, j])] (rt (bb true)) [(2, wob [g, h, i, j])], CallsV Try.prog (.func 15) #[sv st (slw 1 off 3 cap), vv r] [(1, win off c)] (rt (tp [sv st (slw 3 0 3 capU), ii 0])) [(3, KB.opq L1), (1, win off c)], PureX Try.prog 17 #[vv r] (rt (vv r2)), CallsV Try.prog (.func 15) #[sv st (slw 3 0 3 capU), vv r2] [(3, KB.opq L1)] (rt (tp [sv st (slw 4 0 3 capU), ii 0])) [(4, KB.opq L2), (3, KB.opq L1)], CallsV Try.prog (.func 18) #[sv st (slw 1 off 3 cap)] [(1, win off c)] (rt (sv st (slw 5 0 3 capU))) [(5, KB.own [a, b, d]), (1, win off c)], CallsV Try.prog (.func 10) #[sv st (slw 1 off 3 cap)] [(1, win off c)] (rt (slw 6 0 R.length capU)) [(6, KP.opq R), (1, win off c)], CallsV Try.prog (.func 10) #[sv st (slw 3 0 3 capU)] [(3, KB.opq L1)] (rt (slw 7 0 R.length capU)) [(7, KP.opq R), (3, KB.opq L1)], CallsV Try.prog (.func 10) #[sv so (slw 5 0 3 capU)] [(5, KB.own [(a.1, g.2), (b.1, h.2), (d.1, i.2)])] (rt (slw 8 0 R.length capU)) [(8, KP.opq R), (5, KB.own [(a.1, g.2), (b.1, h.2), (d.1, i.2)])], CallsV Try.prog (.func 16) #[sv st (slw 4 0 3 capU), sv st (slw 1 off 3 cap)] [(1, win off c), (4, KB.opq L2)] (rt (bb true)) [(1, win off c), (4, KB.opq L2)], CallsV Try.prog (.func 19) #[slw 6 0 R.length capU, slw 7 0 R.length capU] [(7, KP.opq R), (6, KP.opq R)] (rt (bb true)) [(7, KP.opq R), (6, KP.opq R)], CallsV Try.prog (.func 19) #[slw 6 0 R.length capU, slw 8 0 R.length capU] [(6, KP.opq R), (8, KP.opq R)] (rt (bb true)) [(6, KP.opq R), (8, KP.opq R)], PureX Try.prog 9 #[] (rt (bb true))]) := by kernel_rfl
theorem mvl_4_1 (st so : Int) (off cap cap2 : Nat) (c : Array Value) (r r2 : P3) (L1 L2 : List Bd) (R : List Pr) (a b d e g : Bd) : runF Try.prog 1000 [] 4 #[sv st (slw 1 off 4 cap), sv so (slw 2 0 1 cap2), vv r] [(1, win off c), (2, wob [g])] [] [(17, rt (vv r2)), (9, rt (bb true))] [(8, rt (bb true), [(1, win off c)]), (8, rt (bb true), [(2, wob [g])]), (15, rt (tp [sv st (slw 3 0 4 capU), ii 0]), [(3, KB.opq L1), (1, win off c)]), (15, rt (tp [sv st (slw 4 0 4 capU), ii 0]), [(4, KB.opq L2), (3, KB.opq L1)]), (18, rt (sv st (slw 5 0 4 capU)), [(5, KB.own [a, b, d, e]), (1, win off c)]), (10, rt (slw 6 0 R.length capU), [(6, KP.opq R), (1, win off c)]), (10, rt (slw 7 0 R.length capU), [(7, KP.opq R), (3, KB.opq L1)]), (10, rt (slw 8 0 R.length capU), [(8, KP.opq R), (5, KB.own [(a.1, g.2), b, d, e])]), (16, rt (bb true), [(1, win off c), (4, KB.opq L2)]), (19, rt (bb true), [(7, KP.opq R), (6, KP.opq R)]), (19, rt (bb true), [(6, KP.opq R), (8, KP.opq R)])] [] =
    some (rt (bb true), [], [CallsV Try.prog (.func 8) #[sv st (slw 1 off 4 cap)] [(1, win off c)] (rt (bb true)) [(1, win off c)], CallsV Try.prog (.func 8) #[sv so (slw 2 0 1 cap2)] [(2, wob [g])] (rt (bb true)) [(2, wob [g])], CallsV Try.prog (.func 15) #[sv st (slw 1 off 4 cap), vv r] [(1, win off c)] (rt (tp [sv st (slw 3 0 4 capU), ii 0])) [(3, KB.opq L1), (1, win off c)], PureX Try.prog 17 #[vv r] (rt (vv r2)), CallsV Try.prog (.func 15) #[sv st (slw 3 0 4 capU), vv r2] [(3, KB.opq L1)] (rt (tp [sv st (slw 4 0 4 capU), ii 0])) [(4, KB.opq L2), (3, KB.opq L1)], CallsV Try.prog (.func 18) #[sv st (slw 1 off 4 cap)] [(1, win off c)] (rt (sv st (slw 5 0 4 capU))) [(5, KB.own [a, b, d, e]), (1, win off c)], CallsV Try.prog (.func 10) #[sv st (slw 1 off 4 cap)] [(1, win off c)] (rt (slw 6 0 R.length capU)) [(6, KP.opq R), (1, win off c)], CallsV Try.prog (.func 10) #[sv st (slw 3 0 4 capU)] [(3, KB.opq L1)] (rt (slw 7 0 R.length capU)) [(7, KP.opq R), (3, KB.opq L1)], CallsV Try.prog (.func 10) #[sv so (slw 5 0 4 capU)] [(5, KB.own [(a.1, g.2), b, d, e])] (rt (slw 8 0 R.length capU)) [(8, KP.opq R), (5, KB.own [(a.1, g.2), b, d, e])], CallsV Try.prog (.func 16) #[sv st (slw 4 0 4 capU), sv st (slw 1 off 4 cap)] [(1, win off c), (4, KB.opq L2)] (rt (bb true)) [(1, win off c), (4, KB.opq L2)], CallsV Try.prog (.func 19) #[slw 6 0 R.length capU, slw 7 0 R.length capU] [(7, KP.opq R), (6, KP.opq R)] (rt (bb true)) [(7, KP.opq R), (6, KP.opq R)], CallsV Try.prog (.func 19) #[slw 6 0 R.length capU, slw 8 0 R.length capU] [(6, KP.opq R), (8, KP.opq R)] (rt (bb true)) [(6, KP.opq R), (8, KP.opq R)], PureX Try.prog 9 #[] (rt (bb true))]) := by kernel_rfl
theorem mvl_4_2 (st so : Int) (off cap cap2 : Nat) (c : Array Value) (r r2 : P3) (L1 L2 : List Bd) (R : List Pr) (a b d e g h : Bd) : runF Try.prog 1000 [] 4 #[sv st (slw 1 off 4 cap), sv so (slw 2 0 2 cap2), vv r] [(1, win off c), (2, wob [g, h])] [] [(17, rt (vv r2)), (9, rt (bb true))] [(8, rt (bb true), [(1, win off c)]), (8, rt (bb true), [(2, wob [g, h])]), (15, rt (tp [sv st (slw 3 0 4 capU), ii 0]), [(3, KB.opq L1), (1, win off c)]), (15, rt (tp [sv st (slw 4 0 4 capU), ii 0]), [(4, KB.opq L2), (3, KB.opq L1)]), (18, rt (sv st (slw 5 0 4 capU)), [(5, KB.own [a, b, d, e]), (1, win off c)]), (10, rt (slw 6 0 R.length capU), [(6, KP.opq R), (1, win off c)]), (10, rt (slw 7 0 R.length capU), [(7, KP.opq R), (3, KB.opq L1)]), (10, rt (slw 8 0 R.length capU), [(8, KP.opq R), (5, KB.own [(a.1, g.2), (b.1, h.2), d, e])]), (16, rt (bb true), [(1, win off c), (4, KB.opq L2)]), (19, rt (bb true), [(7, KP.opq R), (6, KP.opq R)]), (19, rt (bb true), [(6, KP.opq R), (8, KP.opq R)])] [] =
    some (rt (bb true), [], [CallsV Try.prog (.func 8) #[sv st (slw 1 off 4 cap)] [(1, win off c)] (rt (bb true)) [(1, win off c)], CallsV Try.prog (.func 8) #[sv so (slw 2 0 2 cap2)] [(2, wob [g, h])] (rt (bb true)) [(2, wob [g, h])], CallsV Try.prog (.func 15) #[sv st (slw 1 off 4 cap), vv r] [(1, win off c)] (rt (tp [sv st (slw 3 0 4 capU), ii 0])) [(3, KB.opq L1), (1, win off c)], PureX Try.prog 17 #[vv r] (rt (vv r2)), CallsV Try.prog (.func 15) #[sv st (slw 3 0 4 capU), vv r2] [(3, KB.opq L1)] (rt (tp [sv st (slw 4 0 4 capU), ii 0])) [(4, KB.opq L2), (3, KB.opq L1)], CallsV Try.prog (.func 18) #[sv st (slw 1 off 4 cap)] [(1, win off c)] (rt (sv st (slw 5 0 4 capU))) [(5, KB.own [a, b, d, e]), (1, win off c)], CallsV Try.prog (.func 10) #[sv st (slw 1 off 4 cap)] [(1, win off c)] (rt (slw 6 0 R.length capU)) [(6, KP.opq R), (1, win off c)], CallsV Try.prog (.func 10) #[sv st (slw 3 0 4 capU)] [(3, KB.opq L1)] (rt (slw 7 0 R.length capU)) [(7, KP.opq R), (3, KB.opq L1)], CallsV Try.prog (.func 10) #[sv so (slw 5 0 4 capU)] [(5, KB.own [(a.1, g.2), (b.1, h.2), d, e])] (rt (slw 8 0 R.length capU)) [(8, KP.opq R), (5, KB.own [(a.1, g.2), (b.1, h.2), d, e])], CallsV Try.prog (.func 16) #[sv st (slw 4 0 4 capU), sv st (slw 1 off 4 cap)] [(1, win off c), (4, KB.opq L2)] (rt (bb true)) [(1, win off c), (4, KB.opq L2)], CallsV Try.prog (.func 19) #[slw 6 0 R.length capU, slw 7 0 R.length capU] [(7, KP.opq R), (6, KP.opq R)] (rt (bb true)) [(7, KP.opq R), (6, KP.opq R)], CallsV Try.prog (.func 19) #[slw 6 0 R.length capU, slw 8 0 R.length capU] [(6, KP.opq R), (8, KP.opq R)] (rt (bb true)) [(6, KP.opq R), (8, KP.opq R)], PureX Try.prog 9 #[] (rt (bb true))]) := by kernel_rfl
theorem mvl_4_3 (st so : Int) (off cap cap2 : Nat) (c : Array Value) (r r2 : P3) (L1 L2 : List Bd) (R : List Pr) (a b d e g h i : Bd) : runF Try.prog 1000 [] 4 #[sv st (slw 1 off 4 cap), sv so (slw 2 0 3 cap2), vv r] [(1, win off c), (2, wob [g, h, i])] [] [(17, rt (vv r2)), (9, rt (bb true))] [(8, rt (bb true), [(1, win off c)]), (8, rt (bb true), [(2, wob [g, h, i])]), (15, rt (tp [sv st (slw 3 0 4 capU), ii 0]), [(3, KB.opq L1), (1, win off c)]), (15, rt (tp [sv st (slw 4 0 4 capU), ii 0]), [(4, KB.opq L2), (3, KB.opq L1)]), (18, rt (sv st (slw 5 0 4 capU)), [(5, KB.own [a, b, d, e]), (1, win off c)]), (10, rt (slw 6 0 R.length capU), [(6, KP.opq R), (1, win off c)]), (10, rt (slw 7 0 R.length capU), [(7, KP.opq R), (3, KB.opq L1)]), (10, rt (slw 8 0 R.length capU), [(8, KP.opq R), (5, KB.own [(a.1, g.2), (b.1, h.2), (d.1, i.2), e])]), (16, rt (bb true), [(1, win off c), (4, KB.opq L2)]), (19, rt (bb true), [(7, KP.opq R), (6, KP.opq R)]), (19, rt (bb true), [(6, KP.opq R), (8, KP.opq R)])] [] =
    some (rt (bb true), [], [CallsV Try.prog (.func 8) #[sv st (slw 1 off 4 cap)] [(1, win off c)] (rt (bb true)) [(1, win off c)], CallsV Try.prog (.func 8) #[sv so (slw 2 0 3 cap2)] [(2, wob [g, h, i])] (rt (bb true)) [(2, wob [g, h, i])], CallsV Try.prog (.func 15) #[sv st (slw 1 off 4 cap), vv r] [(1, win off c)] (rt (tp [sv st (slw 3 0 4 capU), ii 0])) [(3, KB.opq L1), (1, win off c)], PureX Try.prog 17 #[vv r] (rt (vv r2)), CallsV Try.prog (.func 15) #[sv st (slw 3 0 4 capU), vv r2] [(3, KB.opq L1)] (rt (tp [sv st (slw 4 0 4 capU), ii 0])) [(4, KB.opq L2), (3, KB.opq L1)], CallsV Try.prog (.func 18) #[sv st (slw 1 off 4 cap)] [(1, win off c)] (rt (sv st (slw 5 0 4 capU))) [(5, KB.own [a, b, d, e]), (1, win off c)], CallsV Try.prog (.func 10) #[sv st (slw 1 off 4 cap)] [(1, win off c)] (rt (slw 6 0 R.length capU)) [(6, KP.opq R), (1, win off c)], CallsV Try.prog (.func 10) #[sv st (slw 3 0 4 capU)] [(3, KB.opq L1)] (rt (slw 7 0 R.length capU)) [(7, KP.opq R), (3, KB.opq L1)], CallsV Try.prog (.func 10) #[sv so (slw 5 0 4 capU)] [(5, KB.own [(a.1, g.2), (b.1, h.2), (d.1, i.2), e])] (rt (slw 8 0 R.length capU)) [(8, KP.opq R), (5, KB.own [(a.1, g.2), (b.1, h.2), (d.1, i.2), e])], CallsV Try.prog (.func 16) #[sv st (slw 4 0 4 capU), sv st (slw 1 off 4 cap)] [(1, win off c), (4, KB.opq L2)] (rt (bb true)) [(1, win off c), (4, KB.opq L2)], CallsV Try.prog (.func 19) #[slw 6 0 R.length capU, slw 7 0 R.length capU] [(7, KP.opq R), (6, KP.opq R)] (rt (bb true)) [(7, KP.opq R), (6, KP.opq R)], CallsV Try.prog (.func 19) #[slw 6 0 R.length capU, slw 8 0 R.length capU] [(6, KP.opq R), (8, KP.opq R)] (rt (bb true)) [(6, KP.opq R), (8, KP.opq R)], PureX Try.prog 9 #[] (rt (bb true))]) := by kernel_rfl
theorem mvl_4_4 (st so : Int) (off cap cap2 : Nat) (c : Array Value) (r r2 : P3) (L1 L2 : List Bd) (R : List Pr) (a b d e g h i j : Bd) : runF Try.prog 1000 [] 4 #[sv st (slw 1 off 4 cap), sv so (slw 2 0 4 cap2), vv r] [(1, win off c), (2, wob [g, h, i, j])] [] [(17, rt (vv r2)), (9, rt (bb true))] [(8, rt (bb true), [(1, win off c)]), (8, rt (bb true), [(2, wob [g, h, i, j])]), (15, rt (tp [sv st (slw 3 0 4 capU), ii 0]), [(3, KB.opq L1), (1, win off c)]), (15, rt (tp [sv st (slw 4 0 4 capU), ii 0]), [(4, KB.opq L2), (3, KB.opq L1)]), (18, rt (sv st (slw 5 0 4 capU)), [(5, KB.own [a, b, d, e]), (1, win off c)]), (10, rt (slw 6 0 R.length capU), [(6, KP.opq R), (1, win off c)]), (10, rt (slw 7 0 R.length capU), [(7, KP.opq R), (3, KB.opq L1)]), (10, rt (slw 8 0 R.length capU), [(8, KP.opq R), (5, KB.own [(a.1, g.2), (b.1, h.2), (d.1, i.2), (e.1, j.2)])]), (16, rt (bb true), [(1, win off c), (4, KB.opq L2)]), (19, rt (bb true), [(7, KP.opq R), (6, KP.opq R)]), (19, rt (bb true), [(6, KP.opq R), (8, KP.opq R)])] [] =
    some (rt (bb true), [], [CallsV Try.prog (.func 8) #[sv st (slw 1 off 4 cap)] [(1, win off c)] (rt (bb true)) [(1, win off c)], CallsV Try.prog (.func 8) #[sv so (slw 2 0 4 cap2)] [(2, wob [g, h, i, j])] (rt (bb true)) [(2, wob [g, h, i, j])], CallsV Try.prog (.func 15) #[sv st (slw 1 off 4 cap), vv r] [(1, win off c)] (rt (tp [sv st (slw 3 0 4 capU), ii 0])) [(3, KB.opq L1), (1, win off c)], PureX Try.prog 17 #[vv r] (rt (vv r2)), CallsV Try.prog (.func 15) #[sv st (slw 3 0 4 capU), vv r2] [(3, KB.opq L1)] (rt (tp [sv st (slw 4 0 4 capU), ii 0])) [(4, KB.opq L2), (3, KB.opq L1)], CallsV Try.prog (.func 18) #[sv st (slw 1 off 4 cap)] [(1, win off c)] (rt (sv st (slw 5 0 4 capU))) [(5, KB.own [a, b, d, e]), (1, win off c)], CallsV Try.prog (.func 10) #[sv st (slw 1 off 4 cap)] [(1, win off c)] (rt (slw 6 0 R.length capU)) [(6, KP.opq R), (1, win off c)], CallsV Try.prog (.func 10) #[sv st (slw 3 0 4 capU)] [(3, KB.opq L1)] (rt (slw 7 0 R.length capU)) [(7, KP.opq R), (3, KB.opq L1)], CallsV Try.prog (.func 10) #[sv so (slw 5 0 4 capU)] [(5, KB.own [(a.1, g.2), (b.1, h.2), (d.1, i.2), (e.1, j.2)])] (rt (slw 8 0 R.length capU)) [(8, KP.opq R), (5, KB.own [(a.1, g.2), (b.1, h.2), (d.1, i.2), (e.1, j.2)])], CallsV Try.prog (.func 16) #[sv st (slw 4 0 4 capU), sv st (slw 1 off 4 cap)] [(1, win off c), (4, KB.opq L2)] (rt (bb true)) [(1, win off c), (4, KB.opq L2)], CallsV Try.prog (.func 19) #[slw 6 0 R.length capU, slw 7 0 R.length capU] [(7, KP.opq R), (6, KP.opq R)] (rt (bb true)) [(7, KP.opq R), (6, KP.opq R)], CallsV Try.prog (.func 19) #[slw 6 0 R.length capU, slw 8 0 R.length capU] [(6, KP.opq R), (8, KP.opq R)] (rt (bb true)) [(6, KP.opq R), (8, KP.opq R)], PureX Try.prog 9 #[] (rt (bb true))]) := by kernel_rfl
theorem mvl_no (st so : Int) (off m cap off' m' cap' : Nat) (c c' : Array Value) (r : P3) (L : List Bd) : runF Try.prog 1000 [] 4 #[sv st (slw 1 off m cap), sv so (slw 2 off' m' cap'), vv r] [(1, win off c), (2, win off' c')] [] [(9, rt (bb true))] [(8, rt (bb true), [(1, win off c)]), (8, rt (bb true), [(2, win off' c')]), (15, rt (tp [sv st (slw 3 0 L.length capU), ii 2]), [(3, KB.opq L), (1, win off c)]), (16, rt (bb true), [(3, KB.opq L), (1, win off c)])] [] =
    some (rt (bb true), [], [CallsV Try.prog (.func 8) #[sv st (slw 1 off m cap)] [(1, win off c)] (rt (bb true)) [(1, win off c)], CallsV Try.prog (.func 8) #[sv so (slw 2 off' m' cap')] [(2, win off' c')] (rt (bb true)) [(2, win off' c')], CallsV Try.prog (.func 15) #[sv st (slw 1 off m cap), vv r] [(1, win off c)] (rt (tp [sv st (slw 3 0 L.length capU), ii 2])) [(3, KB.opq L), (1, win off c)], CallsV Try.prog (.func 16) #[sv st (slw 3 0 L.length capU), sv st (slw 1 off m cap)] [(3, KB.opq L), (1, win off c)] (rt (bb true)) [(3, KB.opq L), (1, win off c)], PureX Try.prog 9 #[] (rt (bb true))]) := by kernel_rfl
theorem mvl_nn (st so : Int) (off m cap off' m' cap' : Nat) (c c' : Array Value) (r : P3) (L : List Bd) : runF Try.prog 1000 [] 4 #[sv st sl0, sv so sl0, vv r] [] [] [(8, rt (bb false)), (9, rt (bb true))] [] [] =
    some (rt (bb true), [], [PureX Try.prog 8 #[sv st sl0] (rt (bb false)), PureX Try.prog 9 #[] (rt (bb true))]) := by kernel_rfl
theorem mvl_nw (st so : Int) (off m cap off' m' cap' : Nat) (c c' : Array Value) (r : P3) (L : List Bd) : runF Try.prog 1000 [] 4 #[sv st sl0, sv so (slw 2 off' m' cap'), vv r] [(2, win off' c')] [] [(8, rt (bb false)), (9, rt (bb true))] [] [] =
    some (rt (bb true), [], [PureX Try.prog 8 #[sv st sl0] (rt (bb false)), PureX Try.prog 9 #[] (rt (bb true))]) := by kernel_rfl
theorem mvl_wn (st so : Int) (off m cap off' m' cap' : Nat) (c c' : Array Value) (r : P3) (L : List Bd) : runF Try.prog 1000 [] 4 #[sv st (slw 1 off m cap), sv so sl0, vv r] [(1, win off c)] [] [(9, rt (bb true))] [(8, rt (bb false), [(1, win off c)])] [] =
    some (rt (bb true), [], [CallsV Try.prog (.func 8) #[sv st (slw 1 off m cap)] [(1, win off c)] (rt (bb false)) [(1, win off c)], PureX Try.prog 9 #[] (rt (bb true))]) := by kernel_rfl
theorem mvl_ww (st so : Int) (off m cap off' m' cap' : Nat) (c c' : Array Value) (r : P3) (L : List Bd) : runF Try.prog 1000 [] 4 #[sv st (slw 1 off m cap), sv so (slw 2 off' m' cap'), vv r] [(1, win off c), (2, win off' c')] [] [(9, rt (bb true))] [(8, rt (bb false), [(1, win off c)])] [] =
    some (rt (bb true), [], [CallsV Try.prog (.func 8) #[sv st (slw 1 off m cap)] [(1, win off c)] (rt (bb false)) [(1, win off c)], PureX Try.prog 9 #[] (rt (bb true))]) := by kernel_rfl
theorem mvl_rn (st so : Int) (off m cap off' m' cap' : Nat) (c c' : Array Value) (r : P3) (L : List Bd) : runF Try.prog 1000 [] 4 #[sv st (slw 1 off m cap), sv so sl0, vv r] [(1, win off c)] [] [(8, rt (bb false)), (9, rt (bb true))] [(8, rt (bb true), [(1, win off c)])] [] =
    some (rt (bb true), [], [CallsV Try.prog (.func 8) #[sv st (slw 1 off m cap)] [(1, win off c)] (rt (bb true)) [(1, win off c)], PureX Try.prog 8 #[sv so sl0] (rt (bb false)), PureX Try.prog 9 #[] (rt (bb true))]) := by kernel_rfl
theorem mvl_rw (st so : Int) (off m cap off' m' cap' : Nat) (c c' : Array Value) (r : P3) (L : List Bd) : runF Try.prog 1000 [] 4 #[sv st (slw 1 off m cap), sv so (slw 2 off' m' cap'), vv r] [(1, win off c), (2, win off' c')] [] [(9, rt (bb true))] [(8, rt (bb true), [(1, win off c)]), (8, rt (bb false), [(2, win off' c')])] [] =
    some (rt (bb true), [], [CallsV Try.prog (.func 8) #[sv st (slw 1 off m cap)] [(1, win off c)] (rt (bb true)) [(1, win off c)], CallsV Try.prog (.func 8) #[sv so (slw 2 off' m' cap')] [(2, win off' c')] (rt (bb false)) [(2, win off' c')], PureX Try.prog 9 #[] (rt (bb true))]) := by kernel_rfl

end Go.Proofs.Ytpllklojcjhjaaa

/- NearMoved, wherever the bodies lie. -/
namespace Go.Proofs.Ytpllklojcjhjaaa
open Go Go.RowKit
set_option linter.unusedSimpArgs false
set_option linter.unusedVariables false
set_option maxRecDepth 100000

theorem plP_x {a r : P3} (ha : finP a = true) (hr : finP r = true) : plP a r = (a.1 + r.1, a.2.1 + r.2.1, a.2.2 + r.2.2) := by
  rw [fin_iff] at ha hr
  have e1 : wi (a.1 + r.1) = a.1 + r.1 := wrapI ⟨by omega, by omega⟩
  have e2 : wi (a.2.1 + r.2.1) = a.2.1 + r.2.1 := wrapI ⟨by omega, by omega⟩
  have e3 : wi (a.2.2 + r.2.2) = a.2.2 + r.2.2 := wrapI ⟨by omega, by omega⟩
  unfold plP
  rw [e1, e2, e3]
theorem ngP_x {r : P3} (hr : finP r = true) : ngP r = (0 - r.1, 0 - r.2.1, 0 - r.2.2) := by
  rw [fin_iff] at hr
  have e1 : wi (0 - r.1) = 0 - r.1 := wrapI ⟨by omega, by omega⟩
  have e2 : wi (0 - r.2.1) = 0 - r.2.1 := wrapI ⟨by omega, by omega⟩
  have e3 : wi (0 - r.2.2) = 0 - r.2.2 := wrapI ⟨by omega, by omega⟩
  unfold ngP
  rw [e1, e2, e3]
theorem addOk_iff {r : P3} {b : Bd} : addOk r b = true ↔ (finP b.1 = true ∧ finP r = true) ∧ finP (plP b.1 r) = true := by
  unfold addOk
  rw [Bool.and_eq_true, Bool.and_eq_true]
theorem back_1 {r : P3} {b : Bd} (h : addOk r b = true) : addOk (ngP r) (movB r b) = true ∧ movB (ngP r) (movB r b) = b := by
  obtain ⟨⟨h1, h2⟩, h3⟩ := addOk_iff.1 h
  have h4 : finP (ngP r) = true := by
    rw [ngP_x h2]
    rw [fin_iff] at h2 ⊢
    simp only
    omega
  have e : plP (plP b.1 r) (ngP r) = b.1 := by
    rw [plP_x h3 h4, plP_x h1 h2, ngP_x h2]
    refine Prod.ext ?_ (Prod.ext ?_ ?_)
    · simp only; omega
    · simp only; omega
    · simp only; omega
  refine ⟨addOk_iff.2 ⟨⟨h3, h4⟩, ?_⟩, ?_⟩
  · show finP (plP (plP b.1 r) (ngP r)) = true
    rw [e]; exact h1
  · show (plP (plP b.1 r) (ngP r), b.2) = b
    rw [e]
theorem back_all {r : P3} {L : List Bd} (h : L.all (addOk r) = true) : (L.map (movB r)).all (addOk (ngP r)) = true ∧ (L.map (movB r)).map (movB (ngP r)) = L := by
  rw [List.all_eq_true] at h
  constructor
  · rw [List.all_eq_true]
    intro x hx
    obtain ⟨b, hb, rfl⟩ := List.mem_map.1 hx
    exact (back_1 (h b hb)).1
  · rw [List.map_map]
    have : ∀ b ∈ L, (movB (ngP r) ∘ movB r) b = id b := fun b hb => (back_1 (h b hb)).2
    rw [List.map_congr_left this, List.map_id]
theorem sqd_mov {r : P3} {a b : Bd} (ha : addOk r a = true) (hb : addOk r b = true) : sqd (movB r a).1 (movB r b).1 = sqd a.1 b.1 := by
  obtain ⟨⟨h1, h2⟩, -⟩ := addOk_iff.1 ha
  obtain ⟨⟨h3, -⟩, -⟩ := addOk_iff.1 hb
  show sqd (plP a.1 r) (plP b.1 r) = _
  rw [plP_x h1 h2, plP_x h3 h2]
  unfold sqd
  simp only
  rw [show a.1.1 + r.1 - (b.1.1 + r.1) = a.1.1 - b.1.1 by omega, show a.1.2.1 + r.2.1 - (b.1.2.1 + r.2.1) = a.1.2.1 - b.1.2.1 by omega, show a.1.2.2 + r.2.2 - (b.1.2.2 + r.2.2) = a.1.2.2 - b.1.2.2 by omega]
theorem prs_mov {r : P3} {L : List Bd} (h1 : 1 ≤ L.length) (h4 : L.length ≤ 4) (h : L.all (addOk r) = true) : prsL (L.map (movB r)) = prsL L := by
  rw [List.all_eq_true] at h
  rcases shapes h1 h4 with ⟨a, rfl⟩ | ⟨a, b, rfl⟩ | ⟨a, b, d, rfl⟩ | ⟨a, b, d, e, rfl⟩
  · rfl
  · simp only [List.map, prsL, sqd_mov (h a (by simp)) (h b (by simp))]
  · simp only [List.map, prsL, sqd_mov (h a (by simp)) (h b (by simp)), sqd_mov (h a (by simp)) (h d (by simp)), sqd_mov (h b (by simp)) (h d (by simp))]
  · simp only [List.map, prsL, sqd_mov (h a (by simp)) (h b (by simp)), sqd_mov (h a (by simp)) (h d (by simp)), sqd_mov (h a (by simp)) (h e (by simp)), sqd_mov (h b (by simp)) (h d (by simp)), sqd_mov (h b (by simp)) (h e (by simp)), sqd_mov (h d (by simp)) (h e (by simp))]
theorem right_v {st so : Int} {L O V : List Bd} (h : rightV st L = true) (ho : rightV so O = true) (hl : V.length = L.length) (hv : ∀ b ∈ V, ∃ x ∈ L, ∃ y ∈ O ++ L, b = (x.1, y.2)) : rightV so V = true := by
  obtain ⟨-, h2, h3⟩ := rightV_iff.1 h
  obtain ⟨g1, -, g3⟩ := rightV_iff.1 ho
  refine rightV_iff.2 ⟨g1, by omega, fun b hb => ?_⟩
  obtain ⟨x, hx, y, hy, rfl⟩ := hv b hb
  have hx' := h3 x hx
  have hy' : bwth 1048576 65536 y = true := (List.mem_append.1 hy).elim (g3 y) (h3 y)
  unfold bwth at hx' hy' ⊢
  rw [Bool.and_eq_true] at hx' hy' ⊢
  exact ⟨hx'.1, hy'.2⟩
theorem pairs_new {st : Int} {L : List Bd} (h : rightV st L = true) (h2 : 2 ≤ L.length) (hR : prsL L ≠ []) : NewA KB Try.prog 10 (fun s => #[sv st s]) L KP (fun s => s) (prsL L) := by
  have := (pairs_s st L).2
  rw [prsV_ok h] at this
  exact this hR
theorem pairs_none {st : Int} {a : Bd} (h : rightV st [a] = true) : SemA KB Try.prog 10 (fun s => #[sv st s]) [a] sl0 := by
  have := (pairs_s st [a]).1
  rw [prsV_ok h] at this
  exact this rfl
theorem ren_law4 (st so : Int) (r : P3) : ∀ (β : Num) (s s' : Value), renA β #[sv st s, sv so s', vv r] = #[sv st (ren β s), sv so (ren β s'), vv r] := fun _ _ _ => rfl
section
variable {st so : Int} {r : P3}
theorem mlaw_1_1 (a g : Bd) (h : rightV st [a] = true) (ho : rightV so [g] = true) (hk : movOk st r [a] = true) (off cap cap2 : Nat) (hl : 1 ≤ cap) (hc : cap ≤ maxLen) (hl2 : 1 ≤ cap2) (hc2 : cap2 ≤ maxLen) :
    CallsV Try.prog (.func 4) #[sv st (slw 1 off 1 cap), sv so (slw 2 0 1 cap2), vv r] [(1, KB.win off [a]), (2, KB.seen [g])] (rt (bb true)) [] := by
  have hk' := hk
  unfold movOk at hk'
  rw [Bool.and_eq_true] at hk'
  obtain ⟨ha, hr⟩ := hk'
  obtain ⟨ha2, hback⟩ := back_all ha
  have hlen : (([a]).map (movB r)).length = 1 := rfl
  have hk2 : movOk st (ngP r) (([a]).map (movB r)) = true := by
    unfold movOk
    rw [ha2, hback, h]
    rfl
  have hs1 : ∀ β w, Rel (rng β [(1, KB.win off [a])]) w β [(1, KB.win off [a])] w → LieK KB w (ren β (slw 1 off 1 cap)) [a] := fun β w hR => lk_win (K := KB) (L := [a]) (k := 1) hR rfl hl hc
  have hs2 : ∀ β w, Rel (rng β [(2, KB.seen [g])]) w β [(2, KB.seen [g])] w → LieK KB w (ren β (slw 2 0 1 cap2)) [g] := fun β w hR => lk_seen (K := KB) (L := [g]) (k := 2) hR rfl hl2 hc2
  have hs3 : ∀ β w, Rel (rng β [(3, KB.opq (([a]).map (movB r)))]) w β [(3, KB.opq (([a]).map (movB r)))] w → LieK KB w (ren β (slw 3 0 1 capU)) (([a]).map (movB r)) := fun β w hR => lk_opq (K := KB) (L := ([a]).map (movB r)) (k := 3) hR rfl
  have hs5 : ∀ β w, Rel (rng β [(5, KB.own [(a.1, g.2)])]) w β [(5, KB.own [(a.1, g.2)])] w → LieK KB w (ren β (slw 5 0 1 capU)) [(a.1, g.2)] := fun β w hR => lk_own (K := KB) (L := [(a.1, g.2)]) (k := 5) hR rfl
  have w15 := newA_calls (moved_ok (mov_s r (L := [a]) (by simp) (by simp)) h (by simp) hk) false (ren_mv st r) (fun _ _ => rfl) (H := [(1, KB.win off [a])]) (k := 3) rfl hs1
  have w15b := newA_calls (moved_ok (mov_s (ngP r) (L := ([a]).map (movB r)) (st := st) (by simp) (by simp)) hr (by simp) hk2) false (ren_mv st (ngP r)) (fun _ _ => rfl) (H := [(3, KB.opq (([a]).map (movB r)))]) (k := 4) rfl hs3
  rw [hback] at w15b
  have w18 := newA_calls (down_new st (L := [a]) (by simp) (by simp)) true (ren_sv st) (fun _ _ => rfl) (H := [(1, KB.win off [a])]) (k := 5) rfl hs1
  have hv : rightV so [(a.1, g.2)] = true := right_v (V := [(a.1, g.2)]) h ho rfl (by simp)
  have w16 := semB_calls (same_s st (L := [a]) (by simp) (by simp)) (ren_ss st st) rfl (H := [(1, KB.win off [a]), (4, KB.opq [a])]) (s := slw 4 0 1 capU) (s' := slw 1 off 1 cap) (fun β w hR => ⟨lk_opq (K := KB) (L := [a]) (k := 4) hR rfl, lk_win (K := KB) (L := [a]) (k := 1) hR rfl hl hc⟩)
  have p1 := semA_calls (pairs_none h) (ren_sv st) rfl hs1
  have p2 := semA_calls (pairs_none (a := movB r a) hr) (ren_sv st) rfl hs3
  have p3 := semA_calls (pairs_none hv) (ren_sv so) rfl hs5
  have z : PureX Try.prog 19 #[sl0, sl0] (rt (bb true)) := runF_pure mix psame_0 trivial rfl rfl
  have right8 := rright_c h hs1
  have rightO := rright_c ho hs2
  exact runF_calls mix (mvl_1_1 st so off cap cap2 (cwx KB.fl off [a]) r (ngP r) (([a]).map (movB r)) [a] [] a g) ⟨right8, rightO, w15, neg_c r, w15b, w18, p1, p2, p3, w16, z, z, wakes_c, trivial⟩ rfl rfl
theorem mlaw_1_2 (a g i : Bd) (h : rightV st [a] = true) (ho : rightV so [g, i] = true) (hk : movOk st r [a] = true) (off cap cap2 : Nat) (hl : 1 ≤ cap) (hc : cap ≤ maxLen) (hl2 : 2 ≤ cap2) (hc2 : cap2 ≤ maxLen) :
    CallsV Try.prog (.func 4) #[sv st (slw 1 off 1 cap), sv so (slw 2 0 2 cap2), vv r] [(1, KB.win off [a]), (2, KB.seen [g, i])] (rt (bb true)) [] := by
  have hk' := hk
  unfold movOk at hk'
  rw [Bool.and_eq_true] at hk'
  obtain ⟨ha, hr⟩ := hk'
  obtain ⟨ha2, hback⟩ := back_all ha
  have hlen : (([a]).map (movB r)).length = 1 := rfl
  have hk2 : movOk st (ngP r) (([a]).map (movB r)) = true := by
    unfold movOk
    rw [ha2, hback, h]
    rfl
  have hs1 : ∀ β w, Rel (rng β [(1, KB.win off [a])]) w β [(1, KB.win off [a])] w → LieK KB w (ren β (slw 1 off 1 cap)) [a] := fun β w hR => lk_win (K := KB) (L := [a]) (k := 1) hR rfl hl hc
  have hs2 : ∀ β w, Rel (rng β [(2, KB.seen [g, i])]) w β [(2, KB.seen [g, i])] w → LieK KB w (ren β (slw 2 0 2 cap2)) [g, i] := fun β w hR => lk_seen (K := KB) (L := [g, i]) (k := 2) hR rfl hl2 hc2
  have hs3 : ∀ β w, Rel (rng β [(3, KB.opq (([a]).map (movB r)))]) w β [(3, KB.opq (([a]).map (movB r)))] w → LieK KB w (ren β (slw 3 0 1 capU)) (([a]).map (movB r)) := fun β w hR => lk_opq (K := KB) (L := ([a]).map (movB r)) (k := 3) hR rfl
  have hs5 : ∀ β w, Rel (rng β [(5, KB.own [(a.1, g.2)])]) w β [(5, KB.own [(a.1, g.2)])] w → LieK KB w (ren β (slw 5 0 1 capU)) [(a.1, g.2)] := fun β w hR => lk_own (K := KB) (L := [(a.1, g.2)]) (k := 5) hR rfl
  have w15 := newA_calls (moved_ok (mov_s r (L := [a]) (by simp) (by simp)) h (by simp) hk) false (ren_mv st r) (fun _ _ => rfl) (H := [(1, KB.win off [a])]) (k := 3) rfl hs1
  have w15b := newA_calls (moved_ok (mov_s (ngP r) (L := ([a]).map (movB r)) (st := st) (by simp) (by simp)) hr (by simp) hk2) false (ren_mv st (ngP r)) (fun _ _ => rfl) (H := [(3, KB.opq (([a]).map (movB r)))]) (k := 4) rfl hs3
  rw [hback] at w15b
  have w18 := newA_calls (down_new st (L := [a]) (by simp) (by simp)) true (ren_sv st) (fun _ _ => rfl) (H := [(1, KB.win off [a])]) (k := 5) rfl hs1
  have hv : rightV so [(a.1, g.2)] = true := right_v (V := [(a.1, g.2)]) h ho rfl (by simp)
  have w16 := semB_calls (same_s st (L := [a]) (by simp) (by simp)) (ren_ss st st) rfl (H := [(1, KB.win off [a]), (4, KB.opq [a])]) (s := slw 4 0 1 capU) (s' := slw 1 off 1 cap) (fun β w hR => ⟨lk_opq (K := KB) (L := [a]) (k := 4) hR rfl, lk_win (K := KB) (L := [a]) (k := 1) hR rfl hl hc⟩)
  have p1 := semA_calls (pairs_none h) (ren_sv st) rfl hs1
  have p2 := semA_calls (pairs_none (a := movB r a) hr) (ren_sv st) rfl hs3
  have p3 := semA_calls (pairs_none hv) (ren_sv so) rfl hs5
  have z : PureX Try.prog 19 #[sl0, sl0] (rt (bb true)) := runF_pure mix psame_0 trivial rfl rfl
  have right8 := rright_c h hs1
  have rightO := rright_c ho hs2
  exact runF_calls mix (mvl_1_2 st so off cap cap2 (cwx KB.fl off [a]) r (ngP r) (([a]).map (movB r)) [a] [] a g i) ⟨right8, rightO, w15, neg_c r, w15b, w18, p1, p2, p3, w16, z, z, wakes_c, trivial⟩ rfl rfl
theorem mlaw_1_3 (a g i j : Bd) (h : rightV st [a] = true) (ho : rightV so [g, i, j] = true) (hk : movOk st r [a] = true) (off cap cap2 : Nat) (hl : 1 ≤ cap) (hc : cap ≤ maxLen) (hl2 : 3 ≤ cap2) (hc2 : cap2 ≤ maxLen) :
    CallsV Try.prog (.func 4) #[sv st (slw 1 off 1 cap), sv so (slw 2 0 3 cap2), vv r] [(1, KB.win off [a]), (2, KB.seen [g, i, j])] (rt (bb true)) [] := by
  have hk' := hk
  unfold movOk at hk'
  rw [Bool.and_eq_true] at hk'
  obtain ⟨ha, hr⟩ := hk'
  obtain ⟨ha2, hback⟩ := back_all ha
  have hlen : (([a]).map (movB r)).length = 1 := rfl
  have hk2 : movOk st (ngP r) (([a]).map (movB r)) = true := by
    unfold movOk
    rw [ha2, hback, h]
    rfl
  have hs1 : ∀ β w, Rel (rng β [(1, KB.win off [a])]) w β [(1, KB.win off [a])] w → LieK KB w (ren β (slw 1 off 1 cap)) [a] := fun β w hR => lk_win (K := KB) (L := [a]) (k := 1) hR rfl hl hc
  have hs2 : ∀ β w, Rel (rng β [(2, KB.seen [g, i, j])]) w β [(2, KB.seen [g, i, j])] w → LieK KB w (ren β (slw 2 0 3 cap2)) [g, i, j] := fun β w hR => lk_seen (K := KB) (L := [g, i, j]) (k := 2) hR rfl hl2 hc2
  have hs3 : ∀ β w, Rel (rng β [(3, KB.opq (([a]).map (movB r)))]) w β [(3, KB.opq (([a]).map (movB r)))] w → LieK KB w (ren β (slw 3 0 1 capU)) (([a]).map (movB r)) := fun β w hR => lk_opq (K := KB) (L := ([a]).map (movB r)) (k := 3) hR rfl
  have hs5 : ∀ β w, Rel (rng β [(5, KB.own [(a.1, g.2)])]) w β [(5, KB.own [(a.1, g.2)])] w → LieK KB w (ren β (slw 5 0 1 capU)) [(a.1, g.2)] := fun β w hR => lk_own (K := KB) (L := [(a.1, g.2)]) (k := 5) hR rfl
  have w15 := newA_calls (moved_ok (mov_s r (L := [a]) (by simp) (by simp)) h (by simp) hk) false (ren_mv st r) (fun _ _ => rfl) (H := [(1, KB.win off [a])]) (k := 3) rfl hs1
  have w15b := newA_calls (moved_ok (mov_s (ngP r) (L := ([a]).map (movB r)) (st := st) (by simp) (by simp)) hr (by simp) hk2) false (ren_mv st (ngP r)) (fun _ _ => rfl) (H := [(3, KB.opq (([a]).map (movB r)))]) (k := 4) rfl hs3
  rw [hback] at w15b
  have w18 := newA_calls (down_new st (L := [a]) (by simp) (by simp)) true (ren_sv st) (fun _ _ => rfl) (H := [(1, KB.win off [a])]) (k := 5) rfl hs1
  have hv : rightV so [(a.1, g.2)] = true := right_v (V := [(a.1, g.2)]) h ho rfl (by simp)
  have w16 := semB_calls (same_s st (L := [a]) (by simp) (by simp)) (ren_ss st st) rfl (H := [(1, KB.win off [a]), (4, KB.opq [a])]) (s := slw 4 0 1 capU) (s' := slw 1 off 1 cap) (fun β w hR => ⟨lk_opq (K := KB) (L := [a]) (k := 4) hR rfl, lk_win (K := KB) (L := [a]) (k := 1) hR rfl hl hc⟩)
  have p1 := semA_calls (pairs_none h) (ren_sv st) rfl hs1
  have p2 := semA_calls (pairs_none (a := movB r a) hr) (ren_sv st) rfl hs3
  have p3 := semA_calls (pairs_none hv) (ren_sv so) rfl hs5
  have z : PureX Try.prog 19 #[sl0, sl0] (rt (bb true)) := runF_pure mix psame_0 trivial rfl rfl
  have right8 := rright_c h hs1
  have rightO := rright_c ho hs2
  exact runF_calls mix (mvl_1_3 st so off cap cap2 (cwx KB.fl off [a]) r (ngP r) (([a]).map (movB r)) [a] [] a g i j) ⟨right8, rightO, w15, neg_c r, w15b, w18, p1, p2, p3, w16, z, z, wakes_c, trivial⟩ rfl rfl
theorem mlaw_1_4 (a g i j k : Bd) (h : rightV st [a] = true) (ho : rightV so [g, i, j, k] = true) (hk : movOk st r [a] = true) (off cap cap2 : Nat) (hl : 1 ≤ cap) (hc : cap ≤ maxLen) (hl2 : 4 ≤ cap2) (hc2 : cap2 ≤ maxLen) :
    CallsV Try.prog (.func 4) #[sv st (slw 1 off 1 cap), sv so (slw 2 0 4 cap2), vv r] [(1, KB.win off [a]), (2, KB.seen [g, i, j, k])] (rt (bb true)) [] := by
  have hk' := hk
  unfold movOk at hk'
  rw [Bool.and_eq_true] at hk'
  obtain ⟨ha, hr⟩ := hk'
  obtain ⟨ha2, hback⟩ := back_all ha
  have hlen : (([a]).map (movB r)).length = 1 := rfl
  have hk2 : movOk st (ngP r) (([a]).map (movB r)) = true := by
    unfold movOk
    rw [ha2, hback, h]
    rfl
  have hs1 : ∀ β w, Rel (rng β [(1, KB.win off [a])]) w β [(1, KB.win off [a])] w → LieK KB w (ren β (slw 1 off 1 cap)) [a] := fun β w hR => lk_win (K := KB) (L := [a]) (k := 1) hR rfl hl hc
  have hs2 : ∀ β w, Rel (rng β [(2, KB.seen [g, i, j, k])]) w β [(2, KB.seen [g, i, j, k])] w → LieK KB w (ren β (slw 2 0 4 cap2)) [g, i, j, k] := fun β w hR => lk_seen (K := KB) (L := [g, i, j, k]) (k := 2) hR rfl hl2 hc2
  have hs3 : ∀ β w, Rel (rng β [(3, KB.opq (([a]).map (movB r)))]) w β [(3, KB.opq (([a]).map (movB r)))] w → LieK KB w (ren β (slw 3 0 1 capU)) (([a]).map (movB r)) := fun β w hR => lk_opq (K := KB) (L := ([a]).map (movB r)) (k := 3) hR rfl
  have hs5 : ∀ β w, Rel (rng β [(5, KB.own [(a.1, g.2)])]) w β [(5, KB.own [(a.1, g.2)])] w → LieK KB w (ren β (slw 5 0 1 capU)) [(a.1, g.2)] := fun β w hR => lk_own (K := KB) (L := [(a.1, g.2)]) (k := 5) hR rfl
  have w15 := newA_calls (moved_ok (mov_s r (L := [a]) (by simp) (by simp)) h (by simp) hk) false (ren_mv st r) (fun _ _ => rfl) (H := [(1, KB.win off [a])]) (k := 3) rfl hs1
  have w15b := newA_calls (moved_ok (mov_s (ngP r) (L := ([a]).map (movB r)) (st := st) (by simp) (by simp)) hr (by simp) hk2) false (ren_mv st (ngP r)) (fun _ _ => rfl) (H := [(3, KB.opq (([a]).map (movB r)))]) (k := 4) rfl hs3
  rw [hback] at w15b
  have w18 := newA_calls (down_new st (L := [a]) (by simp) (by simp)) true (ren_sv st) (fun _ _ => rfl) (H := [(1, KB.win off [a])]) (k := 5) rfl hs1
  have hv : rightV so [(a.1, g.2)] = true := right_v (V := [(a.1, g.2)]) h ho rfl (by simp)
  have w16 := semB_calls (same_s st (L := [a]) (by simp) (by simp)) (ren_ss st st) rfl (H := [(1, KB.win off [a]), (4, KB.opq [a])]) (s := slw 4 0 1 capU) (s' := slw 1 off 1 cap) (fun β w hR => ⟨lk_opq (K := KB) (L := [a]) (k := 4) hR rfl, lk_win (K := KB) (L := [a]) (k := 1) hR rfl hl hc⟩)
  have p1 := semA_calls (pairs_none h) (ren_sv st) rfl hs1
  have p2 := semA_calls (pairs_none (a := movB r a) hr) (ren_sv st) rfl hs3
  have p3 := semA_calls (pairs_none hv) (ren_sv so) rfl hs5
  have z : PureX Try.prog 19 #[sl0, sl0] (rt (bb true)) := runF_pure mix psame_0 trivial rfl rfl
  have right8 := rright_c h hs1
  have rightO := rright_c ho hs2
  exact runF_calls mix (mvl_1_4 st so off cap cap2 (cwx KB.fl off [a]) r (ngP r) (([a]).map (movB r)) [a] [] a g i j k) ⟨right8, rightO, w15, neg_c r, w15b, w18, p1, p2, p3, w16, z, z, wakes_c, trivial⟩ rfl rfl
theorem mlaw_2_1 (a b g : Bd) (h : rightV st [a, b] = true) (ho : rightV so [g] = true) (hk : movOk st r [a, b] = true) (off cap cap2 : Nat) (hl : 2 ≤ cap) (hc : cap ≤ maxLen) (hl2 : 1 ≤ cap2) (hc2 : cap2 ≤ maxLen) :
    CallsV Try.prog (.func 4) #[sv st (slw 1 off 2 cap), sv so (slw 2 0 1 cap2), vv r] [(1, KB.win off [a, b]), (2, KB.seen [g])] (rt (bb true)) [] := by
  have hk' := hk
  unfold movOk at hk'
  rw [Bool.and_eq_true] at hk'
  obtain ⟨ha, hr⟩ := hk'
  obtain ⟨ha2, hback⟩ := back_all ha
  have hlen : (([a, b]).map (movB r)).length = 2 := rfl
  have hk2 : movOk st (ngP r) (([a, b]).map (movB r)) = true := by
    unfold movOk
    rw [ha2, hback, h]
    rfl
  have hs1 : ∀ β w, Rel (rng β [(1, KB.win off [a, b])]) w β [(1, KB.win off [a, b])] w → LieK KB w (ren β (slw 1 off 2 cap)) [a, b] := fun β w hR => lk_win (K := KB) (L := [a, b]) (k := 1) hR rfl hl hc
  have hs2 : ∀ β w, Rel (rng β [(2, KB.seen [g])]) w β [(2, KB.seen [g])] w → LieK KB w (ren β (slw 2 0 1 cap2)) [g] := fun β w hR => lk_seen (K := KB) (L := [g]) (k := 2) hR rfl hl2 hc2
  have hs3 : ∀ β w, Rel (rng β [(3, KB.opq (([a, b]).map (movB r)))]) w β [(3, KB.opq (([a, b]).map (movB r)))] w → LieK KB w (ren β (slw 3 0 2 capU)) (([a, b]).map (movB r)) := fun β w hR => lk_opq (K := KB) (L := ([a, b]).map (movB r)) (k := 3) hR rfl
  have hs5 : ∀ β w, Rel (rng β [(5, KB.own [(a.1, g.2), b])]) w β [(5, KB.own [(a.1, g.2), b])] w → LieK KB w (ren β (slw 5 0 2 capU)) [(a.1, g.2), b] := fun β w hR => lk_own (K := KB) (L := [(a.1, g.2), b]) (k := 5) hR rfl
  have w15 := newA_calls (moved_ok (mov_s r (L := [a, b]) (by simp) (by simp)) h (by simp) hk) false (ren_mv st r) (fun _ _ => rfl) (H := [(1, KB.win off [a, b])]) (k := 3) rfl hs1
  have w15b := newA_calls (moved_ok (mov_s (ngP r) (L := ([a, b]).map (movB r)) (st := st) (by simp) (by simp)) hr (by simp) hk2) false (ren_mv st (ngP r)) (fun _ _ => rfl) (H := [(3, KB.opq (([a, b]).map (movB r)))]) (k := 4) rfl hs3
  rw [hback] at w15b
  have w18 := newA_calls (down_new st (L := [a, b]) (by simp) (by simp)) true (ren_sv st) (fun _ _ => rfl) (H := [(1, KB.win off [a, b])]) (k := 5) rfl hs1
  have hv : rightV so [(a.1, g.2), b] = true := right_v (V := [(a.1, g.2), b]) h ho rfl (by simp)
  have w16 := semB_calls (same_s st (L := [a, b]) (by simp) (by simp)) (ren_ss st st) rfl (H := [(1, KB.win off [a, b]), (4, KB.opq [a, b])]) (s := slw 4 0 2 capU) (s' := slw 1 off 2 cap) (fun β w hR => ⟨lk_opq (K := KB) (L := [a, b]) (k := 4) hR rfl, lk_win (K := KB) (L := [a, b]) (k := 1) hR rfl hl hc⟩)
  have p1 := newA_calls (pairs_new h (by simp) (by simp [prsL])) false (ren_sv st) (fun _ _ => rfl) (k := 6) (H := [(1, KB.win off [a, b])]) rfl hs1
  have e2 := prs_mov (L := [a, b]) (by simp) (by simp) ha
  have p2 := newA_calls (pairs_new (L := ([a, b]).map (movB r)) hr (by simp) (by rw [e2]; simp [prsL])) false (ren_sv st) (fun _ _ => rfl) (k := 7) (H := [(3, KB.opq (([a, b]).map (movB r)))]) rfl hs3
  rw [e2] at p2
  have e3 : prsL [(a.1, g.2), b] = prsL [a, b] := rfl
  have p3 := newA_calls (pairs_new hv (by simp) (by simp [prsL])) false (ren_sv so) (fun _ _ => rfl) (k := 8) (H := [(5, KB.own [(a.1, g.2), b])]) rfl hs5
  rw [e3] at p3
  have z1 := semB_calls (psame_s (Q := prsL [a, b]) (by simp [prsL])) ren_pp rfl (H := [(7, KP.opq (prsL [a, b])), (6, KP.opq (prsL [a, b]))]) (s := slw 6 0 (prsL [a, b]).length capU) (s' := slw 7 0 (prsL [a, b]).length capU) (fun β w hR => ⟨lk_opq (K := KP) hR rfl, lk_opq (K := KP) hR rfl⟩)
  have z2 := semB_calls (psame_s (Q := prsL [a, b]) (by simp [prsL])) ren_pp rfl (H := [(6, KP.opq (prsL [a, b])), (8, KP.opq (prsL [a, b]))]) (s := slw 6 0 (prsL [a, b]).length capU) (s' := slw 8 0 (prsL [a, b]).length capU) (fun β w hR => ⟨lk_opq (K := KP) hR rfl, lk_opq (K := KP) hR rfl⟩)
  have right8 := rright_c h hs1
  have rightO := rright_c ho hs2
  exact runF_calls mix (mvl_2_1 st so off cap cap2 (cwx KB.fl off [a, b]) r (ngP r) (([a, b]).map (movB r)) [a, b] (prsL [a, b]) a b g) ⟨right8, rightO, w15, neg_c r, w15b, w18, p1, p2, p3, w16, z1, z2, wakes_c, trivial⟩ rfl rfl
theorem mlaw_2_2 (a b g i : Bd) (h : rightV st [a, b] = true) (ho : rightV so [g, i] = true) (hk : movOk st r [a, b] = true) (off cap cap2 : Nat) (hl : 2 ≤ cap) (hc : cap ≤ maxLen) (hl2 : 2 ≤ cap2) (hc2 : cap2 ≤ maxLen) :
    CallsV Try.prog (.func 4) #[sv st (slw 1 off 2 cap), sv so (slw 2 0 2 cap2), vv r] [(1, KB.win off [a, b]), (2, KB.seen [g, i])] (rt (bb true)) [] := by
  have hk' := hk
  unfold movOk at hk'
  rw [Bool.and_eq_true] at hk'
  obtain ⟨ha, hr⟩ := hk'
  obtain ⟨ha2, hback⟩ := back_all ha
  have hlen : (([a, b]).map (movB r)).length = 2 := rfl
  have hk2 : movOk st (ngP r) (([a, b]).map (movB r)) = true := by
    unfold movOk
    rw [ha2, hback, h]
    rfl
  have hs1 : ∀ β w, Rel (rng β [(1, KB.win off [a, b])]) w β [(1, KB.win off [a, b])] w → LieK KB w (ren β (slw 1 off 2 cap)) [a, b] := fun β w hR => lk_win (K := KB) (L := [a, b]) (k := 1) hR rfl hl hc
  have hs2 : ∀ β w, Rel (rng β [(2, KB.seen [g, i])]) w β [(2, KB.seen [g, i])] w → LieK KB w (ren β (slw 2 0 2 cap2)) [g, i] := fun β w hR => lk_seen (K := KB) (L := [g, i]) (k := 2) hR rfl hl2 hc2
  have hs3 : ∀ β w, Rel (rng β [(3, KB.opq (([a, b]).map (movB r)))]) w β [(3, KB.opq (([a, b]).map (movB r)))] w → LieK KB w (ren β (slw 3 0 2 capU)) (([a, b]).map (movB r)) := fun β w hR => lk_opq (K := KB) (L := ([a, b]).map (movB r)) (k := 3) hR rfl
  have hs5 : ∀ β w, Rel (rng β [(5, KB.own [(a.1, g.2), (b.1, i.2)])]) w β [(5, KB.own [(a.1, g.2), (b.1, i.2)])] w → LieK KB w (ren β (slw 5 0 2 capU)) [(a.1, g.2), (b.1, i.2)] := fun β w hR => lk_own (K := KB) (L := [(a.1, g.2), (b.1, i.2)]) (k := 5) hR rfl
  have w15 := newA_calls (moved_ok (mov_s r (L := [a, b]) (by simp) (by simp)) h (by simp) hk) false (ren_mv st r) (fun _ _ => rfl) (H := [(1, KB.win off [a, b])]) (k := 3) rfl hs1
  have w15b := newA_calls (moved_ok (mov_s (ngP r) (L := ([a, b]).map (movB r)) (st := st) (by simp) (by simp)) hr (by simp) hk2) false (ren_mv st (ngP r)) (fun _ _ => rfl) (H := [(3, KB.opq (([a, b]).map (movB r)))]) (k := 4) rfl hs3
  rw [hback] at w15b
  have w18 := newA_calls (down_new st (L := [a, b]) (by simp) (by simp)) true (ren_sv st) (fun _ _ => rfl) (H := [(1, KB.win off [a, b])]) (k := 5) rfl hs1
  have hv : rightV so [(a.1, g.2), (b.1, i.2)] = true := right_v (V := [(a.1, g.2), (b.1, i.2)]) h ho rfl (by simp)
  have w16 := semB_calls (same_s st (L := [a, b]) (by simp) (by simp)) (ren_ss st st) rfl (H := [(1, KB.win off [a, b]), (4, KB.opq [a, b])]) (s := slw 4 0 2 capU) (s' := slw 1 off 2 cap) (fun β w hR => ⟨lk_opq (K := KB) (L := [a, b]) (k := 4) hR rfl, lk_win (K := KB) (L := [a, b]) (k := 1) hR rfl hl hc⟩)
  have p1 := newA_calls (pairs_new h (by simp) (by simp [prsL])) false (ren_sv st) (fun _ _ => rfl) (k := 6) (H := [(1, KB.win off [a, b])]) rfl hs1
  have e2 := prs_mov (L := [a, b]) (by simp) (by simp) ha
  have p2 := newA_calls (pairs_new (L := ([a, b]).map (movB r)) hr (by simp) (by rw [e2]; simp [prsL])) false (ren_sv st) (fun _ _ => rfl) (k := 7) (H := [(3, KB.opq (([a, b]).map (movB r)))]) rfl hs3
  rw [e2] at p2
  have e3 : prsL [(a.1, g.2), (b.1, i.2)] = prsL [a, b] := rfl
  have p3 := newA_calls (pairs_new hv (by simp) (by simp [prsL])) false (ren_sv so) (fun _ _ => rfl) (k := 8) (H := [(5, KB.own [(a.1, g.2), (b.1, i.2)])]) rfl hs5
  rw [e3] at p3
  have z1 := semB_calls (psame_s (Q := prsL [a, b]) (by simp [prsL])) ren_pp rfl (H := [(7, KP.opq (prsL [a, b])), (6, KP.opq (prsL [a, b]))]) (s := slw 6 0 (prsL [a, b]).length capU) (s' := slw 7 0 (prsL [a, b]).length capU) (fun β w hR => ⟨lk_opq (K := KP) hR rfl, lk_opq (K := KP) hR rfl⟩)
  have z2 := semB_calls (psame_s (Q := prsL [a, b]) (by simp [prsL])) ren_pp rfl (H := [(6, KP.opq (prsL [a, b])), (8, KP.opq (prsL [a, b]))]) (s := slw 6 0 (prsL [a, b]).length capU) (s' := slw 8 0 (prsL [a, b]).length capU) (fun β w hR => ⟨lk_opq (K := KP) hR rfl, lk_opq (K := KP) hR rfl⟩)
  have right8 := rright_c h hs1
  have rightO := rright_c ho hs2
  exact runF_calls mix (mvl_2_2 st so off cap cap2 (cwx KB.fl off [a, b]) r (ngP r) (([a, b]).map (movB r)) [a, b] (prsL [a, b]) a b g i) ⟨right8, rightO, w15, neg_c r, w15b, w18, p1, p2, p3, w16, z1, z2, wakes_c, trivial⟩ rfl rfl
theorem mlaw_2_3 (a b g i j : Bd) (h : rightV st [a, b] = true) (ho : rightV so [g, i, j] = true) (hk : movOk st r [a, b] = true) (off cap cap2 : Nat) (hl : 2 ≤ cap) (hc : cap ≤ maxLen) (hl2 : 3 ≤ cap2) (hc2 : cap2 ≤ maxLen) :
    CallsV Try.prog (.func 4) #[sv st (slw 1 off 2 cap), sv so (slw 2 0 3 cap2), vv r] [(1, KB.win off [a, b]), (2, KB.seen [g, i, j])] (rt (bb true)) [] := by
  have hk' := hk
  unfold movOk at hk'
  rw [Bool.and_eq_true] at hk'
  obtain ⟨ha, hr⟩ := hk'
  obtain ⟨ha2, hback⟩ := back_all ha
  have hlen : (([a, b]).map (movB r)).length = 2 := rfl
  have hk2 : movOk st (ngP r) (([a, b]).map (movB r)) = true := by
    unfold movOk
    rw [ha2, hback, h]
    rfl
  have hs1 : ∀ β w, Rel (rng β [(1, KB.win off [a, b])]) w β [(1, KB.win off [a, b])] w → LieK KB w (ren β (slw 1 off 2 cap)) [a, b] := fun β w hR => lk_win (K := KB) (L := [a, b]) (k := 1) hR rfl hl hc
  have hs2 : ∀ β w, Rel (rng β [(2, KB.seen [g, i, j])]) w β [(2, KB.seen [g, i, j])] w → LieK KB w (ren β (slw 2 0 3 cap2)) [g, i, j] := fun β w hR => lk_seen (K := KB) (L := [g, i, j]) (k := 2) hR rfl hl2 hc2
  have hs3 : ∀ β w, Rel (rng β [(3, KB.opq (([a, b]).map (movB r)))]) w β [(3, KB.opq (([a, b]).map (movB r)))] w → LieK KB w (ren β (slw 3 0 2 capU)) (([a, b]).map (movB r)) := fun β w hR => lk_opq (K := KB) (L := ([a, b]).map (movB r)) (k := 3) hR rfl
  have hs5 : ∀ β w, Rel (rng β [(5, KB.own [(a.1, g.2), (b.1, i.2)])]) w β [(5, KB.own [(a.1, g.2), (b.1, i.2)])] w → LieK KB w (ren β (slw 5 0 2 capU)) [(a.1, g.2), (b.1, i.2)] := fun β w hR => lk_own (K := KB) (L := [(a.1, g.2), (b.1, i.2)]) (k := 5) hR rfl
  have w15 := newA_calls (moved_ok (mov_s r (L := [a, b]) (by simp) (by simp)) h (by simp) hk) false (ren_mv st r) (fun _ _ => rfl) (H := [(1, KB.win off [a, b])]) (k := 3) rfl hs1
  have w15b := newA_calls (moved_ok (mov_s (ngP r) (L := ([a, b]).map (movB r)) (st := st) (by simp) (by simp)) hr (by simp) hk2) false (ren_mv st (ngP r)) (fun _ _ => rfl) (H := [(3, KB.opq (([a, b]).map (movB r)))]) (k := 4) rfl hs3
  rw [hback] at w15b
  have w18 := newA_calls (down_new st (L := [a, b]) (by simp) (by simp)) true (ren_sv st) (fun _ _ => rfl) (H := [(1, KB.win off [a, b])]) (k := 5) rfl hs1
  have hv : rightV so [(a.1, g.2), (b.1, i.2)] = true := right_v (V := [(a.1, g.2), (b.1, i.2)]) h ho rfl (by simp)
  have w16 := semB_calls (same_s st (L := [a, b]) (by simp) (by simp)) (ren_ss st st) rfl (H := [(1, KB.win off [a, b]), (4, KB.opq [a, b])]) (s := slw 4 0 2 capU) (s' := slw 1 off 2 cap) (fun β w hR => ⟨lk_opq (K := KB) (L := [a, b]) (k := 4) hR rfl, lk_win (K := KB) (L := [a, b]) (k := 1) hR rfl hl hc⟩)
  have p1 := newA_calls (pairs_new h (by simp) (by simp [prsL])) false (ren_sv st) (fun _ _ => rfl) (k := 6) (H := [(1, KB.win off [a, b])]) rfl hs1
  have e2 := prs_mov (L := [a, b]) (by simp) (by simp) ha
  have p2 := newA_calls (pairs_new (L := ([a, b]).map (movB r)) hr (by simp) (by rw [e2]; simp [prsL])) false (ren_sv st) (fun _ _ => rfl) (k := 7) (H := [(3, KB.opq (([a, b]).map (movB r)))]) rfl hs3
  rw [e2] at p2
  have e3 : prsL [(a.1, g.2), (b.1, i.2)] = prsL [a, b] := rfl
  have p3 := newA_calls (pairs_new hv (by simp) (by simp [prsL])) false (ren_sv so) (fun _ _ => rfl) (k := 8) (H := [(5, KB.own [(a.1, g.2), (b.1, i.2)])]) rfl hs5
  rw [e3] at p3
  have z1 := semB_calls (psame_s (Q := prsL [a, b]) (by simp [prsL])) ren_pp rfl (H := [(7, KP.opq (prsL [a, b])), (6, KP.opq (prsL [a, b]))]) (s := slw 6 0 (prsL [a, b]).length capU) (s' := slw 7 0 (prsL [a, b]).length capU) (fun β w hR => ⟨lk_opq (K := KP) hR rfl, lk_opq (K := KP) hR rfl⟩)
  have z2 := semB_calls (psame_s (Q := prsL [a, b]) (by simp [prsL])) ren_pp rfl (H := [(6, KP.opq (prsL [a, b])), (8, KP.opq (prsL [a, b]))]) (s := slw 6 0 (prsL [a, b]).length capU) (s' := slw 8 0 (prsL [a, b]).length capU) (fun β w hR => ⟨lk_opq (K := KP) hR rfl, lk_opq (K := KP) hR rfl⟩)
  have right8 := rright_c h hs1
  have rightO := rright_c ho hs2
  exact runF_calls mix (mvl_2_3 st so off cap cap2 (cwx KB.fl off [a, b]) r (ngP r) (([a, b]).map (movB r)) [a, b] (prsL [a, b]) a b g i j) ⟨right8, rightO, w15, neg_c r, w15b, w18, p1, p2, p3, w16, z1, z2, wakes_c, trivial⟩ rfl rfl
theorem mlaw_2_4 (a b g i j k : Bd) (h : rightV st [a, b] = true) (ho : rightV so [g, i, j, k] = true) (hk : movOk st r [a, b] = true) (off cap cap2 : Nat) (hl : 2 ≤ cap) (hc : cap ≤ maxLen) (hl2 : 4 ≤ cap2) (hc2 : cap2 ≤ maxLen) :
    CallsV Try.prog (.func 4) #[sv st (slw 1 off 2 cap), sv so (slw 2 0 4 cap2), vv r] [(1, KB.win off [a, b]), (2, KB.seen [g, i, j, k])] (rt (bb true)) [] := by
  have hk' := hk
  unfold movOk at hk'
  rw [Bool.and_eq_true] at hk'
  obtain ⟨ha, hr⟩ := hk'
  obtain ⟨ha2, hback⟩ := back_all ha
  have hlen : (([a, b]).map (movB r)).length = 2 := rfl
  have hk2 : movOk st (ngP r) (([a, b]).map (movB r)) = true := by
    unfold movOk
    rw [ha2, hback, h]
    rfl
  have hs1 : ∀ β w, Rel (rng β [(1, KB.win off [a, b])]) w β [(1, KB.win off [a, b])] w → LieK KB w (ren β (slw 1 off 2 cap)) [a, b] := fun β w hR => lk_win (K := KB) (L := [a, b]) (k := 1) hR rfl hl hc
  have hs2 : ∀ β w, Rel (rng β [(2, KB.seen [g, i, j, k])]) w β [(2, KB.seen [g, i, j, k])] w → LieK KB w (ren β (slw 2 0 4 cap2)) [g, i, j, k] := fun β w hR => lk_seen (K := KB) (L := [g, i, j, k]) (k := 2) hR rfl hl2 hc2
  have hs3 : ∀ β w, Rel (rng β [(3, KB.opq (([a, b]).map (movB r)))]) w β [(3, KB.opq (([a, b]).map (movB r)))] w → LieK KB w (ren β (slw 3 0 2 capU)) (([a, b]).map (movB r)) := fun β w hR => lk_opq (K := KB) (L := ([a, b]).map (movB r)) (k := 3) hR rfl
  have hs5 : ∀ β w, Rel (rng β [(5, KB.own [(a.1, g.2), (b.1, i.2)])]) w β [(5, KB.own [(a.1, g.2), (b.1, i.2)])] w → LieK KB w (ren β (slw 5 0 2 capU)) [(a.1, g.2), (b.1, i.2)] := fun β w hR => lk_own (K := KB) (L := [(a.1, g.2), (b.1, i.2)]) (k := 5) hR rfl
  have w15 := newA_calls (moved_ok (mov_s r (L := [a, b]) (by simp) (by simp)) h (by simp) hk) false (ren_mv st r) (fun _ _ => rfl) (H := [(1, KB.win off [a, b])]) (k := 3) rfl hs1
  have w15b := newA_calls (moved_ok (mov_s (ngP r) (L := ([a, b]).map (movB r)) (st := st) (by simp) (by simp)) hr (by simp) hk2) false (ren_mv st (ngP r)) (fun _ _ => rfl) (H := [(3, KB.opq (([a, b]).map (movB r)))]) (k := 4) rfl hs3
  rw [hback] at w15b
  have w18 := newA_calls (down_new st (L := [a, b]) (by simp) (by simp)) true (ren_sv st) (fun _ _ => rfl) (H := [(1, KB.win off [a, b])]) (k := 5) rfl hs1
  have hv : rightV so [(a.1, g.2), (b.1, i.2)] = true := right_v (V := [(a.1, g.2), (b.1, i.2)]) h ho rfl (by simp)
  have w16 := semB_calls (same_s st (L := [a, b]) (by simp) (by simp)) (ren_ss st st) rfl (H := [(1, KB.win off [a, b]), (4, KB.opq [a, b])]) (s := slw 4 0 2 capU) (s' := slw 1 off 2 cap) (fun β w hR => ⟨lk_opq (K := KB) (L := [a, b]) (k := 4) hR rfl, lk_win (K := KB) (L := [a, b]) (k := 1) hR rfl hl hc⟩)
  have p1 := newA_calls (pairs_new h (by simp) (by simp [prsL])) false (ren_sv st) (fun _ _ => rfl) (k := 6) (H := [(1, KB.win off [a, b])]) rfl hs1
  have e2 := prs_mov (L := [a, b]) (by simp) (by simp) ha
  have p2 := newA_calls (pairs_new (L := ([a, b]).map (movB r)) hr (by simp) (by rw [e2]; simp [prsL])) false (ren_sv st) (fun _ _ => rfl) (k := 7) (H := [(3, KB.opq (([a, b]).map (movB r)))]) rfl hs3
  rw [e2] at p2
  have e3 : prsL [(a.1, g.2), (b.1, i.2)] = prsL [a, b] := rfl
  have p3 := newA_calls (pairs_new hv (by simp) (by simp [prsL])) false (ren_sv so) (fun _ _ => rfl) (k := 8) (H := [(5, KB.own [(a.1, g.2), (b.1, i.2)])]) rfl hs5
  rw [e3] at p3
  have z1 := semB_calls (psame_s (Q := prsL [a, b]) (by simp [prsL])) ren_pp rfl (H := [(7, KP.opq (prsL [a, b])), (6, KP.opq (prsL [a, b]))]) (s := slw 6 0 (prsL [a, b]).length capU) (s' := slw 7 0 (prsL [a, b]).length capU) (fun β w hR => ⟨lk_opq (K := KP) hR rfl, lk_opq (K := KP) hR rfl⟩)
  have z2 := semB_calls (psame_s (Q := prsL [a, b]) (by simp [prsL])) ren_pp rfl (H := [(6, KP.opq (prsL [a, b])), (8, KP.opq (prsL [a, b]))]) (s := slw 6 0 (prsL [a, b]).length capU) (s' := slw 8 0 (prsL [a, b]).length capU) (fun β w hR => ⟨lk_opq (K := KP) hR rfl, lk_opq (K := KP) hR rfl⟩)
  have right8 := rright_c h hs1
  have rightO := rright_c ho hs2
  exact runF_calls mix (mvl_2_4 st so off cap cap2 (cwx KB.fl off [a, b]) r (ngP r) (([a, b]).map (movB r)) [a, b] (prsL [a, b]) a b g i j k) ⟨right8, rightO, w15, neg_c r, w15b, w18, p1, p2, p3, w16, z1, z2, wakes_c, trivial⟩ rfl rfl
theorem mlaw_3_1 (a b d g : Bd) (h : rightV st [a, b, d] = true) (ho : rightV so [g] = true) (hk : movOk st r [a, b, d] = true) (off cap cap2 : Nat) (hl : 3 ≤ cap) (hc : cap ≤ maxLen) (hl2 : 1 ≤ cap2) (hc2 : cap2 ≤ maxLen) :
    CallsV Try.prog (.func 4) #[sv st (slw 1 off 3 cap), sv so (slw 2 0 1 cap2), vv r] [(1, KB.win off [a, b, d]), (2, KB.seen [g])] (rt (bb true)) [] := by
  have hk' := hk
  unfold movOk at hk'
  rw [Bool.and_eq_true] at hk'
  obtain ⟨ha, hr⟩ := hk'
  obtain ⟨ha2, hback⟩ := back_all ha
  have hlen : (([a, b, d]).map (movB r)).length = 3 := rfl
  have hk2 : movOk st (ngP r) (([a, b, d]).map (movB r)) = true := by
    unfold movOk
    rw [ha2, hback, h]
    rfl
  have hs1 : ∀ β w, Rel (rng β [(1, KB.win off [a, b, d])]) w β [(1, KB.win off [a, b, d])] w → LieK KB w (ren β (slw 1 off 3 cap)) [a, b, d] := fun β w hR => lk_win (K := KB) (L := [a, b, d]) (k := 1) hR rfl hl hc
  have hs2 : ∀ β w, Rel (rng β [(2, KB.seen [g])]) w β [(2, KB.seen [g])] w → LieK KB w (ren β (slw 2 0 1 cap2)) [g] := fun β w hR => lk_seen (K := KB) (L := [g]) (k := 2) hR rfl hl2 hc2
  have hs3 : ∀ β w, Rel (rng β [(3, KB.opq (([a, b, d]).map (movB r)))]) w β [(3, KB.opq (([a, b, d]).map (movB r)))] w → LieK KB w (ren β (slw 3 0 3 capU)) (([a, b, d]).map (movB r)) := fun β w hR => lk_opq (K := KB) (L := ([a, b, d]).map (movB r)) (k := 3) hR rfl
  have hs5 : ∀ β w, Rel (rng β [(5, KB.own [(a.1, g.2), b, d])]) w β [(5, KB.own [(a.1, g.2), b, d])] w → LieK KB w (ren β (slw 5 0 3 capU)) [(a.1, g.2), b, d] := fun β w hR => lk_own (K := KB) (L := [(a.1, g.2), b, d]) (k := 5) hR rfl
  have w15 := newA_calls (moved_ok (mov_s r (L := [a, b, d]) (by simp) (by simp)) h (by simp) hk) false (ren_mv st r) (fun _ _ => rfl) (H := [(1, KB.win off [a, b, d])]) (k := 3) rfl hs1
  have w15b := newA_calls (moved_ok (mov_s (ngP r) (L := ([a, b, d]).map (movB r)) (st := st) (by simp) (by simp)) hr (by simp) hk2) false (ren_mv st (ngP r)) (fun _ _ => rfl) (H := [(3, KB.opq (([a, b, d]).map (movB r)))]) (k := 4) rfl hs3
  rw [hback] at w15b
  have w18 := newA_calls (down_new st (L := [a, b, d]) (by simp) (by simp)) true (ren_sv st) (fun _ _ => rfl) (H := [(1, KB.win off [a, b, d])]) (k := 5) rfl hs1
  have hv : rightV so [(a.1, g.2), b, d] = true := right_v (V := [(a.1, g.2), b, d]) h ho rfl (by simp)
  have w16 := semB_calls (same_s st (L := [a, b, d]) (by simp) (by simp)) (ren_ss st st) rfl (H := [(1, KB.win off [a, b, d]), (4, KB.opq [a, b, d])]) (s := slw 4 0 3 capU) (s' := slw 1 off 3 cap) (fun β w hR => ⟨lk_opq (K := KB) (L := [a, b, d]) (k := 4) hR rfl, lk_win (K := KB) (L := [a, b, d]) (k := 1) hR rfl hl hc⟩)
  have p1 := newA_calls (pairs_new h (by simp) (by simp [prsL])) false (ren_sv st) (fun _ _ => rfl) (k := 6) (H := [(1, KB.win off [a, b, d])]) rfl hs1
  have e2 := prs_mov (L := [a, b, d]) (by simp) (by simp) ha
  have p2 := newA_calls (pairs_new (L := ([a, b, d]).map (movB r)) hr (by simp) (by rw [e2]; simp [prsL])) false (ren_sv st) (fun _ _ => rfl) (k := 7) (H := [(3, KB.opq (([a, b, d]).map (movB r)))]) rfl hs3
  rw [e2] at p2
  have e3 : prsL [(a.1, g.2), b, d] = prsL [a, b, d] := rfl
  have p3 := newA_calls (pairs_new hv (by simp) (by simp [prsL])) false (ren_sv so) (fun _ _ => rfl) (k := 8) (H := [(5, KB.own [(a.1, g.2), b, d])]) rfl hs5
  rw [e3] at p3
  have z1 := semB_calls (psame_s (Q := prsL [a, b, d]) (by simp [prsL])) ren_pp rfl (H := [(7, KP.opq (prsL [a, b, d])), (6, KP.opq (prsL [a, b, d]))]) (s := slw 6 0 (prsL [a, b, d]).length capU) (s' := slw 7 0 (prsL [a, b, d]).length capU) (fun β w hR => ⟨lk_opq (K := KP) hR rfl, lk_opq (K := KP) hR rfl⟩)
  have z2 := semB_calls (psame_s (Q := prsL [a, b, d]) (by simp [prsL])) ren_pp rfl (H := [(6, KP.opq (prsL [a, b, d])), (8, KP.opq (prsL [a, b, d]))]) (s := slw 6 0 (prsL [a, b, d]).length capU) (s' := slw 8 0 (prsL [a, b, d]).length capU) (fun β w hR => ⟨lk_opq (K := KP) hR rfl, lk_opq (K := KP) hR rfl⟩)
  have right8 := rright_c h hs1
  have rightO := rright_c ho hs2
  exact runF_calls mix (mvl_3_1 st so off cap cap2 (cwx KB.fl off [a, b, d]) r (ngP r) (([a, b, d]).map (movB r)) [a, b, d] (prsL [a, b, d]) a b d g) ⟨right8, rightO, w15, neg_c r, w15b, w18, p1, p2, p3, w16, z1, z2, wakes_c, trivial⟩ rfl rfl
theorem mlaw_3_2 (a b d g i : Bd) (h : rightV st [a, b, d] = true) (ho : rightV so [g, i] = true) (hk : movOk st r [a, b, d] = true) (off cap cap2 : Nat) (hl : 3 ≤ cap) (hc : cap ≤ maxLen) (hl2 : 2 ≤ cap2) (hc2 : cap2 ≤ maxLen) :
    CallsV Try.prog (.func 4) #[sv st (slw 1 off 3 cap), sv so (slw 2 0 2 cap2), vv r] [(1, KB.win off [a, b, d]), (2, KB.seen [g, i])] (rt (bb true)) [] := by
  have hk' := hk
  unfold movOk at hk'
  rw [Bool.and_eq_true] at hk'
  obtain ⟨ha, hr⟩ := hk'
  obtain ⟨ha2, hback⟩ := back_all ha
  have hlen : (([a, b, d]).map (movB r)).length = 3 := rfl
  have hk2 : movOk st (ngP r) (([a, b, d]).map (movB r)) = true := by
    unfold movOk
    rw [ha2, hback, h]
    rfl
  have hs1 : ∀ β w, Rel (rng β [(1, KB.win off [a, b, d])]) w β [(1, KB.win off [a, b, d])] w → LieK KB w (ren β (slw 1 off 3 cap)) [a, b, d] := fun β w hR => lk_win (K := KB) (L := [a, b, d]) (k := 1) hR rfl hl hc
  have hs2 : ∀ β w, Rel (rng β [(2, KB.seen [g, i])]) w β [(2, KB.seen [g, i])] w → LieK KB w (ren β (slw 2 0 2 cap2)) [g, i] := fun β w hR => lk_seen (K := KB) (L := [g, i]) (k := 2) hR rfl hl2 hc2
  have hs3 : ∀ β w, Rel (rng β [(3, KB.opq (([a, b, d]).map (movB r)))]) w β [(3, KB.opq (([a, b, d]).map (movB r)))] w → LieK KB w (ren β (slw 3 0 3 capU)) (([a, b, d]).map (movB r)) := fun β w hR => lk_opq (K := KB) (L := ([a, b, d]).map (movB r)) (k := 3) hR rfl
  have hs5 : ∀ β w, Rel (rng β [(5, KB.own [(a.1, g.2), (b.1, i.2), d])]) w β [(5, KB.own [(a.1, g.2), (b.1, i.2), d])] w → LieK KB w (ren β (slw 5 0 3 capU)) [(a.1, g.2), (b.1, i.2), d] := fun β w hR => lk_own (K := KB) (L := [(a.1, g.2), (b.1, i.2), d]) (k := 5) hR rfl
  have w15 := newA_calls (moved_ok (mov_s r (L := [a, b, d]) (by simp) (by simp)) h (by simp) hk) false (ren_mv st r) (fun _ _ => rfl) (H := [(1, KB.win off [a, b, d])]) (k := 3) rfl hs1
  have w15b := newA_calls (moved_ok (mov_s (ngP r) (L := ([a, b, d]).map (movB r)) (st := st) (by simp) (by simp)) hr (by simp) hk2) false (ren_mv st (ngP r)) (fun _ _ => rfl) (H := [(3, KB.opq (([a, b, d]).map (movB r)))]) (k := 4) rfl hs3
  rw [hback] at w15b
  have w18 := newA_calls (down_new st (L := [a, b, d]) (by simp) (by simp)) true (ren_sv st) (fun _ _ => rfl) (H := [(1, KB.win off [a, b, d])]) (k := 5) rfl hs1
  have hv : rightV so [(a.1, g.2), (b.1, i.2), d] = true := right_v (V := [(a.1, g.2), (b.1, i.2), d]) h ho rfl (by simp)
  have w16 := semB_calls (same_s st (L := [a, b, d]) (by simp) (by simp)) (ren_ss st st) rfl (H := [(1, KB.win off [a, b, d]), (4, KB.opq [a, b, d])]) (s := slw 4 0 3 capU) (s' := slw 1 off 3 cap) (fun β w hR => ⟨lk_opq (K := KB) (L := [a, b, d]) (k := 4) hR rfl, lk_win (K := KB) (L := [a, b, d]) (k := 1) hR rfl hl hc⟩)
  have p1 := newA_calls (pairs_new h (by simp) (by simp [prsL])) false (ren_sv st) (fun _ _ => rfl) (k := 6) (H := [(1, KB.win off [a, b, d])]) rfl hs1
  have e2 := prs_mov (L := [a, b, d]) (by simp) (by simp) ha
  have p2 := newA_calls (pairs_new (L := ([a, b, d]).map (movB r)) hr (by simp) (by rw [e2]; simp [prsL])) false (ren_sv st) (fun _ _ => rfl) (k := 7) (H := [(3, KB.opq (([a, b, d]).map (movB r)))]) rfl hs3
  rw [e2] at p2
  have e3 : prsL [(a.1, g.2), (b.1, i.2), d] = prsL [a, b, d] := rfl
  have p3 := newA_calls (pairs_new hv (by simp) (by simp [prsL])) false (ren_sv so) (fun _ _ => rfl) (k := 8) (H := [(5, KB.own [(a.1, g.2), (b.1, i.2), d])]) rfl hs5
  rw [e3] at p3
  have z1 := semB_calls (psame_s (Q := prsL [a, b, d]) (by simp [prsL])) ren_pp rfl (H := [(7, KP.opq (prsL [a, b, d])), (6, KP.opq (prsL [a, b, d]))]) (s := slw 6 0 (prsL [a, b, d]).length capU) (s' := slw 7 0 (prsL [a, b, d]).length capU) (fun β w hR => ⟨lk_opq (K := KP) hR rfl, lk_opq (K := KP) hR rfl⟩)
  have z2 := semB_calls (psame_s (Q := prsL [a, b, d]) (by simp [prsL])) ren_pp rfl (H := [(6, KP.opq (prsL [a, b, d])), (8, KP.opq (prsL [a, b, d]))]) (s := slw 6 0 (prsL [a, b, d]).length capU) (s' := slw 8 0 (prsL [a, b, d]).length capU) (fun β w hR => ⟨lk_opq (K := KP) hR rfl, lk_opq (K := KP) hR rfl⟩)
  have right8 := rright_c h hs1
  have rightO := rright_c ho hs2
  exact runF_calls mix (mvl_3_2 st so off cap cap2 (cwx KB.fl off [a, b, d]) r (ngP r) (([a, b, d]).map (movB r)) [a, b, d] (prsL [a, b, d]) a b d g i) ⟨right8, rightO, w15, neg_c r, w15b, w18, p1, p2, p3, w16, z1, z2, wakes_c, trivial⟩ rfl rfl
theorem mlaw_3_3 (a b d g i j : Bd) (h : rightV st [a, b, d] = true) (ho : rightV so [g, i, j] = true) (hk : movOk st r [a, b, d] = true) (off cap cap2 : Nat) (hl : 3 ≤ cap) (hc : cap ≤ maxLen) (hl2 : 3 ≤ cap2) (hc2 : cap2 ≤ maxLen) :
    CallsV Try.prog (.func 4) #[sv st (slw 1 off 3 cap), sv so (slw 2 0 3 cap2), vv r] [(1, KB.win off [a, b, d]), (2, KB.seen [g, i, j])] (rt (bb true)) [] := by
  have hk' := hk
  unfold movOk at hk'
  rw [Bool.and_eq_true] at hk'
  obtain ⟨ha, hr⟩ := hk'
  obtain ⟨ha2, hback⟩ := back_all ha
  have hlen : (([a, b, d]).map (movB r)).length = 3 := rfl
  have hk2 : movOk st (ngP r) (([a, b, d]).map (movB r)) = true := by
    unfold movOk
    rw [ha2, hback, h]
    rfl
  have hs1 : ∀ β w, Rel (rng β [(1, KB.win off [a, b, d])]) w β [(1, KB.win off [a, b, d])] w → LieK KB w (ren β (slw 1 off 3 cap)) [a, b, d] := fun β w hR => lk_win (K := KB) (L := [a, b, d]) (k := 1) hR rfl hl hc
  have hs2 : ∀ β w, Rel (rng β [(2, KB.seen [g, i, j])]) w β [(2, KB.seen [g, i, j])] w → LieK KB w (ren β (slw 2 0 3 cap2)) [g, i, j] := fun β w hR => lk_seen (K := KB) (L := [g, i, j]) (k := 2) hR rfl hl2 hc2
  have hs3 : ∀ β w, Rel (rng β [(3, KB.opq (([a, b, d]).map (movB r)))]) w β [(3, KB.opq (([a, b, d]).map (movB r)))] w → LieK KB w (ren β (slw 3 0 3 capU)) (([a, b, d]).map (movB r)) := fun β w hR => lk_opq (K := KB) (L := ([a, b, d]).map (movB r)) (k := 3) hR rfl
  have hs5 : ∀ β w, Rel (rng β [(5, KB.own [(a.1, g.2), (b.1, i.2), (d.1, j.2)])]) w β [(5, KB.own [(a.1, g.2), (b.1, i.2), (d.1, j.2)])] w → LieK KB w (ren β (slw 5 0 3 capU)) [(a.1, g.2), (b.1, i.2), (d.1, j.2)] := fun β w hR => lk_own (K := KB) (L := [(a.1, g.2), (b.1, i.2), (d.1, j.2)]) (k := 5) hR rfl
  have w15 := newA_calls (moved_ok (mov_s r (L := [a, b, d]) (by simp) (by simp)) h (by simp) hk) false (ren_mv st r) (fun _ _ => rfl) (H := [(1, KB.win off [a, b, d])]) (k := 3) rfl hs1
  have w15b := newA_calls (moved_ok (mov_s (ngP r) (L := ([a, b, d]).map (movB r)) (st := st) (by simp) (by simp)) hr (by simp) hk2) false (ren_mv st (ngP r)) (fun _ _ => rfl) (H := [(3, KB.opq (([a, b, d]).map (movB r)))]) (k := 4) rfl hs3
  rw [hback] at w15b
  have w18 := newA_calls (down_new st (L := [a, b, d]) (by simp) (by simp)) true (ren_sv st) (fun _ _ => rfl) (H := [(1, KB.win off [a, b, d])]) (k := 5) rfl hs1
  have hv : rightV so [(a.1, g.2), (b.1, i.2), (d.1, j.2)] = true := right_v (V := [(a.1, g.2), (b.1, i.2), (d.1, j.2)]) h ho rfl (by simp)
  have w16 := semB_calls (same_s st (L := [a, b, d]) (by simp) (by simp)) (ren_ss st st) rfl (H := [(1, KB.win off [a, b, d]), (4, KB.opq [a, b, d])]) (s := slw 4 0 3 capU) (s' := slw 1 off 3 cap) (fun β w hR => ⟨lk_opq (K := KB) (L := [a, b, d]) (k := 4) hR rfl, lk_win (K := KB) (L := [a, b, d]) (k := 1) hR rfl hl hc⟩)
  have p1 := newA_calls (pairs_new h (by simp) (by simp [prsL])) false (ren_sv st) (fun _ _ => rfl) (k := 6) (H := [(1, KB.win off [a, b, d])]) rfl hs1
  have e2 := prs_mov (L := [a, b, d]) (by simp) (by simp) ha
  have p2 := newA_calls (pairs_new (L := ([a, b, d]).map (movB r)) hr (by simp) (by rw [e2]; simp [prsL])) false (ren_sv st) (fun _ _ => rfl) (k := 7) (H := [(3, KB.opq (([a, b, d]).map (movB r)))]) rfl hs3
  rw [e2] at p2
  have e3 : prsL [(a.1, g.2), (b.1, i.2), (d.1, j.2)] = prsL [a, b, d] := rfl
  have p3 := newA_calls (pairs_new hv (by simp) (by simp [prsL])) false (ren_sv so) (fun _ _ => rfl) (k := 8) (H := [(5, KB.own [(a.1, g.2), (b.1, i.2), (d.1, j.2)])]) rfl hs5
  rw [e3] at p3
  have z1 := semB_calls (psame_s (Q := prsL [a, b, d]) (by simp [prsL])) ren_pp rfl (H := [(7, KP.opq (prsL [a, b, d])), (6, KP.opq (prsL [a, b, d]))]) (s := slw 6 0 (prsL [a, b, d]).length capU) (s' := slw 7 0 (prsL [a, b, d]).length capU) (fun β w hR => ⟨lk_opq (K := KP) hR rfl, lk_opq (K := KP) hR rfl⟩)
  have z2 := semB_calls (psame_s (Q := prsL [a, b, d]) (by simp [prsL])) ren_pp rfl (H := [(6, KP.opq (prsL [a, b, d])), (8, KP.opq (prsL [a, b, d]))]) (s := slw 6 0 (prsL [a, b, d]).length capU) (s' := slw 8 0 (prsL [a, b, d]).length capU) (fun β w hR => ⟨lk_opq (K := KP) hR rfl, lk_opq (K := KP) hR rfl⟩)
  have right8 := rright_c h hs1
  have rightO := rright_c ho hs2
  exact runF_calls mix (mvl_3_3 st so off cap cap2 (cwx KB.fl off [a, b, d]) r (ngP r) (([a, b, d]).map (movB r)) [a, b, d] (prsL [a, b, d]) a b d g i j) ⟨right8, rightO, w15, neg_c r, w15b, w18, p1, p2, p3, w16, z1, z2, wakes_c, trivial⟩ rfl rfl
theorem mlaw_3_4 (a b d g i j k : Bd) (h : rightV st [a, b, d] = true) (ho : rightV so [g, i, j, k] = true) (hk : movOk st r [a, b, d] = true) (off cap cap2 : Nat) (hl : 3 ≤ cap) (hc : cap ≤ maxLen) (hl2 : 4 ≤ cap2) (hc2 : cap2 ≤ maxLen) :
    CallsV Try.prog (.func 4) #[sv st (slw 1 off 3 cap), sv so (slw 2 0 4 cap2), vv r] [(1, KB.win off [a, b, d]), (2, KB.seen [g, i, j, k])] (rt (bb true)) [] := by
  have hk' := hk
  unfold movOk at hk'
  rw [Bool.and_eq_true] at hk'
  obtain ⟨ha, hr⟩ := hk'
  obtain ⟨ha2, hback⟩ := back_all ha
  have hlen : (([a, b, d]).map (movB r)).length = 3 := rfl
  have hk2 : movOk st (ngP r) (([a, b, d]).map (movB r)) = true := by
    unfold movOk
    rw [ha2, hback, h]
    rfl
  have hs1 : ∀ β w, Rel (rng β [(1, KB.win off [a, b, d])]) w β [(1, KB.win off [a, b, d])] w → LieK KB w (ren β (slw 1 off 3 cap)) [a, b, d] := fun β w hR => lk_win (K := KB) (L := [a, b, d]) (k := 1) hR rfl hl hc
  have hs2 : ∀ β w, Rel (rng β [(2, KB.seen [g, i, j, k])]) w β [(2, KB.seen [g, i, j, k])] w → LieK KB w (ren β (slw 2 0 4 cap2)) [g, i, j, k] := fun β w hR => lk_seen (K := KB) (L := [g, i, j, k]) (k := 2) hR rfl hl2 hc2
  have hs3 : ∀ β w, Rel (rng β [(3, KB.opq (([a, b, d]).map (movB r)))]) w β [(3, KB.opq (([a, b, d]).map (movB r)))] w → LieK KB w (ren β (slw 3 0 3 capU)) (([a, b, d]).map (movB r)) := fun β w hR => lk_opq (K := KB) (L := ([a, b, d]).map (movB r)) (k := 3) hR rfl
  have hs5 : ∀ β w, Rel (rng β [(5, KB.own [(a.1, g.2), (b.1, i.2), (d.1, j.2)])]) w β [(5, KB.own [(a.1, g.2), (b.1, i.2), (d.1, j.2)])] w → LieK KB w (ren β (slw 5 0 3 capU)) [(a.1, g.2), (b.1, i.2), (d.1, j.2)] := fun β w hR => lk_own (K := KB) (L := [(a.1, g.2), (b.1, i.2), (d.1, j.2)]) (k := 5) hR rfl
  have w15 := newA_calls (moved_ok (mov_s r (L := [a, b, d]) (by simp) (by simp)) h (by simp) hk) false (ren_mv st r) (fun _ _ => rfl) (H := [(1, KB.win off [a, b, d])]) (k := 3) rfl hs1
  have w15b := newA_calls (moved_ok (mov_s (ngP r) (L := ([a, b, d]).map (movB r)) (st := st) (by simp) (by simp)) hr (by simp) hk2) false (ren_mv st (ngP r)) (fun _ _ => rfl) (H := [(3, KB.opq (([a, b, d]).map (movB r)))]) (k := 4) rfl hs3
  rw [hback] at w15b
  have w18 := newA_calls (down_new st (L := [a, b, d]) (by simp) (by simp)) true (ren_sv st) (fun _ _ => rfl) (H := [(1, KB.win off [a, b, d])]) (k := 5) rfl hs1
  have hv : rightV so [(a.1, g.2), (b.1, i.2), (d.1, j.2)] = true := right_v (V := [(a.1, g.2), (b.1, i.2), (d.1, j.2)]) h ho rfl (by simp)
  have w16 := semB_calls (same_s st (L := [a, b, d]) (by simp) (by simp)) (ren_ss st st) rfl (H := [(1, KB.win off [a, b, d]), (4, KB.opq [a, b, d])]) (s := slw 4 0 3 capU) (s' := slw 1 off 3 cap) (fun β w hR => ⟨lk_opq (K := KB) (L := [a, b, d]) (k := 4) hR rfl, lk_win (K := KB) (L := [a, b, d]) (k := 1) hR rfl hl hc⟩)
  have p1 := newA_calls (pairs_new h (by simp) (by simp [prsL])) false (ren_sv st) (fun _ _ => rfl) (k := 6) (H := [(1, KB.win off [a, b, d])]) rfl hs1
  have e2 := prs_mov (L := [a, b, d]) (by simp) (by simp) ha
  have p2 := newA_calls (pairs_new (L := ([a, b, d]).map (movB r)) hr (by simp) (by rw [e2]; simp [prsL])) false (ren_sv st) (fun _ _ => rfl) (k := 7) (H := [(3, KB.opq (([a, b, d]).map (movB r)))]) rfl hs3
  rw [e2] at p2
  have e3 : prsL [(a.1, g.2), (b.1, i.2), (d.1, j.2)] = prsL [a, b, d] := rfl
  have p3 := newA_calls (pairs_new hv (by simp) (by simp [prsL])) false (ren_sv so) (fun _ _ => rfl) (k := 8) (H := [(5, KB.own [(a.1, g.2), (b.1, i.2), (d.1, j.2)])]) rfl hs5
  rw [e3] at p3
  have z1 := semB_calls (psame_s (Q := prsL [a, b, d]) (by simp [prsL])) ren_pp rfl (H := [(7, KP.opq (prsL [a, b, d])), (6, KP.opq (prsL [a, b, d]))]) (s := slw 6 0 (prsL [a, b, d]).length capU) (s' := slw 7 0 (prsL [a, b, d]).length capU) (fun β w hR => ⟨lk_opq (K := KP) hR rfl, lk_opq (K := KP) hR rfl⟩)
  have z2 := semB_calls (psame_s (Q := prsL [a, b, d]) (by simp [prsL])) ren_pp rfl (H := [(6, KP.opq (prsL [a, b, d])), (8, KP.opq (prsL [a, b, d]))]) (s := slw 6 0 (prsL [a, b, d]).length capU) (s' := slw 8 0 (prsL [a, b, d]).length capU) (fun β w hR => ⟨lk_opq (K := KP) hR rfl, lk_opq (K := KP) hR rfl⟩)
  have right8 := rright_c h hs1
  have rightO := rright_c ho hs2
  exact runF_calls mix (mvl_3_4 st so off cap cap2 (cwx KB.fl off [a, b, d]) r (ngP r) (([a, b, d]).map (movB r)) [a, b, d] (prsL [a, b, d]) a b d g i j k) ⟨right8, rightO, w15, neg_c r, w15b, w18, p1, p2, p3, w16, z1, z2, wakes_c, trivial⟩ rfl rfl
theorem mlaw_4_1 (a b d e g : Bd) (h : rightV st [a, b, d, e] = true) (ho : rightV so [g] = true) (hk : movOk st r [a, b, d, e] = true) (off cap cap2 : Nat) (hl : 4 ≤ cap) (hc : cap ≤ maxLen) (hl2 : 1 ≤ cap2) (hc2 : cap2 ≤ maxLen) :
    CallsV Try.prog (.func 4) #[sv st (slw 1 off 4 cap), sv so (slw 2 0 1 cap2), vv r] [(1, KB.win off [a, b, d, e]), (2, KB.seen [g])] (rt (bb true)) [] := by
  have hk' := hk
  unfold movOk at hk'
  rw [Bool.and_eq_true] at hk'
  obtain ⟨ha, hr⟩ := hk'
  obtain ⟨ha2, hback⟩ := back_all ha
  have hlen : (([a, b, d, e]).map (movB r)).length = 4 := rfl
  have hk2 : movOk st (ngP r) (([a, b, d, e]).map (movB r)) = true := by
    unfold movOk
    rw [ha2, hback, h]
    rfl
  have hs1 : ∀ β w, Rel (rng β [(1, KB.win off [a, b, d, e])]) w β [(1, KB.win off [a, b, d, e])] w → LieK KB w (ren β (slw 1 off 4 cap)) [a, b, d, e] := fun β w hR => lk_win (K := KB) (L := [a, b, d, e]) (k := 1) hR rfl hl hc
  have hs2 : ∀ β w, Rel (rng β [(2, KB.seen [g])]) w β [(2, KB.seen [g])] w → LieK KB w (ren β (slw 2 0 1 cap2)) [g] := fun β w hR => lk_seen (K := KB) (L := [g]) (k := 2) hR rfl hl2 hc2
  have hs3 : ∀ β w, Rel (rng β [(3, KB.opq (([a, b, d, e]).map (movB r)))]) w β [(3, KB.opq (([a, b, d, e]).map (movB r)))] w → LieK KB w (ren β (slw 3 0 4 capU)) (([a, b, d, e]).map (movB r)) := fun β w hR => lk_opq (K := KB) (L := ([a, b, d, e]).map (movB r)) (k := 3) hR rfl
  have hs5 : ∀ β w, Rel (rng β [(5, KB.own [(a.1, g.2), b, d, e])]) w β [(5, KB.own [(a.1, g.2), b, d, e])] w → LieK KB w (ren β (slw 5 0 4 capU)) [(a.1, g.2), b, d, e] := fun β w hR => lk_own (K := KB) (L := [(a.1, g.2), b, d, e]) (k := 5) hR rfl
  have w15 := newA_calls (moved_ok (mov_s r (L := [a, b, d, e]) (by simp) (by simp)) h (by simp) hk) false (ren_mv st r) (fun _ _ => rfl) (H := [(1, KB.win off [a, b, d, e])]) (k := 3) rfl hs1
  have w15b := newA_calls (moved_ok (mov_s (ngP r) (L := ([a, b, d, e]).map (movB r)) (st := st) (by simp) (by simp)) hr (by simp) hk2) false (ren_mv st (ngP r)) (fun _ _ => rfl) (H := [(3, KB.opq (([a, b, d, e]).map (movB r)))]) (k := 4) rfl hs3
  rw [hback] at w15b
  have w18 := newA_calls (down_new st (L := [a, b, d, e]) (by simp) (by simp)) true (ren_sv st) (fun _ _ => rfl) (H := [(1, KB.win off [a, b, d, e])]) (k := 5) rfl hs1
  have hv : rightV so [(a.1, g.2), b, d, e] = true := right_v (V := [(a.1, g.2), b, d, e]) h ho rfl (by simp)
  have w16 := semB_calls (same_s st (L := [a, b, d, e]) (by simp) (by simp)) (ren_ss st st) rfl (H := [(1, KB.win off [a, b, d, e]), (4, KB.opq [a, b, d, e])]) (s := slw 4 0 4 capU) (s' := slw 1 off 4 cap) (fun β w hR => ⟨lk_opq (K := KB) (L := [a, b, d, e]) (k := 4) hR rfl, lk_win (K := KB) (L := [a, b, d, e]) (k := 1) hR rfl hl hc⟩)
  have p1 := newA_calls (pairs_new h (by simp) (by simp [prsL])) false (ren_sv st) (fun _ _ => rfl) (k := 6) (H := [(1, KB.win off [a, b, d, e])]) rfl hs1
  have e2 := prs_mov (L := [a, b, d, e]) (by simp) (by simp) ha
  have p2 := newA_calls (pairs_new (L := ([a, b, d, e]).map (movB r)) hr (by simp) (by rw [e2]; simp [prsL])) false (ren_sv st) (fun _ _ => rfl) (k := 7) (H := [(3, KB.opq (([a, b, d, e]).map (movB r)))]) rfl hs3
  rw [e2] at p2
  have e3 : prsL [(a.1, g.2), b, d, e] = prsL [a, b, d, e] := rfl
  have p3 := newA_calls (pairs_new hv (by simp) (by simp [prsL])) false (ren_sv so) (fun _ _ => rfl) (k := 8) (H := [(5, KB.own [(a.1, g.2), b, d, e])]) rfl hs5
  rw [e3] at p3
  have z1 := semB_calls (psame_s (Q := prsL [a, b, d, e]) (by simp [prsL])) ren_pp rfl (H := [(7, KP.opq (prsL [a, b, d, e])), (6, KP.opq (prsL [a, b, d, e]))]) (s := slw 6 0 (prsL [a, b, d, e]).length capU) (s' := slw 7 0 (prsL [a, b, d, e]).length capU) (fun β w hR => ⟨lk_opq (K := KP) hR rfl, lk_opq (K := KP) hR rfl⟩)
  have z2 := semB_calls (psame_s (Q := prsL [a, b, d, e]) (by simp [prsL])) ren_pp rfl (H := [(6, KP.opq (prsL [a, b, d, e])), (8, KP.opq (prsL [a, b, d, e]))]) (s := slw 6 0 (prsL [a, b, d, e]).length capU) (s' := slw 8 0 (prsL [a, b, d, e]).length capU) (fun β w hR => ⟨lk_opq (K := KP) hR rfl, lk_opq (K := KP) hR rfl⟩)
  have right8 := rright_c h hs1
  have rightO := rright_c ho hs2
  exact runF_calls mix (mvl_4_1 st so off cap cap2 (cwx KB.fl off [a, b, d, e]) r (ngP r) (([a, b, d, e]).map (movB r)) [a, b, d, e] (prsL [a, b, d, e]) a b d e g) ⟨right8, rightO, w15, neg_c r, w15b, w18, p1, p2, p3, w16, z1, z2, wakes_c, trivial⟩ rfl rfl
theorem mlaw_4_2 (a b d e g i : Bd) (h : rightV st [a, b, d, e] = true) (ho : rightV so [g, i] = true) (hk : movOk st r [a, b, d, e] = true) (off cap cap2 : Nat) (hl : 4 ≤ cap) (hc : cap ≤ maxLen) (hl2 : 2 ≤ cap2) (hc2 : cap2 ≤ maxLen) :
    CallsV Try.prog (.func 4) #[sv st (slw 1 off 4 cap), sv so (slw 2 0 2 cap2), vv r] [(1, KB.win off [a, b, d, e]), (2, KB.seen [g, i])] (rt (bb true)) [] := by
  have hk' := hk
  unfold movOk at hk'
  rw [Bool.and_eq_true] at hk'
  obtain ⟨ha, hr⟩ := hk'
  obtain ⟨ha2, hback⟩ := back_all ha
  have hlen : (([a, b, d, e]).map (movB r)).length = 4 := rfl
  have hk2 : movOk st (ngP r) (([a, b, d, e]).map (movB r)) = true := by
    unfold movOk
    rw [ha2, hback, h]
    rfl
  have hs1 : ∀ β w, Rel (rng β [(1, KB.win off [a, b, d, e])]) w β [(1, KB.win off [a, b, d, e])] w → LieK KB w (ren β (slw 1 off 4 cap)) [a, b, d, e] := fun β w hR => lk_win (K := KB) (L := [a, b, d, e]) (k := 1) hR rfl hl hc
  have hs2 : ∀ β w, Rel (rng β [(2, KB.seen [g, i])]) w β [(2, KB.seen [g, i])] w → LieK KB w (ren β (slw 2 0 2 cap2)) [g, i] := fun β w hR => lk_seen (K := KB) (L := [g, i]) (k := 2) hR rfl hl2 hc2
  have hs3 : ∀ β w, Rel (rng β [(3, KB.opq (([a, b, d, e]).map (movB r)))]) w β [(3, KB.opq (([a, b, d, e]).map (movB r)))] w → LieK KB w (ren β (slw 3 0 4 capU)) (([a, b, d, e]).map (movB r)) := fun β w hR => lk_opq (K := KB) (L := ([a, b, d, e]).map (movB r)) (k := 3) hR rfl
  have hs5 : ∀ β w, Rel (rng β [(5, KB.own [(a.1, g.2), (b.1, i.2), d, e])]) w β [(5, KB.own [(a.1, g.2), (b.1, i.2), d, e])] w → LieK KB w (ren β (slw 5 0 4 capU)) [(a.1, g.2), (b.1, i.2), d, e] := fun β w hR => lk_own (K := KB) (L := [(a.1, g.2), (b.1, i.2), d, e]) (k := 5) hR rfl
  have w15 := newA_calls (moved_ok (mov_s r (L := [a, b, d, e]) (by simp) (by simp)) h (by simp) hk) false (ren_mv st r) (fun _ _ => rfl) (H := [(1, KB.win off [a, b, d, e])]) (k := 3) rfl hs1
  have w15b := newA_calls (moved_ok (mov_s (ngP r) (L := ([a, b, d, e]).map (movB r)) (st := st) (by simp) (by simp)) hr (by simp) hk2) false (ren_mv st (ngP r)) (fun _ _ => rfl) (H := [(3, KB.opq (([a, b, d, e]).map (movB r)))]) (k := 4) rfl hs3
  rw [hback] at w15b
  have w18 := newA_calls (down_new st (L := [a, b, d, e]) (by simp) (by simp)) true (ren_sv st) (fun _ _ => rfl) (H := [(1, KB.win off [a, b, d, e])]) (k := 5) rfl hs1
  have hv : rightV so [(a.1, g.2), (b.1, i.2), d, e] = true := right_v (V := [(a.1, g.2), (b.1, i.2), d, e]) h ho rfl (by simp)
  have w16 := semB_calls (same_s st (L := [a, b, d, e]) (by simp) (by simp)) (ren_ss st st) rfl (H := [(1, KB.win off [a, b, d, e]), (4, KB.opq [a, b, d, e])]) (s := slw 4 0 4 capU) (s' := slw 1 off 4 cap) (fun β w hR => ⟨lk_opq (K := KB) (L := [a, b, d, e]) (k := 4) hR rfl, lk_win (K := KB) (L := [a, b, d, e]) (k := 1) hR rfl hl hc⟩)
  have p1 := newA_calls (pairs_new h (by simp) (by simp [prsL])) false (ren_sv st) (fun _ _ => rfl) (k := 6) (H := [(1, KB.win off [a, b, d, e])]) rfl hs1
  have e2 := prs_mov (L := [a, b, d, e]) (by simp) (by simp) ha
  have p2 := newA_calls (pairs_new (L := ([a, b, d, e]).map (movB r)) hr (by simp) (by rw [e2]; simp [prsL])) false (ren_sv st) (fun _ _ => rfl) (k := 7) (H := [(3, KB.opq (([a, b, d, e]).map (movB r)))]) rfl hs3
  rw [e2] at p2
  have e3 : prsL [(a.1, g.2), (b.1, i.2), d, e] = prsL [a, b, d, e] := rfl
  have p3 := newA_calls (pairs_new hv (by simp) (by simp [prsL])) false (ren_sv so) (fun _ _ => rfl) (k := 8) (H := [(5, KB.own [(a.1, g.2), (b.1, i.2), d, e])]) rfl hs5
  rw [e3] at p3
  have z1 := semB_calls (psame_s (Q := prsL [a, b, d, e]) (by simp [prsL])) ren_pp rfl (H := [(7, KP.opq (prsL [a, b, d, e])), (6, KP.opq (prsL [a, b, d, e]))]) (s := slw 6 0 (prsL [a, b, d, e]).length capU) (s' := slw 7 0 (prsL [a, b, d, e]).length capU) (fun β w hR => ⟨lk_opq (K := KP) hR rfl, lk_opq (K := KP) hR rfl⟩)
  have z2 := semB_calls (psame_s (Q := prsL [a, b, d, e]) (by simp [prsL])) ren_pp rfl (H := [(6, KP.opq (prsL [a, b, d, e])), (8, KP.opq (prsL [a, b, d, e]))]) (s := slw 6 0 (prsL [a, b, d, e]).length capU) (s' := slw 8 0 (prsL [a, b, d, e]).length capU) (fun β w hR => ⟨lk_opq (K := KP) hR rfl, lk_opq (K := KP) hR rfl⟩)
  have right8 := rright_c h hs1
  have rightO := rright_c ho hs2
  exact runF_calls mix (mvl_4_2 st so off cap cap2 (cwx KB.fl off [a, b, d, e]) r (ngP r) (([a, b, d, e]).map (movB r)) [a, b, d, e] (prsL [a, b, d, e]) a b d e g i) ⟨right8, rightO, w15, neg_c r, w15b, w18, p1, p2, p3, w16, z1, z2, wakes_c, trivial⟩ rfl rfl
theorem mlaw_4_3 (a b d e g i j : Bd) (h : rightV st [a, b, d, e] = true) (ho : rightV so [g, i, j] = true) (hk : movOk st r [a, b, d, e] = true) (off cap cap2 : Nat) (hl : 4 ≤ cap) (hc : cap ≤ maxLen) (hl2 : 3 ≤ cap2) (hc2 : cap2 ≤ maxLen) :
    CallsV Try.prog (.func 4) #[sv st (slw 1 off 4 cap), sv so (slw 2 0 3 cap2), vv r] [(1, KB.win off [a, b, d, e]), (2, KB.seen [g, i, j])] (rt (bb true)) [] := by
  have hk' := hk
  unfold movOk at hk'
  rw [Bool.and_eq_true] at hk'
  obtain ⟨ha, hr⟩ := hk'
  obtain ⟨ha2, hback⟩ := back_all ha
  have hlen : (([a, b, d, e]).map (movB r)).length = 4 := rfl
  have hk2 : movOk st (ngP r) (([a, b, d, e]).map (movB r)) = true := by
    unfold movOk
    rw [ha2, hback, h]
    rfl
  have hs1 : ∀ β w, Rel (rng β [(1, KB.win off [a, b, d, e])]) w β [(1, KB.win off [a, b, d, e])] w → LieK KB w (ren β (slw 1 off 4 cap)) [a, b, d, e] := fun β w hR => lk_win (K := KB) (L := [a, b, d, e]) (k := 1) hR rfl hl hc
  have hs2 : ∀ β w, Rel (rng β [(2, KB.seen [g, i, j])]) w β [(2, KB.seen [g, i, j])] w → LieK KB w (ren β (slw 2 0 3 cap2)) [g, i, j] := fun β w hR => lk_seen (K := KB) (L := [g, i, j]) (k := 2) hR rfl hl2 hc2
  have hs3 : ∀ β w, Rel (rng β [(3, KB.opq (([a, b, d, e]).map (movB r)))]) w β [(3, KB.opq (([a, b, d, e]).map (movB r)))] w → LieK KB w (ren β (slw 3 0 4 capU)) (([a, b, d, e]).map (movB r)) := fun β w hR => lk_opq (K := KB) (L := ([a, b, d, e]).map (movB r)) (k := 3) hR rfl
  have hs5 : ∀ β w, Rel (rng β [(5, KB.own [(a.1, g.2), (b.1, i.2), (d.1, j.2), e])]) w β [(5, KB.own [(a.1, g.2), (b.1, i.2), (d.1, j.2), e])] w → LieK KB w (ren β (slw 5 0 4 capU)) [(a.1, g.2), (b.1, i.2), (d.1, j.2), e] := fun β w hR => lk_own (K := KB) (L := [(a.1, g.2), (b.1, i.2), (d.1, j.2), e]) (k := 5) hR rfl
  have w15 := newA_calls (moved_ok (mov_s r (L := [a, b, d, e]) (by simp) (by simp)) h (by simp) hk) false (ren_mv st r) (fun _ _ => rfl) (H := [(1, KB.win off [a, b, d, e])]) (k := 3) rfl hs1
  have w15b := newA_calls (moved_ok (mov_s (ngP r) (L := ([a, b, d, e]).map (movB r)) (st := st) (by simp) (by simp)) hr (by simp) hk2) false (ren_mv st (ngP r)) (fun _ _ => rfl) (H := [(3, KB.opq (([a, b, d, e]).map (movB r)))]) (k := 4) rfl hs3
  rw [hback] at w15b
  have w18 := newA_calls (down_new st (L := [a, b, d, e]) (by simp) (by simp)) true (ren_sv st) (fun _ _ => rfl) (H := [(1, KB.win off [a, b, d, e])]) (k := 5) rfl hs1
  have hv : rightV so [(a.1, g.2), (b.1, i.2), (d.1, j.2), e] = true := right_v (V := [(a.1, g.2), (b.1, i.2), (d.1, j.2), e]) h ho rfl (by simp)
  have w16 := semB_calls (same_s st (L := [a, b, d, e]) (by simp) (by simp)) (ren_ss st st) rfl (H := [(1, KB.win off [a, b, d, e]), (4, KB.opq [a, b, d, e])]) (s := slw 4 0 4 capU) (s' := slw 1 off 4 cap) (fun β w hR => ⟨lk_opq (K := KB) (L := [a, b, d, e]) (k := 4) hR rfl, lk_win (K := KB) (L := [a, b, d, e]) (k := 1) hR rfl hl hc⟩)
  have p1 := newA_calls (pairs_new h (by simp) (by simp [prsL])) false (ren_sv st) (fun _ _ => rfl) (k := 6) (H := [(1, KB.win off [a, b, d, e])]) rfl hs1
  have e2 := prs_mov (L := [a, b, d, e]) (by simp) (by simp) ha
  have p2 := newA_calls (pairs_new (L := ([a, b, d, e]).map (movB r)) hr (by simp) (by rw [e2]; simp [prsL])) false (ren_sv st) (fun _ _ => rfl) (k := 7) (H := [(3, KB.opq (([a, b, d, e]).map (movB r)))]) rfl hs3
  rw [e2] at p2
  have e3 : prsL [(a.1, g.2), (b.1, i.2), (d.1, j.2), e] = prsL [a, b, d, e] := rfl
  have p3 := newA_calls (pairs_new hv (by simp) (by simp [prsL])) false (ren_sv so) (fun _ _ => rfl) (k := 8) (H := [(5, KB.own [(a.1, g.2), (b.1, i.2), (d.1, j.2), e])]) rfl hs5
  rw [e3] at p3
  have z1 := semB_calls (psame_s (Q := prsL [a, b, d, e]) (by simp [prsL])) ren_pp rfl (H := [(7, KP.opq (prsL [a, b, d, e])), (6, KP.opq (prsL [a, b, d, e]))]) (s := slw 6 0 (prsL [a, b, d, e]).length capU) (s' := slw 7 0 (prsL [a, b, d, e]).length capU) (fun β w hR => ⟨lk_opq (K := KP) hR rfl, lk_opq (K := KP) hR rfl⟩)
  have z2 := semB_calls (psame_s (Q := prsL [a, b, d, e]) (by simp [prsL])) ren_pp rfl (H := [(6, KP.opq (prsL [a, b, d, e])), (8, KP.opq (prsL [a, b, d, e]))]) (s := slw 6 0 (prsL [a, b, d, e]).length capU) (s' := slw 8 0 (prsL [a, b, d, e]).length capU) (fun β w hR => ⟨lk_opq (K := KP) hR rfl, lk_opq (K := KP) hR rfl⟩)
  have right8 := rright_c h hs1
  have rightO := rright_c ho hs2
  exact runF_calls mix (mvl_4_3 st so off cap cap2 (cwx KB.fl off [a, b, d, e]) r (ngP r) (([a, b, d, e]).map (movB r)) [a, b, d, e] (prsL [a, b, d, e]) a b d e g i j) ⟨right8, rightO, w15, neg_c r, w15b, w18, p1, p2, p3, w16, z1, z2, wakes_c, trivial⟩ rfl rfl
theorem mlaw_4_4 (a b d e g i j k : Bd) (h : rightV st [a, b, d, e] = true) (ho : rightV so [g, i, j, k] = true) (hk : movOk st r [a, b, d, e] = true) (off cap cap2 : Nat) (hl : 4 ≤ cap) (hc : cap ≤ maxLen) (hl2 : 4 ≤ cap2) (hc2 : cap2 ≤ maxLen) :
    CallsV Try.prog (.func 4) #[sv st (slw 1 off 4 cap), sv so (slw 2 0 4 cap2), vv r] [(1, KB.win off [a, b, d, e]), (2, KB.seen [g, i, j, k])] (rt (bb true)) [] := by
  have hk' := hk
  unfold movOk at hk'
  rw [Bool.and_eq_true] at hk'
  obtain ⟨ha, hr⟩ := hk'
  obtain ⟨ha2, hback⟩ := back_all ha
  have hlen : (([a, b, d, e]).map (movB r)).length = 4 := rfl
  have hk2 : movOk st (ngP r) (([a, b, d, e]).map (movB r)) = true := by
    unfold movOk
    rw [ha2, hback, h]
    rfl
  have hs1 : ∀ β w, Rel (rng β [(1, KB.win off [a, b, d, e])]) w β [(1, KB.win off [a, b, d, e])] w → LieK KB w (ren β (slw 1 off 4 cap)) [a, b, d, e] := fun β w hR => lk_win (K := KB) (L := [a, b, d, e]) (k := 1) hR rfl hl hc
  have hs2 : ∀ β w, Rel (rng β [(2, KB.seen [g, i, j, k])]) w β [(2, KB.seen [g, i, j, k])] w → LieK KB w (ren β (slw 2 0 4 cap2)) [g, i, j, k] := fun β w hR => lk_seen (K := KB) (L := [g, i, j, k]) (k := 2) hR rfl hl2 hc2
  have hs3 : ∀ β w, Rel (rng β [(3, KB.opq (([a, b, d, e]).map (movB r)))]) w β [(3, KB.opq (([a, b, d, e]).map (movB r)))] w → LieK KB w (ren β (slw 3 0 4 capU)) (([a, b, d, e]).map (movB r)) := fun β w hR => lk_opq (K := KB) (L := ([a, b, d, e]).map (movB r)) (k := 3) hR rfl
  have hs5 : ∀ β w, Rel (rng β [(5, KB.own [(a.1, g.2), (b.1, i.2), (d.1, j.2), (e.1, k.2)])]) w β [(5, KB.own [(a.1, g.2), (b.1, i.2), (d.1, j.2), (e.1, k.2)])] w → LieK KB w (ren β (slw 5 0 4 capU)) [(a.1, g.2), (b.1, i.2), (d.1, j.2), (e.1, k.2)] := fun β w hR => lk_own (K := KB) (L := [(a.1, g.2), (b.1, i.2), (d.1, j.2), (e.1, k.2)]) (k := 5) hR rfl
  have w15 := newA_calls (moved_ok (mov_s r (L := [a, b, d, e]) (by simp) (by simp)) h (by simp) hk) false (ren_mv st r) (fun _ _ => rfl) (H := [(1, KB.win off [a, b, d, e])]) (k := 3) rfl hs1
  have w15b := newA_calls (moved_ok (mov_s (ngP r) (L := ([a, b, d, e]).map (movB r)) (st := st) (by simp) (by simp)) hr (by simp) hk2) false (ren_mv st (ngP r)) (fun _ _ => rfl) (H := [(3, KB.opq (([a, b, d, e]).map (movB r)))]) (k := 4) rfl hs3
  rw [hback] at w15b
  have w18 := newA_calls (down_new st (L := [a, b, d, e]) (by simp) (by simp)) true (ren_sv st) (fun _ _ => rfl) (H := [(1, KB.win off [a, b, d, e])]) (k := 5) rfl hs1
  have hv : rightV so [(a.1, g.2), (b.1, i.2), (d.1, j.2), (e.1, k.2)] = true := right_v (V := [(a.1, g.2), (b.1, i.2), (d.1, j.2), (e.1, k.2)]) h ho rfl (by simp)
  have w16 := semB_calls (same_s st (L := [a, b, d, e]) (by simp) (by simp)) (ren_ss st st) rfl (H := [(1, KB.win off [a, b, d, e]), (4, KB.opq [a, b, d, e])]) (s := slw 4 0 4 capU) (s' := slw 1 off 4 cap) (fun β w hR => ⟨lk_opq (K := KB) (L := [a, b, d, e]) (k := 4) hR rfl, lk_win (K := KB) (L := [a, b, d, e]) (k := 1) hR rfl hl hc⟩)
  have p1 := newA_calls (pairs_new h (by simp) (by simp [prsL])) false (ren_sv st) (fun _ _ => rfl) (k := 6) (H := [(1, KB.win off [a, b, d, e])]) rfl hs1
  have e2 := prs_mov (L := [a, b, d, e]) (by simp) (by simp) ha
  have p2 := newA_calls (pairs_new (L := ([a, b, d, e]).map (movB r)) hr (by simp) (by rw [e2]; simp [prsL])) false (ren_sv st) (fun _ _ => rfl) (k := 7) (H := [(3, KB.opq (([a, b, d, e]).map (movB r)))]) rfl hs3
  rw [e2] at p2
  have e3 : prsL [(a.1, g.2), (b.1, i.2), (d.1, j.2), (e.1, k.2)] = prsL [a, b, d, e] := rfl
  have p3 := newA_calls (pairs_new hv (by simp) (by simp [prsL])) false (ren_sv so) (fun _ _ => rfl) (k := 8) (H := [(5, KB.own [(a.1, g.2), (b.1, i.2), (d.1, j.2), (e.1, k.2)])]) rfl hs5
  rw [e3] at p3
  have z1 := semB_calls (psame_s (Q := prsL [a, b, d, e]) (by simp [prsL])) ren_pp rfl (H := [(7, KP.opq (prsL [a, b, d, e])), (6, KP.opq (prsL [a, b, d, e]))]) (s := slw 6 0 (prsL [a, b, d, e]).length capU) (s' := slw 7 0 (prsL [a, b, d, e]).length capU) (fun β w hR => ⟨lk_opq (K := KP) hR rfl, lk_opq (K := KP) hR rfl⟩)
  have z2 := semB_calls (psame_s (Q := prsL [a, b, d, e]) (by simp [prsL])) ren_pp rfl (H := [(6, KP.opq (prsL [a, b, d, e])), (8, KP.opq (prsL [a, b, d, e]))]) (s := slw 6 0 (prsL [a, b, d, e]).length capU) (s' := slw 8 0 (prsL [a, b, d, e]).length capU) (fun β w hR => ⟨lk_opq (K := KP) hR rfl, lk_opq (K := KP) hR rfl⟩)
  have right8 := rright_c h hs1
  have rightO := rright_c ho hs2
  exact runF_calls mix (mvl_4_4 st so off cap cap2 (cwx KB.fl off [a, b, d, e]) r (ngP r) (([a, b, d, e]).map (movB r)) [a, b, d, e] (prsL [a, b, d, e]) a b d e g i j k) ⟨right8, rightO, w15, neg_c r, w15b, w18, p1, p2, p3, w16, z1, z2, wakes_c, trivial⟩ rfl rfl
theorem law4 (L O : List Bd) : SemB KB KB Try.prog 4 (fun s s' => #[sv st s, sv so s', vv r]) L O (bb true) := by
  have hs1 : ∀ {off cap : Nat} (hl : L.length ≤ cap) (hc : cap ≤ maxLen) β w, Rel (rng β [(1, KB.win off L)]) w β [(1, KB.win off L)] w → LieK KB w (ren β (slw 1 off L.length cap)) L := fun hl hc β w hR => lk_win (K := KB) (L := L) (k := 1) hR rfl hl hc
  have hs2 : ∀ {off cap : Nat} (hl : O.length ≤ cap) (hc : cap ≤ maxLen) β w, Rel (rng β [(2, KB.win off O)]) w β [(2, KB.win off O)] w → LieK KB w (ren β (slw 2 off O.length cap)) O := fun hl hc β w hR => lk_win (K := KB) (L := O) (k := 2) hR rfl hl hc
  have ra := ren_law4 st so r
  cases h : rightV st L
  · refine semB_law false false ra rfl (fun _ _ => ?_) (fun _ off cap hl hc => ⟨[], ?_⟩) (fun _ off cap hl hc => ⟨[], ?_⟩) (fun off cap off' cap' hl hc hl' hc' => ⟨[], ?_⟩)
    · exact runF_pure mix (mvl_nn st so 0 0 0 0 0 0 #[] #[] r []) ⟨rright_nil st, wakes_c, trivial⟩ rfl rfl
    · exact runF_calls mix (mvl_nw st so 0 0 0 off O.length cap #[] (cwx KB.fl off O) r []) ⟨rright_nil st, wakes_c, trivial⟩ rfl rfl
    · exact runF_calls mix (mvl_wn st so off L.length cap 0 0 0 (cwx KB.fl off L) #[] r []) ⟨rright_c h (hs1 hl hc), wakes_c, trivial⟩ rfl rfl
    · exact runF_calls mix (mvl_ww st so off L.length cap off' O.length cap' (cwx KB.fl off L) (cwx KB.fl off' O) r []) ⟨rright_c h (hs1 hl hc), wakes_c, trivial⟩ rfl rfl
  have hL : L ≠ [] := fun e => by rw [e, right_0] at h; cases h
  cases ho : rightV so O
  · refine semB_law false false ra rfl (fun e _ => absurd e hL) (fun e => absurd e hL) (fun _ off cap hl hc => ⟨[], ?_⟩) (fun off cap off' cap' hl hc hl' hc' => ⟨[], ?_⟩)
    · exact runF_calls mix (mvl_rn st so off L.length cap 0 0 0 (cwx KB.fl off L) #[] r []) ⟨rright_c h (hs1 hl hc), rright_nil so, wakes_c, trivial⟩ rfl rfl
    · exact runF_calls mix (mvl_rw st so off L.length cap off' O.length cap' (cwx KB.fl off L) (cwx KB.fl off' O) r []) ⟨rright_c h (hs1 hl hc), rright_c ho (hs2 hl' hc'), wakes_c, trivial⟩ rfl rfl
  have hO : O ≠ [] := fun e => by rw [e, right_0] at ho; cases ho
  obtain ⟨-, ⟨h1, h4⟩, -⟩ := rightV_iff.1 h
  obtain ⟨-, ⟨g1, g4⟩, -⟩ := rightV_iff.1 ho
  cases hk : movOk st r L
  · refine semB_law false false ra rfl (fun e _ => absurd e hL) (fun e => absurd e hL) (fun e => absurd e hO) (fun off cap off' cap' hl hc hl' hc' => ⟨[], ?_⟩)
    have w15 := newA_calls (moved_no (mov_s (st := st) r h1 h4) hL (by omega) (by rw [h, hk]; rfl)) false (ren_mv st r) (fun _ _ => rfl) (H := [(1, KB.win off L)]) (k := 3) rfl (hs1 hl hc)
    have w16 := semB_calls (same_s st h1 h4) (ren_ss st st) rfl (H := [(3, KB.opq L), (1, KB.win off L)]) (s := slw 3 0 L.length capU) (s' := slw 1 off L.length cap) (fun β w hR => ⟨lk_opq (K := KB) (L := L) (k := 3) hR rfl, lk_win (K := KB) (L := L) (k := 1) hR rfl hl hc⟩)
    exact runF_calls mix (mvl_no st so off L.length cap off' O.length cap' (cwx KB.fl off L) (cwx KB.fl off' O) r L) ⟨rright_c h (hs1 hl hc), rright_c ho (hs2 hl' hc'), w15, w16, wakes_c, trivial⟩ rfl rfl
  clear hs1 hs2
  refine semB_law false true ra rfl (fun e _ => absurd e hL) (fun e => absurd e hL) (fun e => absurd e hO) (fun off cap off' cap' hl hc hl' hc' => ⟨[], ?_⟩)
  rcases shapes h1 h4 with ⟨a, rfl⟩ | ⟨a, b, rfl⟩ | ⟨a, b, d, rfl⟩ | ⟨a, b, d, e, rfl⟩ <;> rcases shapes g1 g4 with ⟨g, rfl⟩ | ⟨g, i, rfl⟩ | ⟨g, i, j, rfl⟩ | ⟨g, i, j, k, rfl⟩
  · exact mlaw_1_1 a g h ho hk off cap cap' hl hc hl' hc'
  · exact mlaw_1_2 a g i h ho hk off cap cap' hl hc hl' hc'
  · exact mlaw_1_3 a g i j h ho hk off cap cap' hl hc hl' hc'
  · exact mlaw_1_4 a g i j k h ho hk off cap cap' hl hc hl' hc'
  · exact mlaw_2_1 a b g h ho hk off cap cap' hl hc hl' hc'
  · exact mlaw_2_2 a b g i h ho hk off cap cap' hl hc hl' hc'
  · exact mlaw_2_3 a b g i j h ho hk off cap cap' hl hc hl' hc'
  · exact mlaw_2_4 a b g i j k h ho hk off cap cap' hl hc hl' hc'
  · exact mlaw_3_1 a b d g h ho hk off cap cap' hl hc hl' hc'
  · exact mlaw_3_2 a b d g i h ho hk off cap cap' hl hc hl' hc'
  · exact mlaw_3_3 a b d g i j h ho hk off cap cap' hl hc hl' hc'
  · exact mlaw_3_4 a b d g i j k h ho hk off cap cap' hl hc hl' hc'
  · exact mlaw_4_1 a b d e g h ho hk off cap cap' hl hc hl' hc'
  · exact mlaw_4_2 a b d e g i h ho hk off cap cap' hl hc hl' hc'
  · exact mlaw_4_3 a b d e g i j h ho hk off cap cap' hl hc hl' hc'
  · exact mlaw_4_4 a b d e g i j k h ho hk off cap cap' hl hc hl' hc'
end

end Go.Proofs.Ytpllklojcjhjaaa
