/- Texts of the seat, joined. -/
import Derived.Test.YtmikjgflenbljaaZz18
/- The program's states turned about. -/
namespace Go.Proofs.Ytmikjgflenbljaa
open Go Go.RowKit
set_option linter.unusedSimpArgs false
set_option linter.unusedVariables false
set_option maxRecDepth 100000

/-- A body, turned about. -/
def tbd (b : Bd) : Bd := (b.1, ngP b.2)
theorem t13_1 (st : Int) (cap : Nat) (a : Bd) : runF Try.prog 3000 [1, 3004] 13 #[sv st (slw 1 0 1 cap)] [(1, wob [a])] [n, n] [(25, rt (vv (ngP a.2)))] [] [] =
    some (rt (sv (wi (0 - st)) (slw 3004 0 1 capU)), [(3004, gob [tbd a]), (1, wob [a])], [PureX Try.prog 25 #[vv a.2] (rt (vc (wi (0 - a.2.1)) (wi (0 - a.2.2.1)) (wi (0 - a.2.2.2))))]) := by kernel_rfl
theorem t13o_1 (st : Int) (a : Bd) : runF Try.prog 4000 [3004, 4004] 13 #[sv st (slw 3004 0 1 capU)] [(3004, gob [a])] [n, n] [(25, rt (vv (ngP a.2)))] [] [] =
    some (rt (sv (wi (0 - st)) (slw 4004 0 1 capU)), [(4004, gob [tbd a]), (3004, gob [a])], [PureX Try.prog 25 #[vv a.2] (rt (vc (wi (0 - a.2.1)) (wi (0 - a.2.2.1)) (wi (0 - a.2.2.2))))]) := by kernel_rfl
theorem t13_2 (st : Int) (cap : Nat) (a b : Bd) : runF Try.prog 3000 [1, 3004] 13 #[sv st (slw 1 0 2 cap)] [(1, wob [a, b])] [n, n, n] [(25, rt (vv (ngP a.2))), (25, rt (vv (ngP b.2)))] [] [] =
    some (rt (sv (wi (0 - st)) (slw 3004 0 2 capU)), [(3004, gob [tbd a, tbd b]), (1, wob [a, b])], [PureX Try.prog 25 #[vv a.2] (rt (vc (wi (0 - a.2.1)) (wi (0 - a.2.2.1)) (wi (0 - a.2.2.2)))), PureX Try.prog 25 #[vv b.2] (rt (vc (wi (0 - b.2.1)) (wi (0 - b.2.2.1)) (wi (0 - b.2.2.2))))]) := by kernel_rfl
theorem t13o_2 (st : Int) (a b : Bd) : runF Try.prog 4000 [3004, 4004] 13 #[sv st (slw 3004 0 2 capU)] [(3004, gob [a, b])] [n, n, n] [(25, rt (vv (ngP a.2))), (25, rt (vv (ngP b.2)))] [] [] =
    some (rt (sv (wi (0 - st)) (slw 4004 0 2 capU)), [(4004, gob [tbd a, tbd b]), (3004, gob [a, b])], [PureX Try.prog 25 #[vv a.2] (rt (vc (wi (0 - a.2.1)) (wi (0 - a.2.2.1)) (wi (0 - a.2.2.2)))), PureX Try.prog 25 #[vv b.2] (rt (vc (wi (0 - b.2.1)) (wi (0 - b.2.2.1)) (wi (0 - b.2.2.2))))]) := by kernel_rfl
theorem t13_3 (st : Int) (cap : Nat) (a b d : Bd) : runF Try.prog 3000 [1, 3004] 13 #[sv st (slw 1 0 3 cap)] [(1, wob [a, b, d])] [n, n, n, n] [(25, rt (vv (ngP a.2))), (25, rt (vv (ngP b.2))), (25, rt (vv (ngP d.2)))] [] [] =
    some (rt (sv (wi (0 - st)) (slw 3004 0 3 capU)), [(3004, gob [tbd a, tbd b, tbd d]), (1, wob [a, b, d])], [PureX Try.prog 25 #[vv a.2] (rt (vc (wi (0 - a.2.1)) (wi (0 - a.2.2.1)) (wi (0 - a.2.2.2)))), PureX Try.prog 25 #[vv b.2] (rt (vc (wi (0 - b.2.1)) (wi (0 - b.2.2.1)) (wi (0 - b.2.2.2)))), PureX Try.prog 25 #[vv d.2] (rt (vc (wi (0 - d.2.1)) (wi (0 - d.2.2.1)) (wi (0 - d.2.2.2))))]) := by kernel_rfl
theorem t13o_3 (st : Int) (a b d : Bd) : runF Try.prog 4000 [3004, 4004] 13 #[sv st (slw 3004 0 3 capU)] [(3004, gob [a, b, d])] [n, n, n, n] [(25, rt (vv (ngP a.2))), (25, rt (vv (ngP b.2))), (25, rt (vv (ngP d.2)))] [] [] =
    some (rt (sv (wi (0 - st)) (slw 4004 0 3 capU)), [(4004, gob [tbd a, tbd b, tbd d]), (3004, gob [a, b, d])], [PureX Try.prog 25 #[vv a.2] (rt (vc (wi (0 - a.2.1)) (wi (0 - a.2.2.1)) (wi (0 - a.2.2.2)))), PureX Try.prog 25 #[vv b.2] (rt (vc (wi (0 - b.2.1)) (wi (0 - b.2.2.1)) (wi (0 - b.2.2.2)))), PureX Try.prog 25 #[vv d.2] (rt (vc (wi (0 - d.2.1)) (wi (0 - d.2.2.1)) (wi (0 - d.2.2.2))))]) := by kernel_rfl
theorem t13_4 (st : Int) (cap : Nat) (a b d e : Bd) : runF Try.prog 3000 [1, 3004] 13 #[sv st (slw 1 0 4 cap)] [(1, wob [a, b, d, e])] [n, n, n, n, n] [(25, rt (vv (ngP a.2))), (25, rt (vv (ngP b.2))), (25, rt (vv (ngP d.2))), (25, rt (vv (ngP e.2)))] [] [] =
    some (rt (sv (wi (0 - st)) (slw 3004 0 4 capU)), [(3004, gob [tbd a, tbd b, tbd d, tbd e]), (1, wob [a, b, d, e])], [PureX Try.prog 25 #[vv a.2] (rt (vc (wi (0 - a.2.1)) (wi (0 - a.2.2.1)) (wi (0 - a.2.2.2)))), PureX Try.prog 25 #[vv b.2] (rt (vc (wi (0 - b.2.1)) (wi (0 - b.2.2.1)) (wi (0 - b.2.2.2)))), PureX Try.prog 25 #[vv d.2] (rt (vc (wi (0 - d.2.1)) (wi (0 - d.2.2.1)) (wi (0 - d.2.2.2)))), PureX Try.prog 25 #[vv e.2] (rt (vc (wi (0 - e.2.1)) (wi (0 - e.2.2.1)) (wi (0 - e.2.2.2))))]) := by kernel_rfl
theorem t13o_4 (st : Int) (a b d e : Bd) : runF Try.prog 4000 [3004, 4004] 13 #[sv st (slw 3004 0 4 capU)] [(3004, gob [a, b, d, e])] [n, n, n, n, n] [(25, rt (vv (ngP a.2))), (25, rt (vv (ngP b.2))), (25, rt (vv (ngP d.2))), (25, rt (vv (ngP e.2)))] [] [] =
    some (rt (sv (wi (0 - st)) (slw 4004 0 4 capU)), [(4004, gob [tbd a, tbd b, tbd d, tbd e]), (3004, gob [a, b, d, e])], [PureX Try.prog 25 #[vv a.2] (rt (vc (wi (0 - a.2.1)) (wi (0 - a.2.2.1)) (wi (0 - a.2.2.2)))), PureX Try.prog 25 #[vv b.2] (rt (vc (wi (0 - b.2.1)) (wi (0 - b.2.2.1)) (wi (0 - b.2.2.2)))), PureX Try.prog 25 #[vv d.2] (rt (vc (wi (0 - d.2.1)) (wi (0 - d.2.2.1)) (wi (0 - d.2.2.2)))), PureX Try.prog 25 #[vv e.2] (rt (vc (wi (0 - e.2.1)) (wi (0 - e.2.2.1)) (wi (0 - e.2.2.2))))]) := by kernel_rfl
end Go.Proofs.Ytmikjgflenbljaa
