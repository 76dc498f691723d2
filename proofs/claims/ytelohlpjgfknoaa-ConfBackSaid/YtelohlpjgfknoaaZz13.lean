/- Texts of the seat, joined. -/
import Derived.Test.YtelohlpjgfknoaaZz6
/- Too many masses, or numbers: what comes of it. -/
namespace Go.Proofs.Ytelohlpjgfknoaa
open Go Go.RowKit
set_option linter.unusedSimpArgs false
set_option linter.unusedVariables false
set_option maxRecDepth 100000

theorem e3_WNNc (o1 cap1 n1 : Nat) (c1 : Array Value) (g b t' q m g2 b2 t2 q2 m2 : Int) : runF Try.prog 1000 [] 3 #[cv (slw 1 o1 n1 cap1) g b t' q m, cv (sl0) g2 b2 t2 q2 m2, sl0] [(1, win o1 c1)] [t, n, n, n, n, n] [(8, rt (bb true))] [] [] =
    some (rt (bb true), [], [(decide (60 < (n1 : Int))) = true, PureX Try.prog 8 #[] (rt (bb (true)))]) := by kernel_rfl
theorem e3_WNWc (o1 cap1 n1 o3 cap3 n3 : Nat) (c1 c3 : Array Value) (g b t' q m g2 b2 t2 q2 m2 : Int) : runF Try.prog 1000 [] 3 #[cv (slw 1 o1 n1 cap1) g b t' q m, cv (sl0) g2 b2 t2 q2 m2, slw 3 o3 n3 cap3] [(1, win o1 c1), (3, win o3 c3)] [t, n, n, n, n, n] [(8, rt (bb true))] [] [] =
    some (rt (bb true), [], [(decide (60 < (n1 : Int))) = true, PureX Try.prog 8 #[] (rt (bb (true)))]) := by kernel_rfl
theorem e3_WWNc (o1 cap1 n1 o2 cap2 n2 : Nat) (c1 c2 : Array Value) (g b t' q m g2 b2 t2 q2 m2 : Int) : runF Try.prog 1000 [] 3 #[cv (slw 1 o1 n1 cap1) g b t' q m, cv (slw 2 o2 n2 cap2) g2 b2 t2 q2 m2, sl0] [(1, win o1 c1), (2, win o2 c2)] [t, n, n, n, n, n] [(8, rt (bb true))] [] [] =
    some (rt (bb true), [], [(decide (60 < (n1 : Int))) = true, PureX Try.prog 8 #[] (rt (bb (true)))]) := by kernel_rfl
theorem e3_WWWc (o1 cap1 n1 o2 cap2 n2 o3 cap3 n3 : Nat) (c1 c2 c3 : Array Value) (g b t' q m g2 b2 t2 q2 m2 : Int) : runF Try.prog 1000 [] 3 #[cv (slw 1 o1 n1 cap1) g b t' q m, cv (slw 2 o2 n2 cap2) g2 b2 t2 q2 m2, slw 3 o3 n3 cap3] [(1, win o1 c1), (2, win o2 c2), (3, win o3 c3)] [t, n, n, n, n, n] [(8, rt (bb true))] [] [] =
    some (rt (bb true), [], [(decide (60 < (n1 : Int))) = true, PureX Try.prog 8 #[] (rt (bb (true)))]) := by kernel_rfl
theorem e3_NWNd (o2 cap2 n2 : Nat) (c2 : Array Value) (g b t' q m g2 b2 t2 q2 m2 : Int) : runF Try.prog 1000 [] 3 #[cv (sl0) g b t' q m, cv (slw 2 o2 n2 cap2) g2 b2 t2 q2 m2, sl0] [(2, win o2 c2)] [n, n, t, n, n, n] [(8, rt (bb true))] [] [] =
    some (rt (bb true), [], [(decide (60 < (n2 : Int))) = true, PureX Try.prog 8 #[] (rt (bb (true)))]) := by kernel_rfl
theorem e3_NWWd (o2 cap2 n2 o3 cap3 n3 : Nat) (c2 c3 : Array Value) (g b t' q m g2 b2 t2 q2 m2 : Int) : runF Try.prog 1000 [] 3 #[cv (sl0) g b t' q m, cv (slw 2 o2 n2 cap2) g2 b2 t2 q2 m2, slw 3 o3 n3 cap3] [(2, win o2 c2), (3, win o3 c3)] [n, n, t, n, n, n] [(8, rt (bb true))] [] [] =
    some (rt (bb true), [], [(decide (60 < (n2 : Int))) = true, PureX Try.prog 8 #[] (rt (bb (true)))]) := by kernel_rfl
theorem e3_WWNd (o1 cap1 n1 o2 cap2 n2 : Nat) (c1 c2 : Array Value) (g b t' q m g2 b2 t2 q2 m2 : Int) : runF Try.prog 1000 [] 3 #[cv (slw 1 o1 n1 cap1) g b t' q m, cv (slw 2 o2 n2 cap2) g2 b2 t2 q2 m2, sl0] [(1, win o1 c1), (2, win o2 c2)] [f, n, t, n, n, n] [(8, rt (bb true))] [] [] =
    some (rt (bb true), [], [(decide (60 < (n1 : Int))) = false, (decide (60 < (n2 : Int))) = true, PureX Try.prog 8 #[] (rt (bb (true)))]) := by kernel_rfl
theorem e3_WWWd (o1 cap1 n1 o2 cap2 n2 o3 cap3 n3 : Nat) (c1 c2 c3 : Array Value) (g b t' q m g2 b2 t2 q2 m2 : Int) : runF Try.prog 1000 [] 3 #[cv (slw 1 o1 n1 cap1) g b t' q m, cv (slw 2 o2 n2 cap2) g2 b2 t2 q2 m2, slw 3 o3 n3 cap3] [(1, win o1 c1), (2, win o2 c2), (3, win o3 c3)] [f, n, t, n, n, n] [(8, rt (bb true))] [] [] =
    some (rt (bb true), [], [(decide (60 < (n1 : Int))) = false, (decide (60 < (n2 : Int))) = true, PureX Try.prog 8 #[] (rt (bb (true)))]) := by kernel_rfl
theorem e3_NNWl (o3 cap3 n3 : Nat) (c3 : Array Value) (g b t' q m g2 b2 t2 q2 m2 : Int) : runF Try.prog 1000 [] 3 #[cv (sl0) g b t' q m, cv (sl0) g2 b2 t2 q2 m2, slw 3 o3 n3 cap3] [(3, win o3 c3)] [n, n, n, n, n, t] [(8, rt (bb true))] [] [] =
    some (rt (bb true), [], [(decide (60 < (n3 : Int))) = true, PureX Try.prog 8 #[] (rt (bb (true)))]) := by kernel_rfl
theorem e3_NWWl (o2 cap2 n2 o3 cap3 n3 : Nat) (c2 c3 : Array Value) (g b t' q m g2 b2 t2 q2 m2 : Int) : runF Try.prog 1000 [] 3 #[cv (sl0) g b t' q m, cv (slw 2 o2 n2 cap2) g2 b2 t2 q2 m2, slw 3 o3 n3 cap3] [(2, win o2 c2), (3, win o3 c3)] [n, n, f, n, n, t] [(8, rt (bb true))] [] [] =
    some (rt (bb true), [], [(decide (60 < (n2 : Int))) = false, (decide (60 < (n3 : Int))) = true, PureX Try.prog 8 #[] (rt (bb (true)))]) := by kernel_rfl
theorem e3_WNWl (o1 cap1 n1 o3 cap3 n3 : Nat) (c1 c3 : Array Value) (g b t' q m g2 b2 t2 q2 m2 : Int) : runF Try.prog 1000 [] 3 #[cv (slw 1 o1 n1 cap1) g b t' q m, cv (sl0) g2 b2 t2 q2 m2, slw 3 o3 n3 cap3] [(1, win o1 c1), (3, win o3 c3)] [f, n, n, n, n, t] [(8, rt (bb true))] [] [] =
    some (rt (bb true), [], [(decide (60 < (n1 : Int))) = false, (decide (60 < (n3 : Int))) = true, PureX Try.prog 8 #[] (rt (bb (true)))]) := by kernel_rfl
theorem e3_WWWl (o1 cap1 n1 o2 cap2 n2 o3 cap3 n3 : Nat) (c1 c2 c3 : Array Value) (g b t' q m g2 b2 t2 q2 m2 : Int) : runF Try.prog 1000 [] 3 #[cv (slw 1 o1 n1 cap1) g b t' q m, cv (slw 2 o2 n2 cap2) g2 b2 t2 q2 m2, slw 3 o3 n3 cap3] [(1, win o1 c1), (2, win o2 c2), (3, win o3 c3)] [f, n, f, n, n, t] [(8, rt (bb true))] [] [] =
    some (rt (bb true), [], [(decide (60 < (n1 : Int))) = false, (decide (60 < (n2 : Int))) = false, (decide (60 < (n3 : Int))) = true, PureX Try.prog 8 #[] (rt (bb (true)))]) := by kernel_rfl
theorem e4_WNc (o1 cap1 n1 : Nat) (c1 : Array Value) (g b t' q m g2 b2 t2 q2 m2 : Int) (y : Int) : runF Try.prog 1000 [] 4 #[cv (slw 1 o1 n1 cap1) g b t' q m, cv (sl0) g2 b2 t2 q2 m2, ii y] [(1, win o1 c1)] [t, n, n] [(8, rt (bb true))] [] [] =
    some (rt (bb true), [], [(decide (60 < (n1 : Int))) = true, PureX Try.prog 8 #[] (rt (bb (true)))]) := by kernel_rfl
theorem e4_WWc (o1 cap1 n1 o2 cap2 n2 : Nat) (c1 c2 : Array Value) (g b t' q m g2 b2 t2 q2 m2 : Int) (y : Int) : runF Try.prog 1000 [] 4 #[cv (slw 1 o1 n1 cap1) g b t' q m, cv (slw 2 o2 n2 cap2) g2 b2 t2 q2 m2, ii y] [(1, win o1 c1), (2, win o2 c2)] [t, n, n] [(8, rt (bb true))] [] [] =
    some (rt (bb true), [], [(decide (60 < (n1 : Int))) = true, PureX Try.prog 8 #[] (rt (bb (true)))]) := by kernel_rfl
theorem e4_NWd (o2 cap2 n2 : Nat) (c2 : Array Value) (g b t' q m g2 b2 t2 q2 m2 : Int) (y : Int) : runF Try.prog 1000 [] 4 #[cv (sl0) g b t' q m, cv (slw 2 o2 n2 cap2) g2 b2 t2 q2 m2, ii y] [(2, win o2 c2)] [n, n, t] [(8, rt (bb true))] [] [] =
    some (rt (bb true), [], [(decide (60 < (n2 : Int))) = true, PureX Try.prog 8 #[] (rt (bb (true)))]) := by kernel_rfl
theorem e4_WWd (o1 cap1 n1 o2 cap2 n2 : Nat) (c1 c2 : Array Value) (g b t' q m g2 b2 t2 q2 m2 : Int) (y : Int) : runF Try.prog 1000 [] 4 #[cv (slw 1 o1 n1 cap1) g b t' q m, cv (slw 2 o2 n2 cap2) g2 b2 t2 q2 m2, ii y] [(1, win o1 c1), (2, win o2 c2)] [f, n, t] [(8, rt (bb true))] [] [] =
    some (rt (bb true), [], [(decide (60 < (n1 : Int))) = false, (decide (60 < (n2 : Int))) = true, PureX Try.prog 8 #[] (rt (bb (true)))]) := by kernel_rfl
theorem e4_1Wd (cap1 o2 cap2 n2 : Nat) (c2 : Array Value) (a1 g b t' q m g2 b2 t2 q2 m2 y : Int) : runF Try.prog 1000 [] 4 #[cv (slw 1 0 1 cap1) g b t' q m, cv (slw 2 o2 n2 cap2) g2 b2 t2 q2 m2, ii y] [(1, wib [a1]), (2, win o2 c2)] [n, n, t] [(8, rt (bb true))] [] [] =
    some (rt (bb true), [], [(decide (60 < (n2 : Int))) = true, PureX Try.prog 8 #[] (rt (bb (true)))]) := by kernel_rfl
theorem e4_2Wd (cap1 o2 cap2 n2 : Nat) (c2 : Array Value) (a1 a2 g b t' q m g2 b2 t2 q2 m2 y : Int) : runF Try.prog 1000 [] 4 #[cv (slw 1 0 2 cap1) g b t' q m, cv (slw 2 o2 n2 cap2) g2 b2 t2 q2 m2, ii y] [(1, wib [a1, a2]), (2, win o2 c2)] [n, n, t] [(8, rt (bb true))] [] [] =
    some (rt (bb true), [], [(decide (60 < (n2 : Int))) = true, PureX Try.prog 8 #[] (rt (bb (true)))]) := by kernel_rfl
theorem e4_3Wd (cap1 o2 cap2 n2 : Nat) (c2 : Array Value) (a1 a2 a3 g b t' q m g2 b2 t2 q2 m2 y : Int) : runF Try.prog 1000 [] 4 #[cv (slw 1 0 3 cap1) g b t' q m, cv (slw 2 o2 n2 cap2) g2 b2 t2 q2 m2, ii y] [(1, wib [a1, a2, a3]), (2, win o2 c2)] [n, n, t] [(8, rt (bb true))] [] [] =
    some (rt (bb true), [], [(decide (60 < (n2 : Int))) = true, PureX Try.prog 8 #[] (rt (bb (true)))]) := by kernel_rfl
theorem e4_4Wd (cap1 o2 cap2 n2 : Nat) (c2 : Array Value) (a1 a2 a3 a4 g b t' q m g2 b2 t2 q2 m2 y : Int) : runF Try.prog 1000 [] 4 #[cv (slw 1 0 4 cap1) g b t' q m, cv (slw 2 o2 n2 cap2) g2 b2 t2 q2 m2, ii y] [(1, wib [a1, a2, a3, a4]), (2, win o2 c2)] [n, n, t] [(8, rt (bb true))] [] [] =
    some (rt (bb true), [], [(decide (60 < (n2 : Int))) = true, PureX Try.prog 8 #[] (rt (bb (true)))]) := by kernel_rfl
end Go.Proofs.Ytelohlpjgfknoaa
