/- Texts of the seat, joined. -/
import Derived.Test.YtelohlpjgfknoaaZz9
/- Lists and configurations compared, made of a row, and copied: what comes of each call, by letters. -/
namespace Go.Proofs.Ytelohlpjgfknoaa
open Go Go.RowKit
set_option linter.unusedSimpArgs false
set_option linter.unusedVariables false
set_option maxRecDepth 100000

theorem eq13_nn  : runF Try.prog 1000 [] 13 #[sl0, sl0] [] [n, n] [] [] [] =
    some (rt (bb (true)), [], []) := by kernel_rfl
theorem eq13_nw_x (o2 cap2 n' : Nat) (c2 : Array Value) : runF Try.prog 1000 [2] 13 #[sl0, slw 2 o2 n' cap2] [(2, win o2 c2)] [t] [] [] [] =
    some (rt (bb false), [(2, win o2 c2)], [((0 : Int) != (n' : Int)) = true]) := by kernel_rfl
theorem eq13_nw_o (o2 cap2 : Nat) (c2 : Array Value) : runF Try.prog 1000 [2] 13 #[sl0, slw 2 o2 0 cap2] [(2, win o2 c2)] [n, n] [] [] [] =
    some (rt (bb true), [(2, win o2 c2)], []) := by kernel_rfl
theorem eq13_wn_x (o1 cap1 n' : Nat) (c1 : Array Value) : runF Try.prog 1000 [1] 13 #[slw 1 o1 n' cap1, sl0] [(1, win o1 c1)] [t] [] [] [] =
    some (rt (bb false), [(1, win o1 c1)], [((n' : Int) != (0 : Int)) = true]) := by kernel_rfl
theorem eq13_wn_o (o1 cap1 : Nat) (c1 : Array Value) : runF Try.prog 1000 [1] 13 #[slw 1 o1 0 cap1, sl0] [(1, win o1 c1)] [n, n] [] [] [] =
    some (rt (bb true), [(1, win o1 c1)], []) := by kernel_rfl
theorem eq13_ww_x (o1 o2 cap1 cap2 n' m' : Nat) (c1 c2 : Array Value) : runF Try.prog 1000 [1, 2] 13 #[slw 1 o1 n' cap1, slw 2 o2 m' cap2] [(1, win o1 c1), (2, win o2 c2)] [t] [] [] [] =
    some (rt (bb false), [(1, win o1 c1), (2, win o2 c2)], [((n' : Int) != (m' : Int)) = true]) := by kernel_rfl
theorem eq34_nn  : runF Try.prog 1000 [] 34 #[sl0, sl0] [] [n, n] [] [] [] =
    some (rt (bb (true)), [], []) := by kernel_rfl
theorem eq34_nw_x (o2 cap2 n' : Nat) (c2 : Array Value) : runF Try.prog 1000 [2] 34 #[sl0, slw 2 o2 n' cap2] [(2, win o2 c2)] [t] [] [] [] =
    some (rt (bb false), [(2, win o2 c2)], [((0 : Int) != (n' : Int)) = true]) := by kernel_rfl
theorem eq34_nw_o (o2 cap2 : Nat) (c2 : Array Value) : runF Try.prog 1000 [2] 34 #[sl0, slw 2 o2 0 cap2] [(2, win o2 c2)] [n, n] [] [] [] =
    some (rt (bb true), [(2, win o2 c2)], []) := by kernel_rfl
theorem eq34_wn_x (o1 cap1 n' : Nat) (c1 : Array Value) : runF Try.prog 1000 [1] 34 #[slw 1 o1 n' cap1, sl0] [(1, win o1 c1)] [t] [] [] [] =
    some (rt (bb false), [(1, win o1 c1)], [((n' : Int) != (0 : Int)) = true]) := by kernel_rfl
theorem eq34_wn_o (o1 cap1 : Nat) (c1 : Array Value) : runF Try.prog 1000 [1] 34 #[slw 1 o1 0 cap1, sl0] [(1, win o1 c1)] [n, n] [] [] [] =
    some (rt (bb true), [(1, win o1 c1)], []) := by kernel_rfl
theorem eq34_ww_x (o1 o2 cap1 cap2 n' m' : Nat) (c1 c2 : Array Value) : runF Try.prog 1000 [1, 2] 34 #[slw 1 o1 n' cap1, slw 2 o2 m' cap2] [(1, win o1 c1), (2, win o2 c2)] [t] [] [] [] =
    some (rt (bb false), [(1, win o1 c1), (2, win o2 c2)], [((n' : Int) != (m' : Int)) = true]) := by kernel_rfl
theorem same_nn_1 (g b t' q m g2 b2 t2 q2 m2 : Int) : runF Try.prog 1000 [] 14 #[cv (sl0) g b t' q m, cv (sl0) g2 b2 t2 q2 m2] [] [n, n, n, n, n, t, n, n, n, n, n, n, n, n, n, n, n, n, n, n, n, n, n, n, n, n] [] [] [] =
    some (rt (bb false), [], [(g != g2) = true]) := by kernel_rfl
theorem same_nn_2 (g b t' q m b2 t2 q2 m2 : Int) : runF Try.prog 1000 [] 14 #[cv (sl0) g b t' q m, cv (sl0) g b2 t2 q2 m2] [] [n, n, n, n, n, f, n, n, n, n, t, n, n, n, n, n, n, n, n, n, n, n, n, n, n, n] [] [] [] =
    some (rt (bb false), [], [(g != g) = false, (b != b2) = true]) := by kernel_rfl
theorem same_nn_3 (g b t' q m t2 q2 m2 : Int) : runF Try.prog 1000 [] 14 #[cv (sl0) g b t' q m, cv (sl0) g b t2 q2 m2] [] [n, n, n, n, n, f, n, n, n, n, f, n, n, n, n, t, n, n, n, n, n, n, n, n, n, n] [] [] [] =
    some (rt (bb false), [], [(g != g) = false, (b != b) = false, (t' != t2) = true]) := by kernel_rfl
theorem same_nn_4 (g b t' q m q2 m2 : Int) : runF Try.prog 1000 [] 14 #[cv (sl0) g b t' q m, cv (sl0) g b t' q2 m2] [] [n, n, n, n, n, f, n, n, n, n, f, n, n, n, n, f, n, n, n, n, t, n, n, n, n, n] [] [] [] =
    some (rt (bb false), [], [(g != g) = false, (b != b) = false, (t' != t') = false, (q != q2) = true]) := by kernel_rfl
theorem same_nn_5 (g b t' q m m2 : Int) : runF Try.prog 1000 [] 14 #[cv (sl0) g b t' q m, cv (sl0) g b t' q m2] [] [n, n, n, n, n, f, n, n, n, n, f, n, n, n, n, f, n, n, n, n, f, n, n, n, n, t] [] [] [] =
    some (rt (bb false), [], [(g != g) = false, (b != b) = false, (t' != t') = false, (q != q) = false, (m != m2) = true]) := by kernel_rfl
theorem same_nn_o (g b t' q m : Int) : runF Try.prog 1000 [] 14 #[cv (sl0) g b t' q m, cv (sl0) g b t' q m] [] [n, n, n, n, n, f, n, n, n, n, f, n, n, n, n, f, n, n, n, n, f, n, n, n, n, f, n] [] [] [] =
    some (rt (bb true), [], [(g != g) = false, (b != b) = false, (t' != t') = false, (q != q) = false, (m != m) = false]) := by kernel_rfl
theorem same_nw_0 (o2 cap2 n' : Nat) (c2 : Array Value) (g b t' q m g2 b2 t2 q2 m2 : Int) : runF Try.prog 1000 [2] 14 #[cv (sl0) g b t' q m, cv (slw 2 o2 n' cap2) g2 b2 t2 q2 m2] [(2, win o2 c2)] [t, n, n, n, n, n, n, n, n, n, n, n, n, n, n, n, n, n, n, n, n, n, n, n, n, n] [] [] [] =
    some (rt (bb false), [(2, win o2 c2)], [((0 : Int) != (n' : Int)) = true]) := by kernel_rfl
theorem same_nw_1 (o2 cap2 : Nat) (c2 : Array Value) (g b t' q m g2 b2 t2 q2 m2 : Int) : runF Try.prog 1000 [2] 14 #[cv (sl0) g b t' q m, cv (slw 2 o2 0 cap2) g2 b2 t2 q2 m2] [(2, win o2 c2)] [n, n, n, n, n, t, n, n, n, n, n, n, n, n, n, n, n, n, n, n, n, n, n, n, n, n] [] [] [] =
    some (rt (bb false), [(2, win o2 c2)], [(g != g2) = true]) := by kernel_rfl
theorem same_nw_2 (o2 cap2 : Nat) (c2 : Array Value) (g b t' q m b2 t2 q2 m2 : Int) : runF Try.prog 1000 [2] 14 #[cv (sl0) g b t' q m, cv (slw 2 o2 0 cap2) g b2 t2 q2 m2] [(2, win o2 c2)] [n, n, n, n, n, f, n, n, n, n, t, n, n, n, n, n, n, n, n, n, n, n, n, n, n, n] [] [] [] =
    some (rt (bb false), [(2, win o2 c2)], [(g != g) = false, (b != b2) = true]) := by kernel_rfl
theorem same_nw_3 (o2 cap2 : Nat) (c2 : Array Value) (g b t' q m t2 q2 m2 : Int) : runF Try.prog 1000 [2] 14 #[cv (sl0) g b t' q m, cv (slw 2 o2 0 cap2) g b t2 q2 m2] [(2, win o2 c2)] [n, n, n, n, n, f, n, n, n, n, f, n, n, n, n, t, n, n, n, n, n, n, n, n, n, n] [] [] [] =
    some (rt (bb false), [(2, win o2 c2)], [(g != g) = false, (b != b) = false, (t' != t2) = true]) := by kernel_rfl
theorem same_nw_4 (o2 cap2 : Nat) (c2 : Array Value) (g b t' q m q2 m2 : Int) : runF Try.prog 1000 [2] 14 #[cv (sl0) g b t' q m, cv (slw 2 o2 0 cap2) g b t' q2 m2] [(2, win o2 c2)] [n, n, n, n, n, f, n, n, n, n, f, n, n, n, n, f, n, n, n, n, t, n, n, n, n, n] [] [] [] =
    some (rt (bb false), [(2, win o2 c2)], [(g != g) = false, (b != b) = false, (t' != t') = false, (q != q2) = true]) := by kernel_rfl
theorem same_nw_5 (o2 cap2 : Nat) (c2 : Array Value) (g b t' q m m2 : Int) : runF Try.prog 1000 [2] 14 #[cv (sl0) g b t' q m, cv (slw 2 o2 0 cap2) g b t' q m2] [(2, win o2 c2)] [n, n, n, n, n, f, n, n, n, n, f, n, n, n, n, f, n, n, n, n, f, n, n, n, n, t] [] [] [] =
    some (rt (bb false), [(2, win o2 c2)], [(g != g) = false, (b != b) = false, (t' != t') = false, (q != q) = false, (m != m2) = true]) := by kernel_rfl
theorem same_nw_o (o2 cap2 : Nat) (c2 : Array Value) (g b t' q m : Int) : runF Try.prog 1000 [2] 14 #[cv (sl0) g b t' q m, cv (slw 2 o2 0 cap2) g b t' q m] [(2, win o2 c2)] [n, n, n, n, n, f, n, n, n, n, f, n, n, n, n, f, n, n, n, n, f, n, n, n, n, f, n] [] [] [] =
    some (rt (bb true), [(2, win o2 c2)], [(g != g) = false, (b != b) = false, (t' != t') = false, (q != q) = false, (m != m) = false]) := by kernel_rfl
theorem same_wn_0 (o1 cap1 n' : Nat) (c1 : Array Value) (g b t' q m g2 b2 t2 q2 m2 : Int) : runF Try.prog 1000 [1] 14 #[cv (slw 1 o1 n' cap1) g b t' q m, cv (sl0) g2 b2 t2 q2 m2] [(1, win o1 c1)] [t, n, n, n, n, n, n, n, n, n, n, n, n, n, n, n, n, n, n, n, n, n, n, n, n, n] [] [] [] =
    some (rt (bb false), [(1, win o1 c1)], [((n' : Int) != (0 : Int)) = true]) := by kernel_rfl
theorem same_wn_1 (o1 cap1 : Nat) (c1 : Array Value) (g b t' q m g2 b2 t2 q2 m2 : Int) : runF Try.prog 1000 [1] 14 #[cv (slw 1 o1 0 cap1) g b t' q m, cv (sl0) g2 b2 t2 q2 m2] [(1, win o1 c1)] [n, n, n, n, n, t, n, n, n, n, n, n, n, n, n, n, n, n, n, n, n, n, n, n, n, n] [] [] [] =
    some (rt (bb false), [(1, win o1 c1)], [(g != g2) = true]) := by kernel_rfl
theorem same_wn_2 (o1 cap1 : Nat) (c1 : Array Value) (g b t' q m b2 t2 q2 m2 : Int) : runF Try.prog 1000 [1] 14 #[cv (slw 1 o1 0 cap1) g b t' q m, cv (sl0) g b2 t2 q2 m2] [(1, win o1 c1)] [n, n, n, n, n, f, n, n, n, n, t, n, n, n, n, n, n, n, n, n, n, n, n, n, n, n] [] [] [] =
    some (rt (bb false), [(1, win o1 c1)], [(g != g) = false, (b != b2) = true]) := by kernel_rfl
theorem same_wn_3 (o1 cap1 : Nat) (c1 : Array Value) (g b t' q m t2 q2 m2 : Int) : runF Try.prog 1000 [1] 14 #[cv (slw 1 o1 0 cap1) g b t' q m, cv (sl0) g b t2 q2 m2] [(1, win o1 c1)] [n, n, n, n, n, f, n, n, n, n, f, n, n, n, n, t, n, n, n, n, n, n, n, n, n, n] [] [] [] =
    some (rt (bb false), [(1, win o1 c1)], [(g != g) = false, (b != b) = false, (t' != t2) = true]) := by kernel_rfl
theorem same_wn_4 (o1 cap1 : Nat) (c1 : Array Value) (g b t' q m q2 m2 : Int) : runF Try.prog 1000 [1] 14 #[cv (slw 1 o1 0 cap1) g b t' q m, cv (sl0) g b t' q2 m2] [(1, win o1 c1)] [n, n, n, n, n, f, n, n, n, n, f, n, n, n, n, f, n, n, n, n, t, n, n, n, n, n] [] [] [] =
    some (rt (bb false), [(1, win o1 c1)], [(g != g) = false, (b != b) = false, (t' != t') = false, (q != q2) = true]) := by kernel_rfl
theorem same_wn_5 (o1 cap1 : Nat) (c1 : Array Value) (g b t' q m m2 : Int) : runF Try.prog 1000 [1] 14 #[cv (slw 1 o1 0 cap1) g b t' q m, cv (sl0) g b t' q m2] [(1, win o1 c1)] [n, n, n, n, n, f, n, n, n, n, f, n, n, n, n, f, n, n, n, n, f, n, n, n, n, t] [] [] [] =
    some (rt (bb false), [(1, win o1 c1)], [(g != g) = false, (b != b) = false, (t' != t') = false, (q != q) = false, (m != m2) = true]) := by kernel_rfl
theorem same_wn_o (o1 cap1 : Nat) (c1 : Array Value) (g b t' q m : Int) : runF Try.prog 1000 [1] 14 #[cv (slw 1 o1 0 cap1) g b t' q m, cv (sl0) g b t' q m] [(1, win o1 c1)] [n, n, n, n, n, f, n, n, n, n, f, n, n, n, n, f, n, n, n, n, f, n, n, n, n, f, n] [] [] [] =
    some (rt (bb true), [(1, win o1 c1)], [(g != g) = false, (b != b) = false, (t' != t') = false, (q != q) = false, (m != m) = false]) := by kernel_rfl
theorem same_ww_0 (o1 o2 cap1 cap2 n' m' : Nat) (c1 c2 : Array Value) (g b t' q m g2 b2 t2 q2 m2 : Int) : runF Try.prog 1000 [1, 2] 14 #[cv (slw 1 o1 n' cap1) g b t' q m, cv (slw 2 o2 m' cap2) g2 b2 t2 q2 m2] [(1, win o1 c1), (2, win o2 c2)] [t, n, n, n, n, n, n, n, n, n, n, n, n, n, n, n, n, n, n, n, n, n, n, n, n, n] [] [] [] =
    some (rt (bb false), [(1, win o1 c1), (2, win o2 c2)], [((n' : Int) != (m' : Int)) = true]) := by kernel_rfl
theorem same_ww_1 (o1 o2 cap1 cap2 n' : Nat) (c1 c2 : Array Value) (g b t' q m g2 b2 t2 q2 m2 : Int) : runF Try.prog 1000 [1, 2] 14 #[cv (slw 1 o1 n' cap1) g b t' q m, cv (slw 2 o2 n' cap2) g2 b2 t2 q2 m2] [(1, win o1 c1), (2, win o2 c2)] [f, n, n, n, n, t, n, n, n, n, n, n, n, n, n, n, n, n, n, n, n, n, n, n, n, n] [] [] [] =
    some (rt (bb false), [(1, win o1 c1), (2, win o2 c2)], [((n' : Int) != (n' : Int)) = false, (g != g2) = true]) := by kernel_rfl
theorem same_ww_2 (o1 o2 cap1 cap2 n' : Nat) (c1 c2 : Array Value) (g b t' q m b2 t2 q2 m2 : Int) : runF Try.prog 1000 [1, 2] 14 #[cv (slw 1 o1 n' cap1) g b t' q m, cv (slw 2 o2 n' cap2) g b2 t2 q2 m2] [(1, win o1 c1), (2, win o2 c2)] [f, n, n, n, n, f, n, n, n, n, t, n, n, n, n, n, n, n, n, n, n, n, n, n, n, n] [] [] [] =
    some (rt (bb false), [(1, win o1 c1), (2, win o2 c2)], [((n' : Int) != (n' : Int)) = false, (g != g) = false, (b != b2) = true]) := by kernel_rfl
theorem same_ww_3 (o1 o2 cap1 cap2 n' : Nat) (c1 c2 : Array Value) (g b t' q m t2 q2 m2 : Int) : runF Try.prog 1000 [1, 2] 14 #[cv (slw 1 o1 n' cap1) g b t' q m, cv (slw 2 o2 n' cap2) g b t2 q2 m2] [(1, win o1 c1), (2, win o2 c2)] [f, n, n, n, n, f, n, n, n, n, f, n, n, n, n, t, n, n, n, n, n, n, n, n, n, n] [] [] [] =
    some (rt (bb false), [(1, win o1 c1), (2, win o2 c2)], [((n' : Int) != (n' : Int)) = false, (g != g) = false, (b != b) = false, (t' != t2) = true]) := by kernel_rfl
theorem same_ww_4 (o1 o2 cap1 cap2 n' : Nat) (c1 c2 : Array Value) (g b t' q m q2 m2 : Int) : runF Try.prog 1000 [1, 2] 14 #[cv (slw 1 o1 n' cap1) g b t' q m, cv (slw 2 o2 n' cap2) g b t' q2 m2] [(1, win o1 c1), (2, win o2 c2)] [f, n, n, n, n, f, n, n, n, n, f, n, n, n, n, f, n, n, n, n, t, n, n, n, n, n] [] [] [] =
    some (rt (bb false), [(1, win o1 c1), (2, win o2 c2)], [((n' : Int) != (n' : Int)) = false, (g != g) = false, (b != b) = false, (t' != t') = false, (q != q2) = true]) := by kernel_rfl
theorem same_ww_5 (o1 o2 cap1 cap2 n' : Nat) (c1 c2 : Array Value) (g b t' q m m2 : Int) : runF Try.prog 1000 [1, 2] 14 #[cv (slw 1 o1 n' cap1) g b t' q m, cv (slw 2 o2 n' cap2) g b t' q m2] [(1, win o1 c1), (2, win o2 c2)] [f, n, n, n, n, f, n, n, n, n, f, n, n, n, n, f, n, n, n, n, f, n, n, n, n, t] [] [] [] =
    some (rt (bb false), [(1, win o1 c1), (2, win o2 c2)], [((n' : Int) != (n' : Int)) = false, (g != g) = false, (b != b) = false, (t' != t') = false, (q != q) = false, (m != m2) = true]) := by kernel_rfl
theorem psame_nn_0 (g b t' q m g2 b2 t2 q2 m2 : Int) : runF Try.prog 1000 [] 23 #[cv (sl0) g b t' q m, cv (sl0) g2 b2 t2 q2 m2] [] [n, n, n, n, n] [(34, rt (bb false))] [] [] =
    some (rt (bb false), [], [PureX Try.prog 34 #[.slice none 0 0, .slice none 0 0] (rt (bb (false)))]) := by kernel_rfl
theorem psame_nn_1 (g b t' q m g2 b2 t2 q2 m2 : Int) : runF Try.prog 1000 [] 23 #[cv (sl0) g b t' q m, cv (sl0) g2 b2 t2 q2 m2] [] [n, n, n, n, n] [(34, rt (bb true))] [] [] =
    some (rt (bb (g == g2 && (b == b2 && (t' == t2 && (q == q2 && (m == m2 && true)))))), [], [PureX Try.prog 34 #[.slice none 0 0, .slice none 0 0] (rt (bb (true)))]) := by kernel_rfl
theorem psame_nw_0 (o2 cap2 m' : Nat) (c2 : Array Value) (g b t' q m g2 b2 t2 q2 m2 : Int) : runF Try.prog 1000 [2] 23 #[cv (sl0) g b t' q m, cv (slw 2 o2 m' cap2) g2 b2 t2 q2 m2] [(2, win o2 c2)] [n, n, n, n, n] [] [(34, rt (bb false), [(2, win o2 c2)])] [] =
    some (rt (bb false), [(2, win o2 c2)], [CallsV Try.prog (.func 34) #[sl0, slw 2 o2 m' cap2] [(2, win o2 c2)] (rt (bb false)) [(2, win o2 c2)]]) := by kernel_rfl
theorem psame_nw_1 (o2 cap2 m' : Nat) (c2 : Array Value) (g b t' q m g2 b2 t2 q2 m2 : Int) : runF Try.prog 1000 [2] 23 #[cv (sl0) g b t' q m, cv (slw 2 o2 m' cap2) g2 b2 t2 q2 m2] [(2, win o2 c2)] [n, n, n, n, n] [] [(34, rt (bb true), [(2, win o2 c2)])] [] =
    some (rt (bb (g == g2 && (b == b2 && (t' == t2 && (q == q2 && (m == m2 && true)))))), [(2, win o2 c2)], [CallsV Try.prog (.func 34) #[sl0, slw 2 o2 m' cap2] [(2, win o2 c2)] (rt (bb true)) [(2, win o2 c2)]]) := by kernel_rfl
theorem psame_wn_0 (o1 cap1 n' : Nat) (c1 : Array Value) (g b t' q m g2 b2 t2 q2 m2 : Int) : runF Try.prog 1000 [1] 23 #[cv (slw 1 o1 n' cap1) g b t' q m, cv (sl0) g2 b2 t2 q2 m2] [(1, win o1 c1)] [n, n, n, n, n] [] [(34, rt (bb false), [(1, win o1 c1)])] [] =
    some (rt (bb false), [(1, win o1 c1)], [CallsV Try.prog (.func 34) #[slw 1 o1 n' cap1, sl0] [(1, win o1 c1)] (rt (bb false)) [(1, win o1 c1)]]) := by kernel_rfl
theorem psame_wn_1 (o1 cap1 n' : Nat) (c1 : Array Value) (g b t' q m g2 b2 t2 q2 m2 : Int) : runF Try.prog 1000 [1] 23 #[cv (slw 1 o1 n' cap1) g b t' q m, cv (sl0) g2 b2 t2 q2 m2] [(1, win o1 c1)] [n, n, n, n, n] [] [(34, rt (bb true), [(1, win o1 c1)])] [] =
    some (rt (bb (g == g2 && (b == b2 && (t' == t2 && (q == q2 && (m == m2 && true)))))), [(1, win o1 c1)], [CallsV Try.prog (.func 34) #[slw 1 o1 n' cap1, sl0] [(1, win o1 c1)] (rt (bb true)) [(1, win o1 c1)]]) := by kernel_rfl
theorem psame_ww_0 (o1 o2 cap1 cap2 n' m' : Nat) (c1 c2 : Array Value) (g b t' q m g2 b2 t2 q2 m2 : Int) : runF Try.prog 1000 [1, 2] 23 #[cv (slw 1 o1 n' cap1) g b t' q m, cv (slw 2 o2 m' cap2) g2 b2 t2 q2 m2] [(1, win o1 c1), (2, win o2 c2)] [n, n, n, n, n] [] [(34, rt (bb false), [(1, win o1 c1), (2, win o2 c2)])] [] =
    some (rt (bb false), [(1, win o1 c1), (2, win o2 c2)], [CallsV Try.prog (.func 34) #[slw 1 o1 n' cap1, slw 2 o2 m' cap2] [(1, win o1 c1), (2, win o2 c2)] (rt (bb false)) [(1, win o1 c1), (2, win o2 c2)]]) := by kernel_rfl
theorem psame_ww_1 (o1 o2 cap1 cap2 n' m' : Nat) (c1 c2 : Array Value) (g b t' q m g2 b2 t2 q2 m2 : Int) : runF Try.prog 1000 [1, 2] 23 #[cv (slw 1 o1 n' cap1) g b t' q m, cv (slw 2 o2 m' cap2) g2 b2 t2 q2 m2] [(1, win o1 c1), (2, win o2 c2)] [n, n, n, n, n] [] [(34, rt (bb true), [(1, win o1 c1), (2, win o2 c2)])] [] =
    some (rt (bb (g == g2 && (b == b2 && (t' == t2 && (q == q2 && (m == m2 && true)))))), [(2, win o2 c2), (1, win o1 c1)], [CallsV Try.prog (.func 34) #[slw 1 o1 n' cap1, slw 2 o2 m' cap2] [(1, win o1 c1), (2, win o2 c2)] (rt (bb true)) [(1, win o1 c1), (2, win o2 c2)]]) := by kernel_rfl
theorem own_n (g b t' q m : Int) : runF Try.prog 1000 [] 24 #[cv sl0 g b t' q m] [] [] [] [] [] =
    some (rt (cv sl0 g b t' q m), [], []) := by kernel_rfl
theorem own_z (off cap : Nat) (c : Array Value) (g b t' q m : Int) : runF Try.prog 1000 [1] 24 #[cv (slw 1 off 0 cap) g b t' q m] [(1, win off c)] [] [] [] [] =
    some (rt (cv sl0 g b t' q m), [(1, win off c)], []) := by kernel_rfl
theorem own_w (off n' cap : Nat) (c : Array Value) (vs : List Value) (g b t' q m : Int) : runF Try.prog 2000 [1, 2002] 24 #[cv (slw 1 off n' cap) g b t' q m] [(1, win off c)] [] [] [] [.nilFunc :: vs] =
    some (rt (cv (slw 2002 0 n' capU) g b t' q m), [(2002, .chan 1 ⟨vs⟩ false 3 0 false), (1, win off c)], [off ≤ off, (0 < n' ∧ n' ≤ maxLen ∧ n' * 8 ≤ 140737488355328 ∧ vs.length = n' * 1) ∧ wfL noB vs = true ∧ (c.toList.drop off).take vs.length = vs]) := by kernel_rfl
theorem of_n  : runF Try.prog 1000 [] 11 #[sl0] [] [n, n, n, n, n, n, n, n, n, n, n, n, n] [] [] [] =
    some (rt (tp [cv sl0 0 0 0 0 0, ii 110]), [], []) := by kernel_rfl
theorem of_0 (off n' cap : Nat) (c : Array Value) : runF Try.prog 1000 [1] 11 #[slw 1 off n' cap] [(1, win off c)] [t, n, n, n, n, n, n, n, n, n, n, n, n] [] [] [] =
    some (rt (tp [cv sl0 0 0 0 0 0, ii 110]), [(1, win off c)], [((n' : Int) == 0) = true]) := by kernel_rfl
theorem of_1 (off n' cap : Nat) (c : Array Value) (x : Int) : runF Try.prog 1000 [1] 11 #[slw 1 off n' cap] [(1, win off c)] [f, n, n, n, n, n, n, n, n, n, n, n, n] [(28, rt (bb false))] [] [[ii x]] =
    some (rt (tp [cv sl0 0 0 0 0 0, ii 110]), [(1, win off c)], [((n' : Int) == 0) = false, 0 ≤ (0 : Int) ∧ (0 : Int) < (n' : Int), off ≤ off + 0, c[off + 0]? = some (ii x), PureX Try.prog 28 #[ii (x)] (rt (bb (false)))]) := by kernel_rfl
theorem of_2 (off n' cap : Nat) (c : Array Value) (x : Int) : runF Try.prog 1000 [1] 11 #[slw 1 off n' cap] [(1, win off c)] [f, n, n, n, n, n, n, n, n, n, n, n, t] [(28, rt (bb true))] [] [[ii x], [ii x]] =
    some (rt (tp [cv sl0 0 0 0 0 0, ii 110]), [(1, win off c)], [((n' : Int) == 0) = false, 0 ≤ (0 : Int) ∧ (0 : Int) < (n' : Int), off ≤ off + 0, c[off + 0]? = some (ii x), PureX Try.prog 28 #[ii (x)] (rt (bb (true))), 0 ≤ (0 : Int) ∧ (0 : Int) < (n' : Int), off ≤ off + 0, c[off + 0]? = some (ii x), ((n' : Int) != wi (wi (1 + x) + 5)) = true]) := by kernel_rfl
theorem dof_n  : runF Try.prog 1000 [] 12 #[sl0] [] [n, n, n, n, n, n] [] [] [] =
    some (rt (tp [cv sl0 0 0 0 0 0, ii 110]), [], []) := by kernel_rfl
theorem dof_0 (off n' cap : Nat) (c : Array Value) : runF Try.prog 1000 [1] 12 #[slw 1 off n' cap] [(1, win off c)] [t, n, n, n, n, n] [] [] [] =
    some (rt (tp [cv sl0 0 0 0 0 0, ii 110]), [(1, win off c)], [(decide (wi ((n' : Int) - 6) < 1)) = true]) := by kernel_rfl
theorem dof_1 (off n' cap : Nat) (c : Array Value) (x : Int) : runF Try.prog 1000 [1] 12 #[slw 1 off n' cap] [(1, win off c)] [f, n, n, n, n, t] [] [] [[ii x]] =
    some (rt (tp [cv sl0 0 0 0 0 0, ii 110]), [(1, win off c)], [(decide (wi ((n' : Int) - 6) < 1)) = false, 0 ≤ (0 : Int) ∧ (0 : Int) < (n' : Int), off ≤ off + 0, c[off + 0]? = some (ii x), (x != wi ((n' : Int) - 6)) = true]) := by kernel_rfl
theorem of_1_0 (cap : Nat) (a1 g b t' q m : Int) : runF Try.prog 4000 [1] 11 #[slw 1 0 7 cap] [(1, wib [1, a1, g, b, t', q, m])] [n, n, n, n, n, n, n, n, n, n, n, n, n, n, n, n, n] [] [(15, rt (ii 110), [(4002, gib [a1])])] [] =
    some (rt (tp [cv sl0 0 0 0 0 0, ii 110]), [(1, wib [1, a1, g, b, t', q, m])], [7 ≤ cap ∧ cap ≤ maxLen, CallsV Try.prog (.func 15) #[cv (slw 4002 0 1 capU) g b t' q m] [(4002, gib [a1])] (rt (ii 110)) [(4002, gib [a1])]]) := by kernel_rfl
theorem of_1_1 (cap : Nat) (a1 g b t' q m : Int) : runF Try.prog 4000 [1, 4002] 11 #[slw 1 0 7 cap] [(1, wib [1, a1, g, b, t', q, m])] [n, n, n, n, n, n, n, n, n, n, n, n, n, n, n, n, n] [] [(15, rt (ii 0), [(4002, gib [a1])])] [] =
    some (rt (tp [cv (slw 4002 0 1 capU) g b t' q m, ii 0]), [(4002, gib [a1]), (1, wib [1, a1, g, b, t', q, m])], [7 ≤ cap ∧ cap ≤ maxLen, CallsV Try.prog (.func 15) #[cv (slw 4002 0 1 capU) g b t' q m] [(4002, gib [a1])] (rt (ii 0)) [(4002, gib [a1])]]) := by kernel_rfl
theorem dof_1_0 (cap : Nat) (a1 g b t' q m : Int) : runF Try.prog 4000 [1] 12 #[slw 1 0 7 cap] [(1, wib [1, a1, g, b, t', q, m])] [n, n, n, n, n, n, n] [] [(16, rt (ii 110), [(4002, gib [a1])])] [] =
    some (rt (tp [cv sl0 0 0 0 0 0, ii 110]), [(1, wib [1, a1, g, b, t', q, m])], [7 ≤ cap ∧ cap ≤ maxLen, 7 ≤ cap ∧ cap ≤ maxLen, CallsV Try.prog (.func 16) #[cv (slw 4002 0 1 capU) g b t' q m] [(4002, gib [a1])] (rt (ii 110)) [(4002, gib [a1])]]) := by kernel_rfl
theorem dof_1_1 (cap : Nat) (a1 g b t' q m : Int) : runF Try.prog 4000 [1, 4002] 12 #[slw 1 0 7 cap] [(1, wib [1, a1, g, b, t', q, m])] [n, n, n, n, n, n, n] [] [(16, rt (ii 0), [(4002, gib [a1])])] [] =
    some (rt (tp [cv (slw 4002 0 1 capU) g b t' q m, ii 0]), [(4002, gib [a1]), (1, wib [1, a1, g, b, t', q, m])], [7 ≤ cap ∧ cap ≤ maxLen, 7 ≤ cap ∧ cap ≤ maxLen, CallsV Try.prog (.func 16) #[cv (slw 4002 0 1 capU) g b t' q m] [(4002, gib [a1])] (rt (ii 0)) [(4002, gib [a1])]]) := by kernel_rfl
theorem of_2_0 (cap : Nat) (a1 a2 g b t' q m : Int) : runF Try.prog 4000 [1] 11 #[slw 1 0 8 cap] [(1, wib [2, a1, a2, g, b, t', q, m])] [n, n, n, n, n, n, n, n, n, n, n, n, n, n, n, n, n] [] [(15, rt (ii 110), [(4002, gib [a1, a2])])] [] =
    some (rt (tp [cv sl0 0 0 0 0 0, ii 110]), [(1, wib [2, a1, a2, g, b, t', q, m])], [8 ≤ cap ∧ cap ≤ maxLen, CallsV Try.prog (.func 15) #[cv (slw 4002 0 2 capU) g b t' q m] [(4002, gib [a1, a2])] (rt (ii 110)) [(4002, gib [a1, a2])]]) := by kernel_rfl
theorem of_2_1 (cap : Nat) (a1 a2 g b t' q m : Int) : runF Try.prog 4000 [1, 4002] 11 #[slw 1 0 8 cap] [(1, wib [2, a1, a2, g, b, t', q, m])] [n, n, n, n, n, n, n, n, n, n, n, n, n, n, n, n, n] [] [(15, rt (ii 0), [(4002, gib [a1, a2])])] [] =
    some (rt (tp [cv (slw 4002 0 2 capU) g b t' q m, ii 0]), [(4002, gib [a1, a2]), (1, wib [2, a1, a2, g, b, t', q, m])], [8 ≤ cap ∧ cap ≤ maxLen, CallsV Try.prog (.func 15) #[cv (slw 4002 0 2 capU) g b t' q m] [(4002, gib [a1, a2])] (rt (ii 0)) [(4002, gib [a1, a2])]]) := by kernel_rfl
theorem dof_2_0 (cap : Nat) (a1 a2 g b t' q m : Int) : runF Try.prog 4000 [1] 12 #[slw 1 0 8 cap] [(1, wib [2, a1, a2, g, b, t', q, m])] [n, n, n, n, n, n, n] [] [(16, rt (ii 110), [(4002, gib [a1, a2])])] [] =
    some (rt (tp [cv sl0 0 0 0 0 0, ii 110]), [(1, wib [2, a1, a2, g, b, t', q, m])], [8 ≤ cap ∧ cap ≤ maxLen, 8 ≤ cap ∧ cap ≤ maxLen, CallsV Try.prog (.func 16) #[cv (slw 4002 0 2 capU) g b t' q m] [(4002, gib [a1, a2])] (rt (ii 110)) [(4002, gib [a1, a2])]]) := by kernel_rfl
theorem dof_2_1 (cap : Nat) (a1 a2 g b t' q m : Int) : runF Try.prog 4000 [1, 4002] 12 #[slw 1 0 8 cap] [(1, wib [2, a1, a2, g, b, t', q, m])] [n, n, n, n, n, n, n] [] [(16, rt (ii 0), [(4002, gib [a1, a2])])] [] =
    some (rt (tp [cv (slw 4002 0 2 capU) g b t' q m, ii 0]), [(4002, gib [a1, a2]), (1, wib [2, a1, a2, g, b, t', q, m])], [8 ≤ cap ∧ cap ≤ maxLen, 8 ≤ cap ∧ cap ≤ maxLen, CallsV Try.prog (.func 16) #[cv (slw 4002 0 2 capU) g b t' q m] [(4002, gib [a1, a2])] (rt (ii 0)) [(4002, gib [a1, a2])]]) := by kernel_rfl
theorem of_3_0 (cap : Nat) (a1 a2 a3 g b t' q m : Int) : runF Try.prog 4000 [1] 11 #[slw 1 0 9 cap] [(1, wib [3, a1, a2, a3, g, b, t', q, m])] [n, n, n, n, n, n, n, n, n, n, n, n, n, n, n, n, n] [] [(15, rt (ii 110), [(4002, gib [a1, a2, a3])])] [] =
    some (rt (tp [cv sl0 0 0 0 0 0, ii 110]), [(1, wib [3, a1, a2, a3, g, b, t', q, m])], [9 ≤ cap ∧ cap ≤ maxLen, CallsV Try.prog (.func 15) #[cv (slw 4002 0 3 capU) g b t' q m] [(4002, gib [a1, a2, a3])] (rt (ii 110)) [(4002, gib [a1, a2, a3])]]) := by kernel_rfl
theorem of_3_1 (cap : Nat) (a1 a2 a3 g b t' q m : Int) : runF Try.prog 4000 [1, 4002] 11 #[slw 1 0 9 cap] [(1, wib [3, a1, a2, a3, g, b, t', q, m])] [n, n, n, n, n, n, n, n, n, n, n, n, n, n, n, n, n] [] [(15, rt (ii 0), [(4002, gib [a1, a2, a3])])] [] =
    some (rt (tp [cv (slw 4002 0 3 capU) g b t' q m, ii 0]), [(4002, gib [a1, a2, a3]), (1, wib [3, a1, a2, a3, g, b, t', q, m])], [9 ≤ cap ∧ cap ≤ maxLen, CallsV Try.prog (.func 15) #[cv (slw 4002 0 3 capU) g b t' q m] [(4002, gib [a1, a2, a3])] (rt (ii 0)) [(4002, gib [a1, a2, a3])]]) := by kernel_rfl
theorem dof_3_0 (cap : Nat) (a1 a2 a3 g b t' q m : Int) : runF Try.prog 4000 [1] 12 #[slw 1 0 9 cap] [(1, wib [3, a1, a2, a3, g, b, t', q, m])] [n, n, n, n, n, n, n] [] [(16, rt (ii 110), [(4002, gib [a1, a2, a3])])] [] =
    some (rt (tp [cv sl0 0 0 0 0 0, ii 110]), [(1, wib [3, a1, a2, a3, g, b, t', q, m])], [9 ≤ cap ∧ cap ≤ maxLen, 9 ≤ cap ∧ cap ≤ maxLen, CallsV Try.prog (.func 16) #[cv (slw 4002 0 3 capU) g b t' q m] [(4002, gib [a1, a2, a3])] (rt (ii 110)) [(4002, gib [a1, a2, a3])]]) := by kernel_rfl
theorem dof_3_1 (cap : Nat) (a1 a2 a3 g b t' q m : Int) : runF Try.prog 4000 [1, 4002] 12 #[slw 1 0 9 cap] [(1, wib [3, a1, a2, a3, g, b, t', q, m])] [n, n, n, n, n, n, n] [] [(16, rt (ii 0), [(4002, gib [a1, a2, a3])])] [] =
    some (rt (tp [cv (slw 4002 0 3 capU) g b t' q m, ii 0]), [(4002, gib [a1, a2, a3]), (1, wib [3, a1, a2, a3, g, b, t', q, m])], [9 ≤ cap ∧ cap ≤ maxLen, 9 ≤ cap ∧ cap ≤ maxLen, CallsV Try.prog (.func 16) #[cv (slw 4002 0 3 capU) g b t' q m] [(4002, gib [a1, a2, a3])] (rt (ii 0)) [(4002, gib [a1, a2, a3])]]) := by kernel_rfl
theorem of_4_0 (cap : Nat) (a1 a2 a3 a4 g b t' q m : Int) : runF Try.prog 4000 [1] 11 #[slw 1 0 10 cap] [(1, wib [4, a1, a2, a3, a4, g, b, t', q, m])] [n, n, n, n, n, n, n, n, n, n, n, n, n, n, n, n, n] [] [(15, rt (ii 110), [(4002, gib [a1, a2, a3, a4])])] [] =
    some (rt (tp [cv sl0 0 0 0 0 0, ii 110]), [(1, wib [4, a1, a2, a3, a4, g, b, t', q, m])], [10 ≤ cap ∧ cap ≤ maxLen, CallsV Try.prog (.func 15) #[cv (slw 4002 0 4 capU) g b t' q m] [(4002, gib [a1, a2, a3, a4])] (rt (ii 110)) [(4002, gib [a1, a2, a3, a4])]]) := by kernel_rfl
theorem of_4_1 (cap : Nat) (a1 a2 a3 a4 g b t' q m : Int) : runF Try.prog 4000 [1, 4002] 11 #[slw 1 0 10 cap] [(1, wib [4, a1, a2, a3, a4, g, b, t', q, m])] [n, n, n, n, n, n, n, n, n, n, n, n, n, n, n, n, n] [] [(15, rt (ii 0), [(4002, gib [a1, a2, a3, a4])])] [] =
    some (rt (tp [cv (slw 4002 0 4 capU) g b t' q m, ii 0]), [(4002, gib [a1, a2, a3, a4]), (1, wib [4, a1, a2, a3, a4, g, b, t', q, m])], [10 ≤ cap ∧ cap ≤ maxLen, CallsV Try.prog (.func 15) #[cv (slw 4002 0 4 capU) g b t' q m] [(4002, gib [a1, a2, a3, a4])] (rt (ii 0)) [(4002, gib [a1, a2, a3, a4])]]) := by kernel_rfl
theorem dof_4_0 (cap : Nat) (a1 a2 a3 a4 g b t' q m : Int) : runF Try.prog 4000 [1] 12 #[slw 1 0 10 cap] [(1, wib [4, a1, a2, a3, a4, g, b, t', q, m])] [n, n, n, n, n, n, n] [] [(16, rt (ii 110), [(4002, gib [a1, a2, a3, a4])])] [] =
    some (rt (tp [cv sl0 0 0 0 0 0, ii 110]), [(1, wib [4, a1, a2, a3, a4, g, b, t', q, m])], [10 ≤ cap ∧ cap ≤ maxLen, 10 ≤ cap ∧ cap ≤ maxLen, CallsV Try.prog (.func 16) #[cv (slw 4002 0 4 capU) g b t' q m] [(4002, gib [a1, a2, a3, a4])] (rt (ii 110)) [(4002, gib [a1, a2, a3, a4])]]) := by kernel_rfl
theorem dof_4_1 (cap : Nat) (a1 a2 a3 a4 g b t' q m : Int) : runF Try.prog 4000 [1, 4002] 12 #[slw 1 0 10 cap] [(1, wib [4, a1, a2, a3, a4, g, b, t', q, m])] [n, n, n, n, n, n, n] [] [(16, rt (ii 0), [(4002, gib [a1, a2, a3, a4])])] [] =
    some (rt (tp [cv (slw 4002 0 4 capU) g b t' q m, ii 0]), [(4002, gib [a1, a2, a3, a4]), (1, wib [4, a1, a2, a3, a4, g, b, t', q, m])], [10 ≤ cap ∧ cap ≤ maxLen, 10 ≤ cap ∧ cap ≤ maxLen, CallsV Try.prog (.func 16) #[cv (slw 4002 0 4 capU) g b t' q m] [(4002, gib [a1, a2, a3, a4])] (rt (ii 0)) [(4002, gib [a1, a2, a3, a4])]]) := by kernel_rfl
/-- Where the numbers behind the masses begin. -/
def nmr (n' : Nat) : Int := wi (wi ((n' : Int) - 6) + 1)
def ofr (off n' cap : Nat) : Nat := if cap = (nmr n').toNat then off else off + (nmr n').toNat * 1
theorem dof_big (off n' cap : Nat) (c : Array Value) (vs : List Value) (x a1 a2 g b t' q m : Int) : runF Try.prog 4000 [1] 12 #[slw 1 off n' cap] [(1, win off c)] [f, n, n, n, n, f, n] [] [(16, rt (ii 110), [(4002, .chan 1 ⟨ii a1 :: ii a2 :: vs⟩ false 3 0 false)])] [[ii x], .nilFunc :: ii a1 :: ii a2 :: vs, [ii g], [ii b], [ii t'], [ii q], [ii m]] =
    some (rt (tp [cv sl0 0 0 0 0 0, ii 110]), [(1, win off c)], [(decide (wi ((n' : Int) - 6) < 1)) = false, 0 ≤ (0 : Int) ∧ (0 : Int) < (n' : Int), off ≤ off + 0, c[off + 0]? = some (ii x), (x != wi ((n' : Int) - 6)) = false, 0 ≤ nmr n' ∧ nmr n' ≤ (n' : Int) ∧ cap ≤ maxLen, 0 ≤ (1 : Int) ∧ 1 < nmr n' ∧ nmr n' ≤ (n' : Int) ∧ n' ≤ cap ∧ cap ≤ maxLen, off ≤ off + 1, (0 < (nmr n').toNat - 1 ∧ (nmr n').toNat - 1 ≤ maxLen ∧ ((nmr n').toNat - 1) * 8 ≤ 140737488355328 ∧ (ii a1 :: ii a2 :: vs).length = ((nmr n').toNat - 1) * 1) ∧ wfL noB (ii a1 :: ii a2 :: vs) = true ∧ (c.toList.drop (off + 1)).take (ii a1 :: ii a2 :: vs).length = ii a1 :: ii a2 :: vs, 0 ≤ (0 : Int) ∧ (0 : Int) < ((n' - (nmr n').toNat : Nat) : Int), off ≤ ofr off n' cap + 0, c[ofr off n' cap + 0]? = some (ii g), 0 ≤ (1 : Int) ∧ (1 : Int) < ((n' - (nmr n').toNat : Nat) : Int), off ≤ ofr off n' cap + 1, c[ofr off n' cap + 1]? = some (ii b), 0 ≤ (2 : Int) ∧ (2 : Int) < ((n' - (nmr n').toNat : Nat) : Int), off ≤ ofr off n' cap + 2, c[ofr off n' cap + 2]? = some (ii t'), 0 ≤ (3 : Int) ∧ (3 : Int) < ((n' - (nmr n').toNat : Nat) : Int), off ≤ ofr off n' cap + 3, c[ofr off n' cap + 3]? = some (ii q), 0 ≤ (4 : Int) ∧ (4 : Int) < ((n' - (nmr n').toNat : Nat) : Int), off ≤ ofr off n' cap + 4, c[ofr off n' cap + 4]? = some (ii m), CallsV Try.prog (.func 16) #[cv (slw 4002 0 ((nmr n').toNat - 1) capU) g b t' q m] [(4002, .chan 1 ⟨ii a1 :: ii a2 :: vs⟩ false 3 0 false)] (rt (ii 110)) [(4002, .chan 1 ⟨ii a1 :: ii a2 :: vs⟩ false 3 0 false)]]) := by kernel_rfl
end Go.Proofs.Ytelohlpjgfknoaa
