/- Texts of the seat, joined. -/
import Derived.Test.YtelohlpjgfknoaaZz6
/- Copies, and what is no such case. -/
namespace Go.Proofs.Ytelohlpjgfknoaa
open Go Go.RowKit
set_option linter.unusedSimpArgs false
set_option linter.unusedVariables false
set_option maxRecDepth 100000

theorem own25_1_2001 (cap : Nat) (a1 g b t' q m : Int) : runF Try.prog 1998 [1, 2001] 25 #[cv (slw 1 0 1 cap) g b t' q m] [(1, wib [a1])] [] [] [] [] =
    some (rt (cv (slw 2001 0 1 capU) g b t' q m), [(2001, gib [a1]), (1, wib [a1])], []) := by kernel_rfl
theorem own25_1_2002 (cap : Nat) (a1 g b t' q m : Int) : runF Try.prog 1999 [1, 2002] 25 #[cv (slw 1 0 1 cap) g b t' q m] [(1, wib [a1])] [] [] [] [] =
    some (rt (cv (slw 2002 0 1 capU) g b t' q m), [(2002, gib [a1]), (1, wib [a1])], []) := by kernel_rfl
theorem own25_1_2003 (cap : Nat) (a1 g b t' q m : Int) : runF Try.prog 2000 [1, 2003] 25 #[cv (slw 1 0 1 cap) g b t' q m] [(1, wib [a1])] [] [] [] [] =
    some (rt (cv (slw 2003 0 1 capU) g b t' q m), [(2003, gib [a1]), (1, wib [a1])], []) := by kernel_rfl
theorem own25_2_2001 (cap : Nat) (a1 a2 g b t' q m : Int) : runF Try.prog 1998 [1, 2001] 25 #[cv (slw 1 0 2 cap) g b t' q m] [(1, wib [a1, a2])] [] [] [] [] =
    some (rt (cv (slw 2001 0 2 capU) g b t' q m), [(2001, gib [a1, a2]), (1, wib [a1, a2])], []) := by kernel_rfl
theorem own25_2_2002 (cap : Nat) (a1 a2 g b t' q m : Int) : runF Try.prog 1999 [1, 2002] 25 #[cv (slw 1 0 2 cap) g b t' q m] [(1, wib [a1, a2])] [] [] [] [] =
    some (rt (cv (slw 2002 0 2 capU) g b t' q m), [(2002, gib [a1, a2]), (1, wib [a1, a2])], []) := by kernel_rfl
theorem own25_2_2003 (cap : Nat) (a1 a2 g b t' q m : Int) : runF Try.prog 2000 [1, 2003] 25 #[cv (slw 1 0 2 cap) g b t' q m] [(1, wib [a1, a2])] [] [] [] [] =
    some (rt (cv (slw 2003 0 2 capU) g b t' q m), [(2003, gib [a1, a2]), (1, wib [a1, a2])], []) := by kernel_rfl
theorem own25_3_2001 (cap : Nat) (a1 a2 a3 g b t' q m : Int) : runF Try.prog 1998 [1, 2001] 25 #[cv (slw 1 0 3 cap) g b t' q m] [(1, wib [a1, a2, a3])] [] [] [] [] =
    some (rt (cv (slw 2001 0 3 capU) g b t' q m), [(2001, gib [a1, a2, a3]), (1, wib [a1, a2, a3])], []) := by kernel_rfl
theorem own25_3_2002 (cap : Nat) (a1 a2 a3 g b t' q m : Int) : runF Try.prog 1999 [1, 2002] 25 #[cv (slw 1 0 3 cap) g b t' q m] [(1, wib [a1, a2, a3])] [] [] [] [] =
    some (rt (cv (slw 2002 0 3 capU) g b t' q m), [(2002, gib [a1, a2, a3]), (1, wib [a1, a2, a3])], []) := by kernel_rfl
theorem own25_3_2003 (cap : Nat) (a1 a2 a3 g b t' q m : Int) : runF Try.prog 2000 [1, 2003] 25 #[cv (slw 1 0 3 cap) g b t' q m] [(1, wib [a1, a2, a3])] [] [] [] [] =
    some (rt (cv (slw 2003 0 3 capU) g b t' q m), [(2003, gib [a1, a2, a3]), (1, wib [a1, a2, a3])], []) := by kernel_rfl
theorem own25_4_2001 (cap : Nat) (a1 a2 a3 a4 g b t' q m : Int) : runF Try.prog 1998 [1, 2001] 25 #[cv (slw 1 0 4 cap) g b t' q m] [(1, wib [a1, a2, a3, a4])] [] [] [] [] =
    some (rt (cv (slw 2001 0 4 capU) g b t' q m), [(2001, gib [a1, a2, a3, a4]), (1, wib [a1, a2, a3, a4])], []) := by kernel_rfl
theorem own25_4_2002 (cap : Nat) (a1 a2 a3 a4 g b t' q m : Int) : runF Try.prog 1999 [1, 2002] 25 #[cv (slw 1 0 4 cap) g b t' q m] [(1, wib [a1, a2, a3, a4])] [] [] [] [] =
    some (rt (cv (slw 2002 0 4 capU) g b t' q m), [(2002, gib [a1, a2, a3, a4]), (1, wib [a1, a2, a3, a4])], []) := by kernel_rfl
theorem own25_4_2003 (cap : Nat) (a1 a2 a3 a4 g b t' q m : Int) : runF Try.prog 2000 [1, 2003] 25 #[cv (slw 1 0 4 cap) g b t' q m] [(1, wib [a1, a2, a3, a4])] [] [] [] [] =
    some (rt (cv (slw 2003 0 4 capU) g b t' q m), [(2003, gib [a1, a2, a3, a4]), (1, wib [a1, a2, a3, a4])], []) := by kernel_rfl
theorem e5_n (g b t' q m at' off : Int) : runF Try.prog 1000 [] 5 #[cv sl0 g b t' q m, ii at', ii off] [] [n, n, n, n, n] [(16, rt (ii 110)), (8, rt (bb true))] [] [] =
    some (rt (bb true), [], [PureX Try.prog 16 #[.agg ⟨[.slice none 0 0, ii (g), ii (b), ii (t'), ii (q), ii (m)]⟩] (rt (ii (110))), PureX Try.prog 8 #[] (rt (bb (true)))]) := by kernel_rfl
theorem e5_x (off1 n' cap : Nat) (c : Array Value) (g b t' q m at' off : Int) : runF Try.prog 1000 [] 5 #[cv (slw 1 off1 n' cap) g b t' q m, ii at', ii off] [(1, win off1 c)] [n, n, n, n, n] [(8, rt (bb true))] [(16, rt (ii 110), [(1, win off1 c)])] [] =
    some (rt (bb true), [], [CallsV Try.prog (.func 16) #[cv (slw 1 off1 n' cap) g b t' q m] [(1, win off1 c)] (rt (ii 110)) [(1, win off1 c)], PureX Try.prog 8 #[] (rt (bb (true)))]) := by kernel_rfl
theorem e5_a (off1 n' cap : Nat) (c : Array Value) (g b t' q m at' off : Int) : runF Try.prog 1000 [] 5 #[cv (slw 1 off1 n' cap) g b t' q m, ii at', ii off] [(1, win off1 c)] [n, n, t, n, n] [(8, rt (bb true))] [(16, rt (ii 0), [(1, win off1 c)])] [] =
    some (rt (bb true), [], [CallsV Try.prog (.func 16) #[cv (slw 1 off1 n' cap) g b t' q m] [(1, win off1 c)] (rt (ii 0)) [(1, win off1 c)], (decide (off < 1)) = true, PureX Try.prog 8 #[] (rt (bb (true)))]) := by kernel_rfl
theorem e5_b (off1 n' cap : Nat) (c : Array Value) (g b t' q m at' off : Int) : runF Try.prog 1000 [] 5 #[cv (slw 1 off1 n' cap) g b t' q m, ii at', ii off] [(1, win off1 c)] [n, n, f, n, t] [(8, rt (bb true))] [(16, rt (ii 0), [(1, win off1 c)])] [] =
    some (rt (bb true), [], [CallsV Try.prog (.func 16) #[cv (slw 1 off1 n' cap) g b t' q m] [(1, win off1 c)] (rt (ii 0)) [(1, win off1 c)], (decide (off < 1)) = false, (decide (1073741824 < off)) = true, PureX Try.prog 8 #[] (rt (bb (true)))]) := by kernel_rfl
theorem e6_n (g b t' q m y : Int) : runF Try.prog 1000 [] 6 #[cv sl0 g b t' q m, .int .u8 y] [] [n] [(16, rt (ii 110)), (8, rt (bb true))] [] [] =
    some (rt (bb true), [], [PureX Try.prog 16 #[.agg ⟨[.slice none 0 0, ii (g), ii (b), ii (t'), ii (q), ii (m)]⟩] (rt (ii (110))), PureX Try.prog 8 #[] (rt (bb (true)))]) := by kernel_rfl
theorem e6_x (off1 n' cap : Nat) (c : Array Value) (g b t' q m y : Int) : runF Try.prog 1000 [] 6 #[cv (slw 1 off1 n' cap) g b t' q m, .int .u8 y] [(1, win off1 c)] [n] [(8, rt (bb true))] [(16, rt (ii 110), [(1, win off1 c)])] [] =
    some (rt (bb true), [], [CallsV Try.prog (.func 16) #[cv (slw 1 off1 n' cap) g b t' q m] [(1, win off1 c)] (rt (ii 110)) [(1, win off1 c)], PureX Try.prog 8 #[] (rt (bb (true)))]) := by kernel_rfl
end Go.Proofs.Ytelohlpjgfknoaa
