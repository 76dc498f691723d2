/- Texts of the seat, joined. -/
import Derived.Test.YtbmekaaekngpbaaGreatZz47
import Derived.Test.YtbmekaaekngpbaaGreatZz42
/- Package stumpff: the answers that its terms' steps are handed, and what is owed for them. -/
namespace Go.Proofs.YtbmekaaekngpbaaGreat
open Go Go.RowKit
set_option linter.unusedSimpArgs false
set_option linter.unusedVariables false
set_option maxRecDepth 100000

/-- The answers that the steps from one term to the next are handed, and what is owed for them. -/
def ansS (pt : IV) (t m : Nat → IV) : Nat → List (Nat × Res)
  | 0 => []
  | j + 1 => ansS pt t m j ++ [(35, rt (ivv pt)), (61, rt (ivv (m j))), (60, rt (ivv (t (j + 1))))]
def owS (p : Int) (k : Nat) (pt : IV) (t m : Nat → IV) : Nat → List Prop
  | 0 => []
  | j + 1 => owS p k pt t m j ++ [PureX Tryz.prog 35 #[ii p] (rt (ivv pt)), PureX Tryz.prog 61 #[ivv (t j), ivv pt] (rt (ivv (m j))), PureX Tryz.prog 60 #[ivv (m j), ii (-1), ii (dS k j)] (rt (ivv (t (j + 1))))]
/-- The same, where it is asked at each whether it is the one. -/
def owN (n p : Int) (k : Nat) (pt : IV) (t m : Nat → IV) : Nat → List Prop
  | 0 => []
  | j + 1 => owN n p k pt t m j ++ [(Int.ofNat j == n) = false, PureX Tryz.prog 35 #[ii p] (rt (ivv pt)), PureX Tryz.prog 61 #[ivv (t j), ivv pt] (rt (ivv (m j))), PureX Tryz.prog 60 #[ivv (m j), ii (-1), ii (dS k j)] (rt (ivv (t (j + 1))))]
def ansH (nu pt one : IV) (t : Nat → IV) : List (Nat × Res) := [(32, rt (bb true)), (34, rt (ivv nu)), (35, rt (ivv pt)), (33, rt (bb true)), (63, rt (ivv one)), (60, rt (ivv (t 0)))]
def facI : Nat → Int
  | 2 => 2
  | 3 => 6
  | _ => 1
def owH (k : Nat) (p : Int) (nu pt one : IV) (t : Nat → IV) : List Prop := [PureX Tryz.prog 32 #[ii (Int.ofNat k)] (rt (bb true)), PureX Tryz.prog 34 #[] (rt (ivv nu)), PureX Tryz.prog 35 #[ii p] (rt (ivv pt)), PureX Tryz.prog 33 #[ivv nu, ivv pt] (rt (bb true)), PureX Tryz.prog 63 #[ii 1] (rt (ivv one)), PureX Tryz.prog 60 #[ivv one, ii 1, ii (facI k)] (rt (ivv (t 0)))]
def orcN : List (Option Bool) := List.replicate 37 n ++ (List.replicate 14 [f, n, n, n, n, n]).flatten ++ [f, n, n, n, n, n, n]
end Go.Proofs.YtbmekaaekngpbaaGreat

/- Package stumpff: terms of series 0. -/
namespace Go.Proofs.YtbmekaaekngpbaaGreat
open Go Go.RowKit
set_option linter.unusedSimpArgs false
set_option linter.unusedVariables false
set_option maxRecDepth 100000

section
variable (n1 p : Int) (nu pt one b : IV) (t m : Nat → IV)
theorem trm_0_0 : runB Tryz.prog 11 #[ii 0, ii p, ii 0] [] [] (ansH nu pt one t ++ ansS pt t m 0) [] = some (rt (ivv (t 0)), [], owH 0 p nu pt one t ++ owS p 0 pt t m 0) := by kernel_rfl
theorem trm_0_1 : runB Tryz.prog 11 #[ii 0, ii p, ii 1] [] [] (ansH nu pt one t ++ ansS pt t m 1) [] = some (rt (ivv (t 1)), [], owH 0 p nu pt one t ++ owS p 0 pt t m 1) := by kernel_rfl
theorem trm_0_2 : runB Tryz.prog 11 #[ii 0, ii p, ii 2] [] [] (ansH nu pt one t ++ ansS pt t m 2) [] = some (rt (ivv (t 2)), [], owH 0 p nu pt one t ++ owS p 0 pt t m 2) := by kernel_rfl
theorem trm_0_3 : runB Tryz.prog 11 #[ii 0, ii p, ii 3] [] [] (ansH nu pt one t ++ ansS pt t m 3) [] = some (rt (ivv (t 3)), [], owH 0 p nu pt one t ++ owS p 0 pt t m 3) := by kernel_rfl
theorem trm_0_4 : runB Tryz.prog 11 #[ii 0, ii p, ii 4] [] [] (ansH nu pt one t ++ ansS pt t m 4) [] = some (rt (ivv (t 4)), [], owH 0 p nu pt one t ++ owS p 0 pt t m 4) := by kernel_rfl
theorem trm_0_5 : runB Tryz.prog 11 #[ii 0, ii p, ii 5] [] [] (ansH nu pt one t ++ ansS pt t m 5) [] = some (rt (ivv (t 5)), [], owH 0 p nu pt one t ++ owS p 0 pt t m 5) := by kernel_rfl
theorem trm_0_6 : runB Tryz.prog 11 #[ii 0, ii p, ii 6] [] [] (ansH nu pt one t ++ ansS pt t m 6) [] = some (rt (ivv (t 6)), [], owH 0 p nu pt one t ++ owS p 0 pt t m 6) := by kernel_rfl
theorem trm_0_7 : runB Tryz.prog 11 #[ii 0, ii p, ii 7] [] [] (ansH nu pt one t ++ ansS pt t m 7) [] = some (rt (ivv (t 7)), [], owH 0 p nu pt one t ++ owS p 0 pt t m 7) := by kernel_rfl
theorem trm_0_8 : runB Tryz.prog 11 #[ii 0, ii p, ii 8] [] [] (ansH nu pt one t ++ ansS pt t m 8) [] = some (rt (ivv (t 8)), [], owH 0 p nu pt one t ++ owS p 0 pt t m 8) := by kernel_rfl
theorem trm_0_9 : runB Tryz.prog 11 #[ii 0, ii p, ii 9] [] [] (ansH nu pt one t ++ ansS pt t m 9) [] = some (rt (ivv (t 9)), [], owH 0 p nu pt one t ++ owS p 0 pt t m 9) := by kernel_rfl
theorem trm_0_10 : runB Tryz.prog 11 #[ii 0, ii p, ii 10] [] [] (ansH nu pt one t ++ ansS pt t m 10) [] = some (rt (ivv (t 10)), [], owH 0 p nu pt one t ++ owS p 0 pt t m 10) := by kernel_rfl
theorem trm_0_11 : runB Tryz.prog 11 #[ii 0, ii p, ii 11] [] [] (ansH nu pt one t ++ ansS pt t m 11) [] = some (rt (ivv (t 11)), [], owH 0 p nu pt one t ++ owS p 0 pt t m 11) := by kernel_rfl
theorem trm_0_12 : runB Tryz.prog 11 #[ii 0, ii p, ii 12] [] [] (ansH nu pt one t ++ ansS pt t m 12) [] = some (rt (ivv (t 12)), [], owH 0 p nu pt one t ++ owS p 0 pt t m 12) := by kernel_rfl
theorem trm_0_13 : runB Tryz.prog 11 #[ii 0, ii p, ii 13] [] [] (ansH nu pt one t ++ ansS pt t m 13) [] = some (rt (ivv (t 13)), [], owH 0 p nu pt one t ++ owS p 0 pt t m 13) := by kernel_rfl
theorem trm_0_14 : runB Tryz.prog 11 #[ii 0, ii p, ii 14] [] [] (ansH nu pt one t ++ ansS pt t m 14) [] = some (rt (ivv (t 14)), [], owH 0 p nu pt one t ++ owS p 0 pt t m 14) := by kernel_rfl
theorem trm_0_o : runB Tryz.prog 11 #[ii 0, ii p, ii n1] [] orcN (ansH nu pt one t ++ ansS pt t m 15 ++ [(37, rt (ivv b))]) [] = some (rt (ivv b), [], owH 0 p nu pt one t ++ owN n1 p 0 pt t m 15 ++ [PureX Tryz.prog 37 #[] (rt (ivv b))]) := by kernel_rfl
end
end Go.Proofs.YtbmekaaekngpbaaGreat

/- Package stumpff: terms of series 1. -/
namespace Go.Proofs.YtbmekaaekngpbaaGreat
open Go Go.RowKit
set_option linter.unusedSimpArgs false
set_option linter.unusedVariables false
set_option maxRecDepth 100000

section
variable (n1 p : Int) (nu pt one b : IV) (t m : Nat → IV)
theorem trm_1_0 : runB Tryz.prog 11 #[ii 1, ii p, ii 0] [] [] (ansH nu pt one t ++ ansS pt t m 0) [] = some (rt (ivv (t 0)), [], owH 1 p nu pt one t ++ owS p 1 pt t m 0) := by kernel_rfl
theorem trm_1_1 : runB Tryz.prog 11 #[ii 1, ii p, ii 1] [] [] (ansH nu pt one t ++ ansS pt t m 1) [] = some (rt (ivv (t 1)), [], owH 1 p nu pt one t ++ owS p 1 pt t m 1) := by kernel_rfl
theorem trm_1_2 : runB Tryz.prog 11 #[ii 1, ii p, ii 2] [] [] (ansH nu pt one t ++ ansS pt t m 2) [] = some (rt (ivv (t 2)), [], owH 1 p nu pt one t ++ owS p 1 pt t m 2) := by kernel_rfl
theorem trm_1_3 : runB Tryz.prog 11 #[ii 1, ii p, ii 3] [] [] (ansH nu pt one t ++ ansS pt t m 3) [] = some (rt (ivv (t 3)), [], owH 1 p nu pt one t ++ owS p 1 pt t m 3) := by kernel_rfl
theorem trm_1_4 : runB Tryz.prog 11 #[ii 1, ii p, ii 4] [] [] (ansH nu pt one t ++ ansS pt t m 4) [] = some (rt (ivv (t 4)), [], owH 1 p nu pt one t ++ owS p 1 pt t m 4) := by kernel_rfl
theorem trm_1_5 : runB Tryz.prog 11 #[ii 1, ii p, ii 5] [] [] (ansH nu pt one t ++ ansS pt t m 5) [] = some (rt (ivv (t 5)), [], owH 1 p nu pt one t ++ owS p 1 pt t m 5) := by kernel_rfl
theorem trm_1_6 : runB Tryz.prog 11 #[ii 1, ii p, ii 6] [] [] (ansH nu pt one t ++ ansS pt t m 6) [] = some (rt (ivv (t 6)), [], owH 1 p nu pt one t ++ owS p 1 pt t m 6) := by kernel_rfl
theorem trm_1_7 : runB Tryz.prog 11 #[ii 1, ii p, ii 7] [] [] (ansH nu pt one t ++ ansS pt t m 7) [] = some (rt (ivv (t 7)), [], owH 1 p nu pt one t ++ owS p 1 pt t m 7) := by kernel_rfl
theorem trm_1_8 : runB Tryz.prog 11 #[ii 1, ii p, ii 8] [] [] (ansH nu pt one t ++ ansS pt t m 8) [] = some (rt (ivv (t 8)), [], owH 1 p nu pt one t ++ owS p 1 pt t m 8) := by kernel_rfl
theorem trm_1_9 : runB Tryz.prog 11 #[ii 1, ii p, ii 9] [] [] (ansH nu pt one t ++ ansS pt t m 9) [] = some (rt (ivv (t 9)), [], owH 1 p nu pt one t ++ owS p 1 pt t m 9) := by kernel_rfl
theorem trm_1_10 : runB Tryz.prog 11 #[ii 1, ii p, ii 10] [] [] (ansH nu pt one t ++ ansS pt t m 10) [] = some (rt (ivv (t 10)), [], owH 1 p nu pt one t ++ owS p 1 pt t m 10) := by kernel_rfl
theorem trm_1_11 : runB Tryz.prog 11 #[ii 1, ii p, ii 11] [] [] (ansH nu pt one t ++ ansS pt t m 11) [] = some (rt (ivv (t 11)), [], owH 1 p nu pt one t ++ owS p 1 pt t m 11) := by kernel_rfl
theorem trm_1_12 : runB Tryz.prog 11 #[ii 1, ii p, ii 12] [] [] (ansH nu pt one t ++ ansS pt t m 12) [] = some (rt (ivv (t 12)), [], owH 1 p nu pt one t ++ owS p 1 pt t m 12) := by kernel_rfl
theorem trm_1_13 : runB Tryz.prog 11 #[ii 1, ii p, ii 13] [] [] (ansH nu pt one t ++ ansS pt t m 13) [] = some (rt (ivv (t 13)), [], owH 1 p nu pt one t ++ owS p 1 pt t m 13) := by kernel_rfl
theorem trm_1_14 : runB Tryz.prog 11 #[ii 1, ii p, ii 14] [] [] (ansH nu pt one t ++ ansS pt t m 14) [] = some (rt (ivv (t 14)), [], owH 1 p nu pt one t ++ owS p 1 pt t m 14) := by kernel_rfl
theorem trm_1_o : runB Tryz.prog 11 #[ii 1, ii p, ii n1] [] orcN (ansH nu pt one t ++ ansS pt t m 15 ++ [(37, rt (ivv b))]) [] = some (rt (ivv b), [], owH 1 p nu pt one t ++ owN n1 p 1 pt t m 15 ++ [PureX Tryz.prog 37 #[] (rt (ivv b))]) := by kernel_rfl
end
end Go.Proofs.YtbmekaaekngpbaaGreat
