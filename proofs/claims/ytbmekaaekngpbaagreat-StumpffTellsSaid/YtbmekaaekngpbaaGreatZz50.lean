/- Texts of the seat, joined. -/
import Derived.Test.YtbmekaaekngpbaaGreatZz49
/- Package stumpff: terms of series 2. -/
namespace Go.Proofs.YtbmekaaekngpbaaGreat
open Go Go.RowKit
set_option linter.unusedSimpArgs false
set_option linter.unusedVariables false
set_option maxRecDepth 100000

section
variable (n1 p : Int) (nu pt one b : IV) (t m : Nat → IV)
theorem trm_2_0 : runB Tryz.prog 11 #[ii 2, ii p, ii 0] [] [] (ansH nu pt one t ++ ansS pt t m 0) [] = some (rt (ivv (t 0)), [], owH 2 p nu pt one t ++ owS p 2 pt t m 0) := by kernel_rfl
theorem trm_2_1 : runB Tryz.prog 11 #[ii 2, ii p, ii 1] [] [] (ansH nu pt one t ++ ansS pt t m 1) [] = some (rt (ivv (t 1)), [], owH 2 p nu pt one t ++ owS p 2 pt t m 1) := by kernel_rfl
theorem trm_2_2 : runB Tryz.prog 11 #[ii 2, ii p, ii 2] [] [] (ansH nu pt one t ++ ansS pt t m 2) [] = some (rt (ivv (t 2)), [], owH 2 p nu pt one t ++ owS p 2 pt t m 2) := by kernel_rfl
theorem trm_2_3 : runB Tryz.prog 11 #[ii 2, ii p, ii 3] [] [] (ansH nu pt one t ++ ansS pt t m 3) [] = some (rt (ivv (t 3)), [], owH 2 p nu pt one t ++ owS p 2 pt t m 3) := by kernel_rfl
theorem trm_2_4 : runB Tryz.prog 11 #[ii 2, ii p, ii 4] [] [] (ansH nu pt one t ++ ansS pt t m 4) [] = some (rt (ivv (t 4)), [], owH 2 p nu pt one t ++ owS p 2 pt t m 4) := by kernel_rfl
theorem trm_2_5 : runB Tryz.prog 11 #[ii 2, ii p, ii 5] [] [] (ansH nu pt one t ++ ansS pt t m 5) [] = some (rt (ivv (t 5)), [], owH 2 p nu pt one t ++ owS p 2 pt t m 5) := by kernel_rfl
theorem trm_2_6 : runB Tryz.prog 11 #[ii 2, ii p, ii 6] [] [] (ansH nu pt one t ++ ansS pt t m 6) [] = some (rt (ivv (t 6)), [], owH 2 p nu pt one t ++ owS p 2 pt t m 6) := by kernel_rfl
theorem trm_2_7 : runB Tryz.prog 11 #[ii 2, ii p, ii 7] [] [] (ansH nu pt one t ++ ansS pt t m 7) [] = some (rt (ivv (t 7)), [], owH 2 p nu pt one t ++ owS p 2 pt t m 7) := by kernel_rfl
theorem trm_2_8 : runB Tryz.prog 11 #[ii 2, ii p, ii 8] [] [] (ansH nu pt one t ++ ansS pt t m 8) [] = some (rt (ivv (t 8)), [], owH 2 p nu pt one t ++ owS p 2 pt t m 8) := by kernel_rfl
theorem trm_2_9 : runB Tryz.prog 11 #[ii 2, ii p, ii 9] [] [] (ansH nu pt one t ++ ansS pt t m 9) [] = some (rt (ivv (t 9)), [], owH 2 p nu pt one t ++ owS p 2 pt t m 9) := by kernel_rfl
theorem trm_2_10 : runB Tryz.prog 11 #[ii 2, ii p, ii 10] [] [] (ansH nu pt one t ++ ansS pt t m 10) [] = some (rt (ivv (t 10)), [], owH 2 p nu pt one t ++ owS p 2 pt t m 10) := by kernel_rfl
theorem trm_2_11 : runB Tryz.prog 11 #[ii 2, ii p, ii 11] [] [] (ansH nu pt one t ++ ansS pt t m 11) [] = some (rt (ivv (t 11)), [], owH 2 p nu pt one t ++ owS p 2 pt t m 11) := by kernel_rfl
theorem trm_2_12 : runB Tryz.prog 11 #[ii 2, ii p, ii 12] [] [] (ansH nu pt one t ++ ansS pt t m 12) [] = some (rt (ivv (t 12)), [], owH 2 p nu pt one t ++ owS p 2 pt t m 12) := by kernel_rfl
theorem trm_2_13 : runB Tryz.prog 11 #[ii 2, ii p, ii 13] [] [] (ansH nu pt one t ++ ansS pt t m 13) [] = some (rt (ivv (t 13)), [], owH 2 p nu pt one t ++ owS p 2 pt t m 13) := by kernel_rfl
theorem trm_2_14 : runB Tryz.prog 11 #[ii 2, ii p, ii 14] [] [] (ansH nu pt one t ++ ansS pt t m 14) [] = some (rt (ivv (t 14)), [], owH 2 p nu pt one t ++ owS p 2 pt t m 14) := by kernel_rfl
theorem trm_2_o : runB Tryz.prog 11 #[ii 2, ii p, ii n1] [] orcN (ansH nu pt one t ++ ansS pt t m 15 ++ [(37, rt (ivv b))]) [] = some (rt (ivv b), [], owH 2 p nu pt one t ++ owN n1 p 2 pt t m 15 ++ [PureX Tryz.prog 37 #[] (rt (ivv b))]) := by kernel_rfl
end
end Go.Proofs.YtbmekaaekngpbaaGreat

/- Package stumpff: terms of series 3. -/
namespace Go.Proofs.YtbmekaaekngpbaaGreat
open Go Go.RowKit
set_option linter.unusedSimpArgs false
set_option linter.unusedVariables false
set_option maxRecDepth 100000

section
variable (n1 p : Int) (nu pt one b : IV) (t m : Nat → IV)
theorem trm_3_0 : runB Tryz.prog 11 #[ii 3, ii p, ii 0] [] [] (ansH nu pt one t ++ ansS pt t m 0) [] = some (rt (ivv (t 0)), [], owH 3 p nu pt one t ++ owS p 3 pt t m 0) := by kernel_rfl
theorem trm_3_1 : runB Tryz.prog 11 #[ii 3, ii p, ii 1] [] [] (ansH nu pt one t ++ ansS pt t m 1) [] = some (rt (ivv (t 1)), [], owH 3 p nu pt one t ++ owS p 3 pt t m 1) := by kernel_rfl
theorem trm_3_2 : runB Tryz.prog 11 #[ii 3, ii p, ii 2] [] [] (ansH nu pt one t ++ ansS pt t m 2) [] = some (rt (ivv (t 2)), [], owH 3 p nu pt one t ++ owS p 3 pt t m 2) := by kernel_rfl
theorem trm_3_3 : runB Tryz.prog 11 #[ii 3, ii p, ii 3] [] [] (ansH nu pt one t ++ ansS pt t m 3) [] = some (rt (ivv (t 3)), [], owH 3 p nu pt one t ++ owS p 3 pt t m 3) := by kernel_rfl
theorem trm_3_4 : runB Tryz.prog 11 #[ii 3, ii p, ii 4] [] [] (ansH nu pt one t ++ ansS pt t m 4) [] = some (rt (ivv (t 4)), [], owH 3 p nu pt one t ++ owS p 3 pt t m 4) := by kernel_rfl
theorem trm_3_5 : runB Tryz.prog 11 #[ii 3, ii p, ii 5] [] [] (ansH nu pt one t ++ ansS pt t m 5) [] = some (rt (ivv (t 5)), [], owH 3 p nu pt one t ++ owS p 3 pt t m 5) := by kernel_rfl
theorem trm_3_6 : runB Tryz.prog 11 #[ii 3, ii p, ii 6] [] [] (ansH nu pt one t ++ ansS pt t m 6) [] = some (rt (ivv (t 6)), [], owH 3 p nu pt one t ++ owS p 3 pt t m 6) := by kernel_rfl
theorem trm_3_7 : runB Tryz.prog 11 #[ii 3, ii p, ii 7] [] [] (ansH nu pt one t ++ ansS pt t m 7) [] = some (rt (ivv (t 7)), [], owH 3 p nu pt one t ++ owS p 3 pt t m 7) := by kernel_rfl
theorem trm_3_8 : runB Tryz.prog 11 #[ii 3, ii p, ii 8] [] [] (ansH nu pt one t ++ ansS pt t m 8) [] = some (rt (ivv (t 8)), [], owH 3 p nu pt one t ++ owS p 3 pt t m 8) := by kernel_rfl
theorem trm_3_9 : runB Tryz.prog 11 #[ii 3, ii p, ii 9] [] [] (ansH nu pt one t ++ ansS pt t m 9) [] = some (rt (ivv (t 9)), [], owH 3 p nu pt one t ++ owS p 3 pt t m 9) := by kernel_rfl
theorem trm_3_10 : runB Tryz.prog 11 #[ii 3, ii p, ii 10] [] [] (ansH nu pt one t ++ ansS pt t m 10) [] = some (rt (ivv (t 10)), [], owH 3 p nu pt one t ++ owS p 3 pt t m 10) := by kernel_rfl
theorem trm_3_11 : runB Tryz.prog 11 #[ii 3, ii p, ii 11] [] [] (ansH nu pt one t ++ ansS pt t m 11) [] = some (rt (ivv (t 11)), [], owH 3 p nu pt one t ++ owS p 3 pt t m 11) := by kernel_rfl
theorem trm_3_12 : runB Tryz.prog 11 #[ii 3, ii p, ii 12] [] [] (ansH nu pt one t ++ ansS pt t m 12) [] = some (rt (ivv (t 12)), [], owH 3 p nu pt one t ++ owS p 3 pt t m 12) := by kernel_rfl
theorem trm_3_13 : runB Tryz.prog 11 #[ii 3, ii p, ii 13] [] [] (ansH nu pt one t ++ ansS pt t m 13) [] = some (rt (ivv (t 13)), [], owH 3 p nu pt one t ++ owS p 3 pt t m 13) := by kernel_rfl
theorem trm_3_14 : runB Tryz.prog 11 #[ii 3, ii p, ii 14] [] [] (ansH nu pt one t ++ ansS pt t m 14) [] = some (rt (ivv (t 14)), [], owH 3 p nu pt one t ++ owS p 3 pt t m 14) := by kernel_rfl
theorem trm_3_o : runB Tryz.prog 11 #[ii 3, ii p, ii n1] [] orcN (ansH nu pt one t ++ ansS pt t m 15 ++ [(37, rt (ivv b))]) [] = some (rt (ivv b), [], owH 3 p nu pt one t ++ owN n1 p 3 pt t m 15 ++ [PureX Tryz.prog 37 #[] (rt (ivv b))]) := by kernel_rfl
end
end Go.Proofs.YtbmekaaekngpbaaGreat
