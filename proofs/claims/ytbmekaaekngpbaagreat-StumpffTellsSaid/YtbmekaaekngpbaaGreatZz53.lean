/- Texts of the seat, joined. -/
import Derived.Test.YtbmekaaekngpbaaGreatZz52
import Derived.Test.YtbmekaaekngpbaaGreatZz44
/- The document's four series. -/
namespace Go.Proofs.YtbmekaaekngpbaaGreat
open Go Go.RowKit
set_option linter.unusedSimpArgs false
set_option linter.unusedVariables false
set_option maxRecDepth 100000

def ansD (pt : IV) (t m : Nat → IV) : Nat → List (Nat × Res)
  | 0 => []
  | j + 1 => ansD pt t m j ++ [(20, rt (ivv pt)), (24, rt (ivv (m j))), (31, rt (ivv (t (j + 1))))]
def owD (p : Int) (k : Nat) (pt : IV) (t m : Nat → IV) : Nat → List Prop
  | 0 => []
  | j + 1 => owD p k pt t m j ++ [PureX Tryz.prog 20 #[ii p] (rt (ivv pt)), PureX Tryz.prog 24 #[ivv (t j), ivv pt] (rt (ivv (m j))), PureX Tryz.prog 31 #[ivv (m j), ii (-1), ii (dS k j)] (rt (ivv (t (j + 1))))]
def ansG (fv : Value) (one : IV) (t : Nat → IV) : Nat → List (Nat × Res)
  | 2 => [(38, rt (bb true)), (10, rt fv), (19, rt (ivv one)), (31, rt (ivv (t 0)))]
  | 3 => [(38, rt (bb true)), (10, rt fv), (19, rt (ivv one)), (31, rt (ivv (t 0)))]
  | _ => [(38, rt (bb true)), (10, rt fv), (19, rt (ivv (t 0)))]
def owG (p : Int) (fv : Value) (one : IV) (t : Nat → IV) (k : Nat) : List Prop :=
  [PureX Tryz.prog 38 #[ii (Int.ofNat k), ii p] (rt (bb true)), PureX Tryz.prog 10 #[ii (Int.ofNat k)] (rt fv)] ++ (match k with
  | 2 => [PureX Tryz.prog 19 #[ii 1] (rt (ivv one)), PureX Tryz.prog 31 #[ivv one, ii 1, ii 2] (rt (ivv (t 0)))]
  | 3 => [PureX Tryz.prog 19 #[ii 1] (rt (ivv one)), PureX Tryz.prog 31 #[ivv one, ii 1, ii 6] (rt (ivv (t 0)))]
  | _ => [PureX Tryz.prog 19 #[ii 1] (rt (ivv (t 0)))])
section
variable (n1 p : Int) (nu pt one b : IV) (t m : Nat → IV)
theorem dt8_0_0 : runB Tryz.prog 12 #[ii 0, ii p, ii 0] [] [] (ansG (tp [ii (facI 0), bb true]) one t 0 ++ ansD pt t m 0) [] = some (rt (ivv (t 0)), [], owG p (tp [ii (facI 0), bb true]) one t 0 ++ owD p 0 pt t m 0) := by kernel_rfl
theorem dt8_0_1 : runB Tryz.prog 12 #[ii 0, ii p, ii 1] [] [] (ansG (tp [ii (facI 0), bb true]) one t 0 ++ ansD pt t m 1) [] = some (rt (ivv (t 1)), [], owG p (tp [ii (facI 0), bb true]) one t 0 ++ owD p 0 pt t m 1) := by kernel_rfl
theorem dt8_0_2 : runB Tryz.prog 12 #[ii 0, ii p, ii 2] [] [] (ansG (tp [ii (facI 0), bb true]) one t 0 ++ ansD pt t m 2) [] = some (rt (ivv (t 2)), [], owG p (tp [ii (facI 0), bb true]) one t 0 ++ owD p 0 pt t m 2) := by kernel_rfl
theorem dt8_0_3 : runB Tryz.prog 12 #[ii 0, ii p, ii 3] [] [] (ansG (tp [ii (facI 0), bb true]) one t 0 ++ ansD pt t m 3) [] = some (rt (ivv (t 3)), [], owG p (tp [ii (facI 0), bb true]) one t 0 ++ owD p 0 pt t m 3) := by kernel_rfl
theorem dt8_0_4 : runB Tryz.prog 12 #[ii 0, ii p, ii 4] [] [] (ansG (tp [ii (facI 0), bb true]) one t 0 ++ ansD pt t m 4) [] = some (rt (ivv (t 4)), [], owG p (tp [ii (facI 0), bb true]) one t 0 ++ owD p 0 pt t m 4) := by kernel_rfl
theorem dt8_0_5 : runB Tryz.prog 12 #[ii 0, ii p, ii 5] [] [] (ansG (tp [ii (facI 0), bb true]) one t 0 ++ ansD pt t m 5) [] = some (rt (ivv (t 5)), [], owG p (tp [ii (facI 0), bb true]) one t 0 ++ owD p 0 pt t m 5) := by kernel_rfl
theorem dt8_0_6 : runB Tryz.prog 12 #[ii 0, ii p, ii 6] [] [] (ansG (tp [ii (facI 0), bb true]) one t 0 ++ ansD pt t m 6) [] = some (rt (ivv (t 6)), [], owG p (tp [ii (facI 0), bb true]) one t 0 ++ owD p 0 pt t m 6) := by kernel_rfl
theorem dt8_0_7 : runB Tryz.prog 12 #[ii 0, ii p, ii 7] [] [] (ansG (tp [ii (facI 0), bb true]) one t 0 ++ ansD pt t m 7) [] = some (rt (ivv (t 7)), [], owG p (tp [ii (facI 0), bb true]) one t 0 ++ owD p 0 pt t m 7) := by kernel_rfl
theorem dt8_0_8 : runB Tryz.prog 12 #[ii 0, ii p, ii 8] [] [] (ansG (tp [ii (facI 0), bb true]) one t 0 ++ ansD pt t m 8) [] = some (rt (ivv (t 8)), [], owG p (tp [ii (facI 0), bb true]) one t 0 ++ owD p 0 pt t m 8) := by kernel_rfl
theorem dt8_0_9 : runB Tryz.prog 12 #[ii 0, ii p, ii 9] [] [] (ansG (tp [ii (facI 0), bb true]) one t 0 ++ ansD pt t m 9) [] = some (rt (ivv (t 9)), [], owG p (tp [ii (facI 0), bb true]) one t 0 ++ owD p 0 pt t m 9) := by kernel_rfl
theorem dt8_0_10 : runB Tryz.prog 12 #[ii 0, ii p, ii 10] [] [] (ansG (tp [ii (facI 0), bb true]) one t 0 ++ ansD pt t m 10) [] = some (rt (ivv (t 10)), [], owG p (tp [ii (facI 0), bb true]) one t 0 ++ owD p 0 pt t m 10) := by kernel_rfl
theorem dt8_0_11 : runB Tryz.prog 12 #[ii 0, ii p, ii 11] [] [] (ansG (tp [ii (facI 0), bb true]) one t 0 ++ ansD pt t m 11) [] = some (rt (ivv (t 11)), [], owG p (tp [ii (facI 0), bb true]) one t 0 ++ owD p 0 pt t m 11) := by kernel_rfl
theorem dt8_0_12 : runB Tryz.prog 12 #[ii 0, ii p, ii 12] [] [] (ansG (tp [ii (facI 0), bb true]) one t 0 ++ ansD pt t m 12) [] = some (rt (ivv (t 12)), [], owG p (tp [ii (facI 0), bb true]) one t 0 ++ owD p 0 pt t m 12) := by kernel_rfl
theorem dt8_0_13 : runB Tryz.prog 12 #[ii 0, ii p, ii 13] [] [] (ansG (tp [ii (facI 0), bb true]) one t 0 ++ ansD pt t m 13) [] = some (rt (ivv (t 13)), [], owG p (tp [ii (facI 0), bb true]) one t 0 ++ owD p 0 pt t m 13) := by kernel_rfl
theorem dt8_0_14 : runB Tryz.prog 12 #[ii 0, ii p, ii 14] [] [] (ansG (tp [ii (facI 0), bb true]) one t 0 ++ ansD pt t m 14) [] = some (rt (ivv (t 14)), [], owG p (tp [ii (facI 0), bb true]) one t 0 ++ owD p 0 pt t m 14) := by kernel_rfl
theorem dt8_1_0 : runB Tryz.prog 12 #[ii 1, ii p, ii 0] [] [] (ansG (tp [ii (facI 1), bb true]) one t 1 ++ ansD pt t m 0) [] = some (rt (ivv (t 0)), [], owG p (tp [ii (facI 1), bb true]) one t 1 ++ owD p 1 pt t m 0) := by kernel_rfl
theorem dt8_1_1 : runB Tryz.prog 12 #[ii 1, ii p, ii 1] [] [] (ansG (tp [ii (facI 1), bb true]) one t 1 ++ ansD pt t m 1) [] = some (rt (ivv (t 1)), [], owG p (tp [ii (facI 1), bb true]) one t 1 ++ owD p 1 pt t m 1) := by kernel_rfl
theorem dt8_1_2 : runB Tryz.prog 12 #[ii 1, ii p, ii 2] [] [] (ansG (tp [ii (facI 1), bb true]) one t 1 ++ ansD pt t m 2) [] = some (rt (ivv (t 2)), [], owG p (tp [ii (facI 1), bb true]) one t 1 ++ owD p 1 pt t m 2) := by kernel_rfl
theorem dt8_1_3 : runB Tryz.prog 12 #[ii 1, ii p, ii 3] [] [] (ansG (tp [ii (facI 1), bb true]) one t 1 ++ ansD pt t m 3) [] = some (rt (ivv (t 3)), [], owG p (tp [ii (facI 1), bb true]) one t 1 ++ owD p 1 pt t m 3) := by kernel_rfl
theorem dt8_1_4 : runB Tryz.prog 12 #[ii 1, ii p, ii 4] [] [] (ansG (tp [ii (facI 1), bb true]) one t 1 ++ ansD pt t m 4) [] = some (rt (ivv (t 4)), [], owG p (tp [ii (facI 1), bb true]) one t 1 ++ owD p 1 pt t m 4) := by kernel_rfl
theorem dt8_1_5 : runB Tryz.prog 12 #[ii 1, ii p, ii 5] [] [] (ansG (tp [ii (facI 1), bb true]) one t 1 ++ ansD pt t m 5) [] = some (rt (ivv (t 5)), [], owG p (tp [ii (facI 1), bb true]) one t 1 ++ owD p 1 pt t m 5) := by kernel_rfl
theorem dt8_1_6 : runB Tryz.prog 12 #[ii 1, ii p, ii 6] [] [] (ansG (tp [ii (facI 1), bb true]) one t 1 ++ ansD pt t m 6) [] = some (rt (ivv (t 6)), [], owG p (tp [ii (facI 1), bb true]) one t 1 ++ owD p 1 pt t m 6) := by kernel_rfl
theorem dt8_1_7 : runB Tryz.prog 12 #[ii 1, ii p, ii 7] [] [] (ansG (tp [ii (facI 1), bb true]) one t 1 ++ ansD pt t m 7) [] = some (rt (ivv (t 7)), [], owG p (tp [ii (facI 1), bb true]) one t 1 ++ owD p 1 pt t m 7) := by kernel_rfl
theorem dt8_1_8 : runB Tryz.prog 12 #[ii 1, ii p, ii 8] [] [] (ansG (tp [ii (facI 1), bb true]) one t 1 ++ ansD pt t m 8) [] = some (rt (ivv (t 8)), [], owG p (tp [ii (facI 1), bb true]) one t 1 ++ owD p 1 pt t m 8) := by kernel_rfl
theorem dt8_1_9 : runB Tryz.prog 12 #[ii 1, ii p, ii 9] [] [] (ansG (tp [ii (facI 1), bb true]) one t 1 ++ ansD pt t m 9) [] = some (rt (ivv (t 9)), [], owG p (tp [ii (facI 1), bb true]) one t 1 ++ owD p 1 pt t m 9) := by kernel_rfl
theorem dt8_1_10 : runB Tryz.prog 12 #[ii 1, ii p, ii 10] [] [] (ansG (tp [ii (facI 1), bb true]) one t 1 ++ ansD pt t m 10) [] = some (rt (ivv (t 10)), [], owG p (tp [ii (facI 1), bb true]) one t 1 ++ owD p 1 pt t m 10) := by kernel_rfl
theorem dt8_1_11 : runB Tryz.prog 12 #[ii 1, ii p, ii 11] [] [] (ansG (tp [ii (facI 1), bb true]) one t 1 ++ ansD pt t m 11) [] = some (rt (ivv (t 11)), [], owG p (tp [ii (facI 1), bb true]) one t 1 ++ owD p 1 pt t m 11) := by kernel_rfl
theorem dt8_1_12 : runB Tryz.prog 12 #[ii 1, ii p, ii 12] [] [] (ansG (tp [ii (facI 1), bb true]) one t 1 ++ ansD pt t m 12) [] = some (rt (ivv (t 12)), [], owG p (tp [ii (facI 1), bb true]) one t 1 ++ owD p 1 pt t m 12) := by kernel_rfl
theorem dt8_1_13 : runB Tryz.prog 12 #[ii 1, ii p, ii 13] [] [] (ansG (tp [ii (facI 1), bb true]) one t 1 ++ ansD pt t m 13) [] = some (rt (ivv (t 13)), [], owG p (tp [ii (facI 1), bb true]) one t 1 ++ owD p 1 pt t m 13) := by kernel_rfl
theorem dt8_1_14 : runB Tryz.prog 12 #[ii 1, ii p, ii 14] [] [] (ansG (tp [ii (facI 1), bb true]) one t 1 ++ ansD pt t m 14) [] = some (rt (ivv (t 14)), [], owG p (tp [ii (facI 1), bb true]) one t 1 ++ owD p 1 pt t m 14) := by kernel_rfl
theorem dt8_2_0 : runB Tryz.prog 12 #[ii 2, ii p, ii 0] [] [] (ansG (tp [ii (facI 2), bb true]) one t 2 ++ ansD pt t m 0) [] = some (rt (ivv (t 0)), [], owG p (tp [ii (facI 2), bb true]) one t 2 ++ owD p 2 pt t m 0) := by kernel_rfl
theorem dt8_2_1 : runB Tryz.prog 12 #[ii 2, ii p, ii 1] [] [] (ansG (tp [ii (facI 2), bb true]) one t 2 ++ ansD pt t m 1) [] = some (rt (ivv (t 1)), [], owG p (tp [ii (facI 2), bb true]) one t 2 ++ owD p 2 pt t m 1) := by kernel_rfl
theorem dt8_2_2 : runB Tryz.prog 12 #[ii 2, ii p, ii 2] [] [] (ansG (tp [ii (facI 2), bb true]) one t 2 ++ ansD pt t m 2) [] = some (rt (ivv (t 2)), [], owG p (tp [ii (facI 2), bb true]) one t 2 ++ owD p 2 pt t m 2) := by kernel_rfl
theorem dt8_2_3 : runB Tryz.prog 12 #[ii 2, ii p, ii 3] [] [] (ansG (tp [ii (facI 2), bb true]) one t 2 ++ ansD pt t m 3) [] = some (rt (ivv (t 3)), [], owG p (tp [ii (facI 2), bb true]) one t 2 ++ owD p 2 pt t m 3) := by kernel_rfl
theorem dt8_2_4 : runB Tryz.prog 12 #[ii 2, ii p, ii 4] [] [] (ansG (tp [ii (facI 2), bb true]) one t 2 ++ ansD pt t m 4) [] = some (rt (ivv (t 4)), [], owG p (tp [ii (facI 2), bb true]) one t 2 ++ owD p 2 pt t m 4) := by kernel_rfl
theorem dt8_2_5 : runB Tryz.prog 12 #[ii 2, ii p, ii 5] [] [] (ansG (tp [ii (facI 2), bb true]) one t 2 ++ ansD pt t m 5) [] = some (rt (ivv (t 5)), [], owG p (tp [ii (facI 2), bb true]) one t 2 ++ owD p 2 pt t m 5) := by kernel_rfl
theorem dt8_2_6 : runB Tryz.prog 12 #[ii 2, ii p, ii 6] [] [] (ansG (tp [ii (facI 2), bb true]) one t 2 ++ ansD pt t m 6) [] = some (rt (ivv (t 6)), [], owG p (tp [ii (facI 2), bb true]) one t 2 ++ owD p 2 pt t m 6) := by kernel_rfl
theorem dt8_2_7 : runB Tryz.prog 12 #[ii 2, ii p, ii 7] [] [] (ansG (tp [ii (facI 2), bb true]) one t 2 ++ ansD pt t m 7) [] = some (rt (ivv (t 7)), [], owG p (tp [ii (facI 2), bb true]) one t 2 ++ owD p 2 pt t m 7) := by kernel_rfl
theorem dt8_2_8 : runB Tryz.prog 12 #[ii 2, ii p, ii 8] [] [] (ansG (tp [ii (facI 2), bb true]) one t 2 ++ ansD pt t m 8) [] = some (rt (ivv (t 8)), [], owG p (tp [ii (facI 2), bb true]) one t 2 ++ owD p 2 pt t m 8) := by kernel_rfl
theorem dt8_2_9 : runB Tryz.prog 12 #[ii 2, ii p, ii 9] [] [] (ansG (tp [ii (facI 2), bb true]) one t 2 ++ ansD pt t m 9) [] = some (rt (ivv (t 9)), [], owG p (tp [ii (facI 2), bb true]) one t 2 ++ owD p 2 pt t m 9) := by kernel_rfl
theorem dt8_2_10 : runB Tryz.prog 12 #[ii 2, ii p, ii 10] [] [] (ansG (tp [ii (facI 2), bb true]) one t 2 ++ ansD pt t m 10) [] = some (rt (ivv (t 10)), [], owG p (tp [ii (facI 2), bb true]) one t 2 ++ owD p 2 pt t m 10) := by kernel_rfl
theorem dt8_2_11 : runB Tryz.prog 12 #[ii 2, ii p, ii 11] [] [] (ansG (tp [ii (facI 2), bb true]) one t 2 ++ ansD pt t m 11) [] = some (rt (ivv (t 11)), [], owG p (tp [ii (facI 2), bb true]) one t 2 ++ owD p 2 pt t m 11) := by kernel_rfl
theorem dt8_2_12 : runB Tryz.prog 12 #[ii 2, ii p, ii 12] [] [] (ansG (tp [ii (facI 2), bb true]) one t 2 ++ ansD pt t m 12) [] = some (rt (ivv (t 12)), [], owG p (tp [ii (facI 2), bb true]) one t 2 ++ owD p 2 pt t m 12) := by kernel_rfl
theorem dt8_2_13 : runB Tryz.prog 12 #[ii 2, ii p, ii 13] [] [] (ansG (tp [ii (facI 2), bb true]) one t 2 ++ ansD pt t m 13) [] = some (rt (ivv (t 13)), [], owG p (tp [ii (facI 2), bb true]) one t 2 ++ owD p 2 pt t m 13) := by kernel_rfl
theorem dt8_2_14 : runB Tryz.prog 12 #[ii 2, ii p, ii 14] [] [] (ansG (tp [ii (facI 2), bb true]) one t 2 ++ ansD pt t m 14) [] = some (rt (ivv (t 14)), [], owG p (tp [ii (facI 2), bb true]) one t 2 ++ owD p 2 pt t m 14) := by kernel_rfl
theorem dt8_3_0 : runB Tryz.prog 12 #[ii 3, ii p, ii 0] [] [] (ansG (tp [ii (facI 3), bb true]) one t 3 ++ ansD pt t m 0) [] = some (rt (ivv (t 0)), [], owG p (tp [ii (facI 3), bb true]) one t 3 ++ owD p 3 pt t m 0) := by kernel_rfl
theorem dt8_3_1 : runB Tryz.prog 12 #[ii 3, ii p, ii 1] [] [] (ansG (tp [ii (facI 3), bb true]) one t 3 ++ ansD pt t m 1) [] = some (rt (ivv (t 1)), [], owG p (tp [ii (facI 3), bb true]) one t 3 ++ owD p 3 pt t m 1) := by kernel_rfl
theorem dt8_3_2 : runB Tryz.prog 12 #[ii 3, ii p, ii 2] [] [] (ansG (tp [ii (facI 3), bb true]) one t 3 ++ ansD pt t m 2) [] = some (rt (ivv (t 2)), [], owG p (tp [ii (facI 3), bb true]) one t 3 ++ owD p 3 pt t m 2) := by kernel_rfl
theorem dt8_3_3 : runB Tryz.prog 12 #[ii 3, ii p, ii 3] [] [] (ansG (tp [ii (facI 3), bb true]) one t 3 ++ ansD pt t m 3) [] = some (rt (ivv (t 3)), [], owG p (tp [ii (facI 3), bb true]) one t 3 ++ owD p 3 pt t m 3) := by kernel_rfl
theorem dt8_3_4 : runB Tryz.prog 12 #[ii 3, ii p, ii 4] [] [] (ansG (tp [ii (facI 3), bb true]) one t 3 ++ ansD pt t m 4) [] = some (rt (ivv (t 4)), [], owG p (tp [ii (facI 3), bb true]) one t 3 ++ owD p 3 pt t m 4) := by kernel_rfl
theorem dt8_3_5 : runB Tryz.prog 12 #[ii 3, ii p, ii 5] [] [] (ansG (tp [ii (facI 3), bb true]) one t 3 ++ ansD pt t m 5) [] = some (rt (ivv (t 5)), [], owG p (tp [ii (facI 3), bb true]) one t 3 ++ owD p 3 pt t m 5) := by kernel_rfl
theorem dt8_3_6 : runB Tryz.prog 12 #[ii 3, ii p, ii 6] [] [] (ansG (tp [ii (facI 3), bb true]) one t 3 ++ ansD pt t m 6) [] = some (rt (ivv (t 6)), [], owG p (tp [ii (facI 3), bb true]) one t 3 ++ owD p 3 pt t m 6) := by kernel_rfl
theorem dt8_3_7 : runB Tryz.prog 12 #[ii 3, ii p, ii 7] [] [] (ansG (tp [ii (facI 3), bb true]) one t 3 ++ ansD pt t m 7) [] = some (rt (ivv (t 7)), [], owG p (tp [ii (facI 3), bb true]) one t 3 ++ owD p 3 pt t m 7) := by kernel_rfl
theorem dt8_3_8 : runB Tryz.prog 12 #[ii 3, ii p, ii 8] [] [] (ansG (tp [ii (facI 3), bb true]) one t 3 ++ ansD pt t m 8) [] = some (rt (ivv (t 8)), [], owG p (tp [ii (facI 3), bb true]) one t 3 ++ owD p 3 pt t m 8) := by kernel_rfl
theorem dt8_3_9 : runB Tryz.prog 12 #[ii 3, ii p, ii 9] [] [] (ansG (tp [ii (facI 3), bb true]) one t 3 ++ ansD pt t m 9) [] = some (rt (ivv (t 9)), [], owG p (tp [ii (facI 3), bb true]) one t 3 ++ owD p 3 pt t m 9) := by kernel_rfl
theorem dt8_3_10 : runB Tryz.prog 12 #[ii 3, ii p, ii 10] [] [] (ansG (tp [ii (facI 3), bb true]) one t 3 ++ ansD pt t m 10) [] = some (rt (ivv (t 10)), [], owG p (tp [ii (facI 3), bb true]) one t 3 ++ owD p 3 pt t m 10) := by kernel_rfl
theorem dt8_3_11 : runB Tryz.prog 12 #[ii 3, ii p, ii 11] [] [] (ansG (tp [ii (facI 3), bb true]) one t 3 ++ ansD pt t m 11) [] = some (rt (ivv (t 11)), [], owG p (tp [ii (facI 3), bb true]) one t 3 ++ owD p 3 pt t m 11) := by kernel_rfl
theorem dt8_3_12 : runB Tryz.prog 12 #[ii 3, ii p, ii 12] [] [] (ansG (tp [ii (facI 3), bb true]) one t 3 ++ ansD pt t m 12) [] = some (rt (ivv (t 12)), [], owG p (tp [ii (facI 3), bb true]) one t 3 ++ owD p 3 pt t m 12) := by kernel_rfl
theorem dt8_3_13 : runB Tryz.prog 12 #[ii 3, ii p, ii 13] [] [] (ansG (tp [ii (facI 3), bb true]) one t 3 ++ ansD pt t m 13) [] = some (rt (ivv (t 13)), [], owG p (tp [ii (facI 3), bb true]) one t 3 ++ owD p 3 pt t m 13) := by kernel_rfl
theorem dt8_3_14 : runB Tryz.prog 12 #[ii 3, ii p, ii 14] [] [] (ansG (tp [ii (facI 3), bb true]) one t 3 ++ ansD pt t m 14) [] = some (rt (ivv (t 14)), [], owG p (tp [ii (facI 3), bb true]) one t 3 ++ owD p 3 pt t m 14) := by kernel_rfl
theorem dt8_raw : ∀ (k n : Nat), k ≤ 3 → n ≤ 14 → runB Tryz.prog 12 #[ii (Int.ofNat k), ii p, ii (Int.ofNat n)] [] [] (ansG (tp [ii (facI k), bb true]) one t k ++ ansD pt t m n) [] = some (rt (ivv (t n)), [], owG p (tp [ii (facI k), bb true]) one t k ++ owD p k pt t m n)
  | 0, 0, _, _ => dt8_0_0 p pt one t m
  | 0, 1, _, _ => dt8_0_1 p pt one t m
  | 0, 2, _, _ => dt8_0_2 p pt one t m
  | 0, 3, _, _ => dt8_0_3 p pt one t m
  | 0, 4, _, _ => dt8_0_4 p pt one t m
  | 0, 5, _, _ => dt8_0_5 p pt one t m
  | 0, 6, _, _ => dt8_0_6 p pt one t m
  | 0, 7, _, _ => dt8_0_7 p pt one t m
  | 0, 8, _, _ => dt8_0_8 p pt one t m
  | 0, 9, _, _ => dt8_0_9 p pt one t m
  | 0, 10, _, _ => dt8_0_10 p pt one t m
  | 0, 11, _, _ => dt8_0_11 p pt one t m
  | 0, 12, _, _ => dt8_0_12 p pt one t m
  | 0, 13, _, _ => dt8_0_13 p pt one t m
  | 0, 14, _, _ => dt8_0_14 p pt one t m
  | 1, 0, _, _ => dt8_1_0 p pt one t m
  | 1, 1, _, _ => dt8_1_1 p pt one t m
  | 1, 2, _, _ => dt8_1_2 p pt one t m
  | 1, 3, _, _ => dt8_1_3 p pt one t m
  | 1, 4, _, _ => dt8_1_4 p pt one t m
  | 1, 5, _, _ => dt8_1_5 p pt one t m
  | 1, 6, _, _ => dt8_1_6 p pt one t m
  | 1, 7, _, _ => dt8_1_7 p pt one t m
  | 1, 8, _, _ => dt8_1_8 p pt one t m
  | 1, 9, _, _ => dt8_1_9 p pt one t m
  | 1, 10, _, _ => dt8_1_10 p pt one t m
  | 1, 11, _, _ => dt8_1_11 p pt one t m
  | 1, 12, _, _ => dt8_1_12 p pt one t m
  | 1, 13, _, _ => dt8_1_13 p pt one t m
  | 1, 14, _, _ => dt8_1_14 p pt one t m
  | 2, 0, _, _ => dt8_2_0 p pt one t m
  | 2, 1, _, _ => dt8_2_1 p pt one t m
  | 2, 2, _, _ => dt8_2_2 p pt one t m
  | 2, 3, _, _ => dt8_2_3 p pt one t m
  | 2, 4, _, _ => dt8_2_4 p pt one t m
  | 2, 5, _, _ => dt8_2_5 p pt one t m
  | 2, 6, _, _ => dt8_2_6 p pt one t m
  | 2, 7, _, _ => dt8_2_7 p pt one t m
  | 2, 8, _, _ => dt8_2_8 p pt one t m
  | 2, 9, _, _ => dt8_2_9 p pt one t m
  | 2, 10, _, _ => dt8_2_10 p pt one t m
  | 2, 11, _, _ => dt8_2_11 p pt one t m
  | 2, 12, _, _ => dt8_2_12 p pt one t m
  | 2, 13, _, _ => dt8_2_13 p pt one t m
  | 2, 14, _, _ => dt8_2_14 p pt one t m
  | 3, 0, _, _ => dt8_3_0 p pt one t m
  | 3, 1, _, _ => dt8_3_1 p pt one t m
  | 3, 2, _, _ => dt8_3_2 p pt one t m
  | 3, 3, _, _ => dt8_3_3 p pt one t m
  | 3, 4, _, _ => dt8_3_4 p pt one t m
  | 3, 5, _, _ => dt8_3_5 p pt one t m
  | 3, 6, _, _ => dt8_3_6 p pt one t m
  | 3, 7, _, _ => dt8_3_7 p pt one t m
  | 3, 8, _, _ => dt8_3_8 p pt one t m
  | 3, 9, _, _ => dt8_3_9 p pt one t m
  | 3, 10, _, _ => dt8_3_10 p pt one t m
  | 3, 11, _, _ => dt8_3_11 p pt one t m
  | 3, 12, _, _ => dt8_3_12 p pt one t m
  | 3, 13, _, _ => dt8_3_13 p pt one t m
  | 3, 14, _, _ => dt8_3_14 p pt one t m
  | k + 4, _, h, _ => absurd h (by omega)
  | 0, n + 15, _, h => absurd h (by omega)
  | 1, n + 15, _, h => absurd h (by omega)
  | 2, n + 15, _, h => absurd h (by omega)
  | 3, n + 15, _, h => absurd h (by omega)
end
end Go.Proofs.YtbmekaaekngpbaaGreat
