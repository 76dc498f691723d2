/- Texts of the seat, joined. -/
import Derived.Test.YtbmekaaekngpbaaGreatZz49
import Derived.Test.YtbmekaaekngpbaaGreatZz50
import Derived.Test.YtbmekaaekngpbaaGreatZz51
/- Package stumpff: terms and factorials. -/
namespace Go.Proofs.YtbmekaaekngpbaaGreat
open Go Go.RowKit
set_option linter.unusedSimpArgs false
set_option linter.unusedVariables false
set_option maxRecDepth 100000

section
variable (n1 p : Int) (nu pt one b : IV) (t m : Nat → IV)
theorem trm_raw : ∀ (k n : Nat), k ≤ 3 → n ≤ 14 → runB Tryz.prog 11 #[ii (Int.ofNat k), ii p, ii (Int.ofNat n)] [] [] (ansH nu pt one t ++ ansS pt t m n) [] = some (rt (ivv (t n)), [], owH k p nu pt one t ++ owS p k pt t m n)
  | 0, 0, _, _ => trm_0_0 p nu pt one t m
  | 0, 1, _, _ => trm_0_1 p nu pt one t m
  | 0, 2, _, _ => trm_0_2 p nu pt one t m
  | 0, 3, _, _ => trm_0_3 p nu pt one t m
  | 0, 4, _, _ => trm_0_4 p nu pt one t m
  | 0, 5, _, _ => trm_0_5 p nu pt one t m
  | 0, 6, _, _ => trm_0_6 p nu pt one t m
  | 0, 7, _, _ => trm_0_7 p nu pt one t m
  | 0, 8, _, _ => trm_0_8 p nu pt one t m
  | 0, 9, _, _ => trm_0_9 p nu pt one t m
  | 0, 10, _, _ => trm_0_10 p nu pt one t m
  | 0, 11, _, _ => trm_0_11 p nu pt one t m
  | 0, 12, _, _ => trm_0_12 p nu pt one t m
  | 0, 13, _, _ => trm_0_13 p nu pt one t m
  | 0, 14, _, _ => trm_0_14 p nu pt one t m
  | 1, 0, _, _ => trm_1_0 p nu pt one t m
  | 1, 1, _, _ => trm_1_1 p nu pt one t m
  | 1, 2, _, _ => trm_1_2 p nu pt one t m
  | 1, 3, _, _ => trm_1_3 p nu pt one t m
  | 1, 4, _, _ => trm_1_4 p nu pt one t m
  | 1, 5, _, _ => trm_1_5 p nu pt one t m
  | 1, 6, _, _ => trm_1_6 p nu pt one t m
  | 1, 7, _, _ => trm_1_7 p nu pt one t m
  | 1, 8, _, _ => trm_1_8 p nu pt one t m
  | 1, 9, _, _ => trm_1_9 p nu pt one t m
  | 1, 10, _, _ => trm_1_10 p nu pt one t m
  | 1, 11, _, _ => trm_1_11 p nu pt one t m
  | 1, 12, _, _ => trm_1_12 p nu pt one t m
  | 1, 13, _, _ => trm_1_13 p nu pt one t m
  | 1, 14, _, _ => trm_1_14 p nu pt one t m
  | 2, 0, _, _ => trm_2_0 p nu pt one t m
  | 2, 1, _, _ => trm_2_1 p nu pt one t m
  | 2, 2, _, _ => trm_2_2 p nu pt one t m
  | 2, 3, _, _ => trm_2_3 p nu pt one t m
  | 2, 4, _, _ => trm_2_4 p nu pt one t m
  | 2, 5, _, _ => trm_2_5 p nu pt one t m
  | 2, 6, _, _ => trm_2_6 p nu pt one t m
  | 2, 7, _, _ => trm_2_7 p nu pt one t m
  | 2, 8, _, _ => trm_2_8 p nu pt one t m
  | 2, 9, _, _ => trm_2_9 p nu pt one t m
  | 2, 10, _, _ => trm_2_10 p nu pt one t m
  | 2, 11, _, _ => trm_2_11 p nu pt one t m
  | 2, 12, _, _ => trm_2_12 p nu pt one t m
  | 2, 13, _, _ => trm_2_13 p nu pt one t m
  | 2, 14, _, _ => trm_2_14 p nu pt one t m
  | 3, 0, _, _ => trm_3_0 p nu pt one t m
  | 3, 1, _, _ => trm_3_1 p nu pt one t m
  | 3, 2, _, _ => trm_3_2 p nu pt one t m
  | 3, 3, _, _ => trm_3_3 p nu pt one t m
  | 3, 4, _, _ => trm_3_4 p nu pt one t m
  | 3, 5, _, _ => trm_3_5 p nu pt one t m
  | 3, 6, _, _ => trm_3_6 p nu pt one t m
  | 3, 7, _, _ => trm_3_7 p nu pt one t m
  | 3, 8, _, _ => trm_3_8 p nu pt one t m
  | 3, 9, _, _ => trm_3_9 p nu pt one t m
  | 3, 10, _, _ => trm_3_10 p nu pt one t m
  | 3, 11, _, _ => trm_3_11 p nu pt one t m
  | 3, 12, _, _ => trm_3_12 p nu pt one t m
  | 3, 13, _, _ => trm_3_13 p nu pt one t m
  | 3, 14, _, _ => trm_3_14 p nu pt one t m
  | k + 4, _, h, _ => absurd h (by omega)
  | 0, n + 15, _, h => absurd h (by omega)
  | 1, n + 15, _, h => absurd h (by omega)
  | 2, n + 15, _, h => absurd h (by omega)
  | 3, n + 15, _, h => absurd h (by omega)
theorem trm_raw_o : ∀ (k : Nat), k ≤ 3 → runB Tryz.prog 11 #[ii (Int.ofNat k), ii p, ii n1] [] orcN (ansH nu pt one t ++ ansS pt t m 15 ++ [(37, rt (ivv b))]) [] = some (rt (ivv b), [], owH k p nu pt one t ++ owN n1 p k pt t m 15 ++ [PureX Tryz.prog 37 #[] (rt (ivv b))])
  | 0, _ => trm_0_o n1 p nu pt one b t m
  | 1, _ => trm_1_o n1 p nu pt one b t m
  | 2, _ => trm_2_o n1 p nu pt one b t m
  | 3, _ => trm_3_o n1 p nu pt one b t m
  | k + 4, h => absurd h (by omega)
theorem trm_no1 (k : Int) : runB Tryz.prog 11 #[ii k, ii p, ii n1] [] [] [(32, rt (bb false)), (37, rt (ivv b))] [] = some (rt (ivv b), [], [PureX Tryz.prog 32 #[ii k] (rt (bb false)), PureX Tryz.prog 37 #[] (rt (ivv b))]) := by kernel_rfl
theorem trm_no2 (k : Int) : runB Tryz.prog 11 #[ii k, ii p, ii n1] [] [] [(32, rt (bb true)), (34, rt (ivv nu)), (35, rt (ivv pt)), (33, rt (bb false)), (37, rt (ivv b))] [] = some (rt (ivv b), [], [PureX Tryz.prog 32 #[ii k] (rt (bb true)), PureX Tryz.prog 34 #[] (rt (ivv nu)), PureX Tryz.prog 35 #[ii p] (rt (ivv pt)), PureX Tryz.prog 33 #[ivv nu, ivv pt] (rt (bb false)), PureX Tryz.prog 37 #[] (rt (ivv b))]) := by kernel_rfl
end
/-- The term of k, at a point, at a place. -/
def tI (k p n : Int) : IV := if (0 ≤ k ∧ k < 4) ∧ (-17179869184 ≤ p ∧ p ≤ 17179869184) ∧ (0 ≤ n ∧ n ≤ 14) then tS k.toNat p n.toNat else bdV
theorem sterm_v (k p n : Int) : PureX Tryz.prog 11 #[ii k, ii p, ii n] (rt (ivv (tI k p n))) := by
  have hi := is_v k
  have hh := holds_v nuV (mkV p p)
  unfold tI
  by_cases h : 0 ≤ k ∧ k < 4
  · by_cases hp : -17179869184 ≤ p ∧ p ≤ 17179869184
    · obtain ⟨j, rfl⟩ := Int.eq_ofNat_of_zero_le h.1
      have hk : j ≤ 3 := by omega
      by_cases hn : 0 ≤ n ∧ n ≤ 14
      · rw [if_pos ⟨h, hp, hn⟩]
        obtain ⟨i, rfl⟩ := Int.eq_ofNat_of_zero_le hn.1
        rw [Int.toNat_natCast, Int.toNat_natCast]
        exact runB_pure mix (trm_raw p nuV (mkV p p) (1073741824, 1073741824, false) (tS j p) (mS j p) j i hk (by omega)) ((allP_append _ _).2 ⟨owH_ok hk (pt_nu.2 hp), owS_ok hk p i (by omega)⟩) rfl rfl
      · rw [if_neg (fun h => hn h.2.2)]
        exact runB_pure mix (trm_raw_o n p nuV (mkV p p) (1073741824, 1073741824, false) bdV (tS j p) (mS j p) j hk) ((allP_append _ _).2 ⟨(allP_append _ _).2 ⟨owH_ok hk (pt_nu.2 hp), owN_ok hk p hn 15 (by decide)⟩, bad8_c, trivial⟩) rfl rfl
    · rw [if_neg (fun h => hp h.2.1)]
      rw [decide_eq_true h] at hi
      have h2 : holdsV nuV (mkV p p) = false := by
        cases hv : holdsV nuV (mkV p p)
        · rfl
        · exact absurd (pt_nu.1 hv) hp
      rw [h2] at hh
      exact runB_pure mix (trm_no2 n p nuV (mkV p p) bdV k) ⟨hi, num_c, point_v p, hh, bad8_c, trivial⟩ rfl rfl
  · rw [if_neg (fun hh => h hh.1)]
    rw [decide_eq_false h] at hi
    exact runB_pure mix (trm_no1 n p bdV k) ⟨hi, bad8_c, trivial⟩ rfl rfl
/-! Factorials. -/
def facN : Nat → Nat
  | 0 => 1
  | n + 1 => facN n * (n + 1)
def facT (n : Int) : Value := if 0 ≤ n ∧ n ≤ 20 then tp [ii (Int.ofNat (facN n.toNat)), bb true] else tp [ii 0, bb false]
theorem fac_lo (n1 : Int) : runB Tryz.prog 9 #[ii n1] [] [t, n, n] [] [] = some (rt (tp [ii 0, bb false]), [], [decide (n1 < 0) = true]) := by kernel_rfl
theorem fac_hi (n1 : Int) : runB Tryz.prog 9 #[ii n1] [] [f, n, t] [] [] = some (rt (tp [ii 0, bb false]), [], [decide (n1 < 0) = false, decide (20 < n1) = true]) := by kernel_rfl
theorem fac_raw : ∀ n : Nat, n ≤ 20 → runB Tryz.prog 9 #[ii (Int.ofNat n)] [] [] [] [] = some (rt (tp [ii (Int.ofNat (facN n)), bb true]), [], [])
  | 0, _ => by kernel_rfl
  | 1, _ => by kernel_rfl
  | 2, _ => by kernel_rfl
  | 3, _ => by kernel_rfl
  | 4, _ => by kernel_rfl
  | 5, _ => by kernel_rfl
  | 6, _ => by kernel_rfl
  | 7, _ => by kernel_rfl
  | 8, _ => by kernel_rfl
  | 9, _ => by kernel_rfl
  | 10, _ => by kernel_rfl
  | 11, _ => by kernel_rfl
  | 12, _ => by kernel_rfl
  | 13, _ => by kernel_rfl
  | 14, _ => by kernel_rfl
  | 15, _ => by kernel_rfl
  | 16, _ => by kernel_rfl
  | 17, _ => by kernel_rfl
  | 18, _ => by kernel_rfl
  | 19, _ => by kernel_rfl
  | 20, _ => by kernel_rfl
  | n + 21, h => absurd h (by omega)
theorem fac_v (n : Int) : PureX Tryz.prog 9 #[ii n] (rt (facT n)) := by
  unfold facT
  by_cases h : n < 0
  · rw [if_neg (by omega)]
    exact runB_pure mix (fac_lo n) ⟨decide_eq_true h, trivial⟩ rfl rfl
  · by_cases h2 : 20 < n
    · rw [if_neg (by omega)]
      exact runB_pure mix (fac_hi n) ⟨decide_eq_false h, decide_eq_true h2, trivial⟩ rfl rfl
    · rw [if_pos (by omega)]
      obtain ⟨j, rfl⟩ := Int.eq_ofNat_of_zero_le (show 0 ≤ n by omega)
      rw [Int.toNat_natCast]
      exact runB_pure mix (fac_raw j (by omega)) trivial rfl rfl
theorem dfac_lo (n1 : Int) : runB Tryz.prog 10 #[ii n1] [] [t, n, n] [] [] = some (rt (tp [ii 0, bb false]), [], [decide (n1 < 0) = true]) := by kernel_rfl
theorem dfac_hi (n1 : Int) : runB Tryz.prog 10 #[ii n1] [] [f, n, t] [] [] = some (rt (tp [ii 0, bb false]), [], [decide (n1 < 0) = false, decide (20 < n1) = true]) := by kernel_rfl
theorem dfac_raw : ∀ n : Nat, n ≤ 20 → runB Tryz.prog 10 #[ii (Int.ofNat n)] [] [] [] [] = some (rt (tp [ii (Int.ofNat (facN n)), bb true]), [], [])
  | 0, _ => by kernel_rfl
  | 1, _ => by kernel_rfl
  | 2, _ => by kernel_rfl
  | 3, _ => by kernel_rfl
  | 4, _ => by kernel_rfl
  | 5, _ => by kernel_rfl
  | 6, _ => by kernel_rfl
  | 7, _ => by kernel_rfl
  | 8, _ => by kernel_rfl
  | 9, _ => by kernel_rfl
  | 10, _ => by kernel_rfl
  | 11, _ => by kernel_rfl
  | 12, _ => by kernel_rfl
  | 13, _ => by kernel_rfl
  | 14, _ => by kernel_rfl
  | 15, _ => by kernel_rfl
  | 16, _ => by kernel_rfl
  | 17, _ => by kernel_rfl
  | 18, _ => by kernel_rfl
  | 19, _ => by kernel_rfl
  | 20, _ => by kernel_rfl
  | n + 21, h => absurd h (by omega)
theorem dfac_v (n : Int) : PureX Tryz.prog 10 #[ii n] (rt (facT n)) := by
  unfold facT
  by_cases h : n < 0
  · rw [if_neg (by omega)]
    exact runB_pure mix (dfac_lo n) ⟨decide_eq_true h, trivial⟩ rfl rfl
  · by_cases h2 : 20 < n
    · rw [if_neg (by omega)]
      exact runB_pure mix (dfac_hi n) ⟨decide_eq_false h, decide_eq_true h2, trivial⟩ rfl rfl
    · rw [if_pos (by omega)]
      obtain ⟨j, rfl⟩ := Int.eq_ofNat_of_zero_le (show 0 ≤ n by omega)
      rw [Int.toNat_natCast]
      exact runB_pure mix (dfac_raw j (by omega)) trivial rfl rfl
end Go.Proofs.YtbmekaaekngpbaaGreat
