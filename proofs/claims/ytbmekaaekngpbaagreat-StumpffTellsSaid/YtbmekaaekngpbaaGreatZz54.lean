/- Texts of the seat, joined. -/
import Derived.Test.YtbmekaaekngpbaaGreatZz53
/- The document's four series, walked. -/
namespace Go.Proofs.YtbmekaaekngpbaaGreat
open Go Go.RowKit
set_option linter.unusedSimpArgs false
set_option linter.unusedVariables false
set_option maxRecDepth 100000

theorem dt8_no (n1 p : Int) (b : IV) (k : Int) : runB Tryz.prog 12 #[ii k, ii p, ii n1] [] [] [(38, rt (bb false)), (39, rt (ivv b))] [] = some (rt (ivv b), [], [PureX Tryz.prog 38 #[ii k, ii p] (rt (bb false)), PureX Tryz.prog 39 #[] (rt (ivv b))]) := by kernel_rfl
theorem dt8_lo (n1 p : Int) (b : IV) (k : Int) : runB Tryz.prog 12 #[ii k, ii p, ii n1] [] [n, n, t, n, n] [(38, rt (bb true)), (39, rt (ivv b))] [] = some (rt (ivv b), [], [PureX Tryz.prog 38 #[ii k, ii p] (rt (bb true)), decide (n1 < 0) = true, PureX Tryz.prog 39 #[] (rt (ivv b))]) := by kernel_rfl
theorem dt8_hi (n1 p : Int) (b : IV) (k : Int) : runB Tryz.prog 12 #[ii k, ii p, ii n1] [] [n, n, f, n, t] [(38, rt (bb true)), (39, rt (ivv b))] [] = some (rt (ivv b), [], [PureX Tryz.prog 38 #[ii k, ii p] (rt (bb true)), decide (n1 < 0) = false, decide (14 < n1) = true, PureX Tryz.prog 39 #[] (rt (ivv b))]) := by kernel_rfl
theorem dbad8_raw : runB Tryz.prog 39 #[] [] [] [] [] = some (rt (ivv bdV), [], []) := by kernel_rfl
theorem dbad8_c : PureX Tryz.prog 39 #[] (rt (ivv bdV)) := runB_pure mix dbad8_raw trivial rfl rfl
theorem may_1 (k p : Int) : runB Tryz.prog 38 #[ii k, ii p] [] [t, n, t, n, t, n] [] [] = some (rt (bb (decide (p ≤ 17179869184))), [], [decide (0 ≤ k) = true, decide (k ≤ 3) = true, decide (Int.neg 17179869184 ≤ p) = true]) := by kernel_rfl
theorem may_2 (k p : Int) : runB Tryz.prog 38 #[ii k, ii p] [] [f, n, n, n, n, n] [] [] = some (rt (bb false), [], [decide (0 ≤ k) = false]) := by kernel_rfl
theorem may_3 (k p : Int) : runB Tryz.prog 38 #[ii k, ii p] [] [t, n, f, n, n, n] [] [] = some (rt (bb false), [], [decide (0 ≤ k) = true, decide (k ≤ 3) = false]) := by kernel_rfl
theorem may_4 (k p : Int) : runB Tryz.prog 38 #[ii k, ii p] [] [t, n, t, n, f, n] [] [] = some (rt (bb false), [], [decide (0 ≤ k) = true, decide (k ≤ 3) = true, decide (Int.neg 17179869184 ≤ p) = false]) := by kernel_rfl
theorem may_v (k p : Int) : PureX Tryz.prog 38 #[ii k, ii p] (rt (bb (decide ((0 ≤ k ∧ k < 4) ∧ (-17179869184 ≤ p ∧ p ≤ 17179869184))))) := by
  have en : Int.neg 17179869184 = -17179869184 := rfl
  by_cases h : 0 ≤ k
  · by_cases h2 : k ≤ 3
    · by_cases h3 : -17179869184 ≤ p
      · have e : decide ((0 ≤ k ∧ k < 4) ∧ (-17179869184 ≤ p ∧ p ≤ 17179869184)) = decide (p ≤ 17179869184) := by rw [decide_eq_decide]; omega
        rw [e]
        exact runB_pure mix (may_1 k p) ⟨decide_eq_true h, decide_eq_true h2, decide_eq_true (by rw [en]; exact h3), trivial⟩ rfl rfl
      · rw [decide_eq_false (by omega)]
        exact runB_pure mix (may_4 k p) ⟨decide_eq_true h, decide_eq_true h2, decide_eq_false (by rw [en]; exact h3), trivial⟩ rfl rfl
    · rw [decide_eq_false (by omega)]
      exact runB_pure mix (may_3 k p) ⟨decide_eq_true h, decide_eq_false h2, trivial⟩ rfl rfl
  · rw [decide_eq_false (by omega)]
    exact runB_pure mix (may_2 k p) ⟨decide_eq_false h, trivial⟩ rfl rfl
theorem owD_ok {k : Nat} (hk : k ≤ 3) (p : Int) : ∀ n, n ≤ 15 → AllP (owD p k (mkV p p) (tS k p) (mS k p) n)
  | 0, _ => trivial
  | j + 1, hj => (allP_append _ _).2 ⟨owD_ok hk p j (by omega), rpoint_v p, dmul_v plain_ok _ _, dpart_v plain_ok _ (by decide) (dS_isI hk (by omega)), trivial⟩
theorem owG_ok {k : Nat} (hk : k ≤ 3) {p : Int} (h : -17179869184 ≤ p ∧ p ≤ 17179869184) : AllP (owG p (tp [ii (facI k), bb true]) (1073741824, 1073741824, false) (tS k p) k) := by
  have hm := may_v (Int.ofNat k) p
  rw [decide_eq_true (show (0 ≤ Int.ofNat k ∧ Int.ofNat k < 4) ∧ _ from ⟨⟨Int.natCast_nonneg k, Int.ofNat_lt.2 (show k < 4 by omega)⟩, h⟩)] at hm
  have hf := dfac_v (Int.ofNat k)
  have : k = 0 ∨ k = 1 ∨ k = 2 ∨ k = 3 := by omega
  rcases this with rfl | rfl | rfl | rfl
  · exact ⟨hm, hf, rof1_v, trivial⟩
  · exact ⟨hm, hf, rof1_v, trivial⟩
  · exact ⟨hm, hf, rof1_v, (dpart_v plain_ok (1073741824, 1073741824, false) (n := 1) (d := 2) (by decide) (by decide)).is (by kernel_rfl), trivial⟩
  · exact ⟨hm, hf, rof1_v, (dpart_v plain_ok (1073741824, 1073741824, false) (n := 1) (d := 6) (by decide) (by decide)).is (by kernel_rfl), trivial⟩
theorem dterm8_v (k p n : Int) : PureX Tryz.prog 12 #[ii k, ii p, ii n] (rt (ivv (tI k p n))) := by
  have hm := may_v k p
  unfold tI
  by_cases h : (0 ≤ k ∧ k < 4) ∧ (-17179869184 ≤ p ∧ p ≤ 17179869184)
  · by_cases hn : 0 ≤ n ∧ n ≤ 14
    · rw [if_pos ⟨h.1, h.2, hn⟩]
      obtain ⟨j, rfl⟩ := Int.eq_ofNat_of_zero_le h.1.1
      have hk : j ≤ 3 := by omega
      obtain ⟨i, rfl⟩ := Int.eq_ofNat_of_zero_le hn.1
      rw [Int.toNat_natCast, Int.toNat_natCast]
      exact runB_pure mix (dt8_raw p (mkV p p) (1073741824, 1073741824, false) (tS j p) (mS j p) j i hk (by omega)) ((allP_append _ _).2 ⟨owG_ok hk h.2, owD_ok hk p i (by omega)⟩) rfl rfl
    · rw [if_neg (fun h => hn h.2.2)]
      rw [decide_eq_true h] at hm
      by_cases h0 : n < 0
      · exact runB_pure mix (dt8_lo n p bdV k) ⟨hm, decide_eq_true h0, dbad8_c, trivial⟩ rfl rfl
      · exact runB_pure mix (dt8_hi n p bdV k) ⟨hm, decide_eq_false h0, decide_eq_true (by omega), dbad8_c, trivial⟩ rfl rfl
  · rw [if_neg (fun hh => h ⟨hh.1, hh.2.1⟩)]
    rw [decide_eq_false h] at hm
    exact runB_pure mix (dt8_no n p bdV k) ⟨hm, dbad8_c, trivial⟩ rfl rfl
/-! Enclosures. -/
def ansP (t s : Nat → IV) : Nat → List (Nat × Res)
  | 0 => [(12, rt (ivv (t 0)))]
  | 1 => [(12, rt (ivv (t 0))), (12, rt (ivv (t 1))), (23, rt (ivv (s 2)))]
  | j + 1 => ansP t s j ++ [(12, rt (ivv (t (j + 1)))), (23, rt (ivv (s (j + 2))))]
def owP (k p : Int) (t s : Nat → IV) : Nat → List Prop
  | 0 => [PureX Tryz.prog 12 #[ii k, ii p, ii 0] (rt (ivv (t 0)))]
  | 1 => [PureX Tryz.prog 12 #[ii k, ii p, ii 0] (rt (ivv (t 0))), PureX Tryz.prog 12 #[ii k, ii p, ii 1] (rt (ivv (t 1))), PureX Tryz.prog 23 #[ivv (t 0), ivv (t 1)] (rt (ivv (s 2)))]
  | j + 1 => owP k p t s j ++ [PureX Tryz.prog 12 #[ii k, ii p, ii (Int.ofNat (j + 1))] (rt (ivv (t (j + 1)))), PureX Tryz.prog 23 #[ivv (s (j + 1)), ivv (t (j + 1))] (rt (ivv (s (j + 2))))]
def dR (x : IV) : Int := IntKind.i64.wrap (2 * mxI (mxI (mxI x.2.1 (IntKind.i64.wrap (0 - x.2.1))) x.1) (IntKind.i64.wrap (0 - x.1)))
theorem dpo8_raw (k p : Int) (q w : IV) (t s : Nat → IV) : runB Tryz.prog 44 #[ii k, ii p] [] [] (ansP t s 13 ++ [(12, rt (ivv (t 14))), (21, rt (ivv q)), (23, rt (ivv w))]) [] =
    some (rt (ivv w), [], owP k p t s 13 ++ [PureX Tryz.prog 12 #[ii k, ii p, ii 14] (rt (ivv (t 14))), PureX Tryz.prog 21 #[ii (IntKind.i64.wrap (0 - dR (t 14))), ii (dR (t 14))] (rt (ivv q)), PureX Tryz.prog 23 #[ivv (s 14), ivv q] (rt (ivv w))]) := by kernel_rfl
theorem dterm8_n {k : Nat} (hk : k ≤ 3) {p : Int} (h : -17179869184 ≤ p ∧ p ≤ 17179869184) {n : Nat} (hn : n ≤ 14) : PureX Tryz.prog 12 #[ii (Int.ofNat k), ii p, ii (Int.ofNat n)] (rt (ivv (tS k p n))) := by
  have := dterm8_v (Int.ofNat k) p (Int.ofNat n)
  unfold tI at this
  rw [if_pos ⟨⟨Int.natCast_nonneg k, Int.ofNat_lt.2 (show k < 4 by omega)⟩, h, Int.natCast_nonneg n, Int.ofNat_le.2 (show n ≤ 14 by omega)⟩] at this
  exact this
theorem sS_1 {k : Nat} (hk : k ≤ 3) {p : Int} (h : -17179869184 ≤ p ∧ p ≤ 17179869184) : sS k p 1 = tS k p 0 := by
  have i := (tS_ok hk h.1 h.2 0 (by decide)).1
  have o := okV_iff.1 i.1
  show addV (0, 0, false) (tS k p 0) = _
  rw [addV_ok (by decide) i.1]
  show mkV (0 + (tS k p 0).1) (0 + (tS k p 0).2.1) = _
  rw [Int.zero_add, Int.zero_add, mkV_ok (by omega) (by omega) (by omega)]
  exact (ext3 rfl rfl o.1).symm
theorem owP_ok {k : Nat} (hk : k ≤ 3) {p : Int} (h : -17179869184 ≤ p ∧ p ≤ 17179869184) : ∀ n, n ≤ 13 → AllP (owP (Int.ofNat k) p (tS k p) (sS k p) n)
  | 0, _ => ⟨dterm8_n hk h (n := 0) (by decide), trivial⟩
  | 1, _ => by
    have a := radd_v (sS k p 1) (tS k p 1)
    rw [show addV (sS k p 1) (tS k p 1) = sS k p 2 from rfl, sS_1 hk h] at a
    exact ⟨dterm8_n hk h (n := 0) (by decide), dterm8_n hk h (n := 1) (by decide), a, trivial⟩
  | j + 2, hj => (allP_append _ _).2 ⟨owP_ok hk h (j + 1) (by omega), dterm8_n hk h (n := j + 2) (by omega), radd_v _ _, trivial⟩
theorem dpoint8_v {k : Nat} (hk : k ≤ 3) {p : Int} (h : -17179869184 ≤ p ∧ p ≤ 17179869184) : PureX Tryz.prog 44 #[ii (Int.ofNat k), ii p] (rt (ivv (eS k p))) := by
  have ti := (tS_ok hk h.1 h.2 14 (by decide)).1
  have to := okV_iff.1 ti.1
  obtain ⟨r0, r1, _⟩ := rS_ok hk h.1 h.2
  have er : dR (tS k p 14) = rS k p := by
    have e : mxI (mxI (mxI (tS k p 14).2.1 (-(tS k p 14).2.1)) (tS k p 14).1) (-(tS k p 14).1) = mxI (tS k p 14).2.1 (-(tS k p 14).1) := by
      unfold mxI
      repeat' split
      all_goals omega
    unfold dR
    rw [wrapI (z := 0 - (tS k p 14).2.1) (by omega), wrapI (z := 0 - (tS k p 14).1) (by omega), Int.zero_sub, Int.zero_sub, e]
    show IntKind.i64.wrap (rS k p) = rS k p
    rw [wrapI (by omega)]
  have hm := rmake_v (-rS k p) (rS k p)
  have f := dpo8_raw (Int.ofNat k) p (mkV (mnI (-rS k p) (rS k p)) (mxI (-rS k p) (rS k p))) (eS k p) (tS k p) (sS k p)
  rw [er, wrapI (z := 0 - rS k p) (by omega), Int.zero_sub] at f
  exact runB_pure mix f ((allP_append _ _).2 ⟨owP_ok hk h 13 (by decide), dterm8_n hk h (n := 14) (by decide), hm, radd_v _ _, trivial⟩) rfl rfl
section
variable (k m r : Int) (o : Bool) (x b e q w : IV)
theorem dc_1 : runB Tryz.prog 14 #[ii k, ivv x] [] [t, n, n, n, n, n, n, n, n, n, n] [(43, rt (tp [ii m, ii r, bb o])), (39, rt (ivv b))] [] = some (rt (ivv b), [], [PureX Tryz.prog 43 #[ivv x] (rt (tp [ii m, ii r, bb o])), decide (k < 0) = true, PureX Tryz.prog 39 #[] (rt (ivv b))]) := by kernel_rfl
theorem dc_2 : runB Tryz.prog 14 #[ii k, ivv x] [] [f, n, t, n, n, n, n, n, n, n, n] [(43, rt (tp [ii m, ii r, bb o])), (39, rt (ivv b))] [] = some (rt (ivv b), [], [PureX Tryz.prog 43 #[ivv x] (rt (tp [ii m, ii r, bb o])), decide (k < 0) = false, decide (3 < k) = true, PureX Tryz.prog 39 #[] (rt (ivv b))]) := by kernel_rfl
theorem dc_3 : runB Tryz.prog 14 #[ii k, ivv x] [] [f, n, f, n, n, n, n, n, n, n, n] [(43, rt (tp [ii m, ii r, bb false])), (39, rt (ivv b))] [] = some (rt (ivv b), [], [PureX Tryz.prog 43 #[ivv x] (rt (tp [ii m, ii r, bb false])), decide (k < 0) = false, decide (3 < k) = false, PureX Tryz.prog 39 #[] (rt (ivv b))]) := by kernel_rfl
theorem dc_4 : runB Tryz.prog 14 #[ii k, ivv x] [] [f, n, f, n, n, n, n, t, n, n, n] [(43, rt (tp [ii m, ii r, bb true])), (39, rt (ivv b))] [] = some (rt (ivv b), [], [PureX Tryz.prog 43 #[ivv x] (rt (tp [ii m, ii r, bb true])), decide (k < 0) = false, decide (3 < k) = false, decide (x.1 < Int.neg 17179869184) = true, PureX Tryz.prog 39 #[] (rt (ivv b))]) := by kernel_rfl
theorem dc_5 : runB Tryz.prog 14 #[ii k, ivv x] [] [f, n, f, n, n, n, n, f, n, n, t] [(43, rt (tp [ii m, ii r, bb true])), (39, rt (ivv b))] [] = some (rt (ivv b), [], [PureX Tryz.prog 43 #[ivv x] (rt (tp [ii m, ii r, bb true])), decide (k < 0) = false, decide (3 < k) = false, decide (x.1 < Int.neg 17179869184) = false, decide (17179869184 < x.2.1) = true, PureX Tryz.prog 39 #[] (rt (ivv b))]) := by kernel_rfl
theorem dc_6 : runB Tryz.prog 14 #[ii k, ivv x] [] [f, n, f, n, n, n, n, f, n, n, f] [(43, rt (tp [ii m, ii r, bb true])), (44, rt (ivv e)), (21, rt (ivv q)), (23, rt (ivv w))] [] = some (rt (ivv w), [], [PureX Tryz.prog 43 #[ivv x] (rt (tp [ii m, ii r, bb true])), decide (k < 0) = false, decide (3 < k) = false, decide (x.1 < Int.neg 17179869184) = false, decide (17179869184 < x.2.1) = false, PureX Tryz.prog 44 #[ii k, ii m] (rt (ivv e)), PureX Tryz.prog 21 #[ii (IntKind.i64.wrap (Int.neg 4 * r)), ii (IntKind.i64.wrap (4 * r))] (rt (ivv q)), PureX Tryz.prog 23 #[ivv e, ivv q] (rt (ivv w))]) := by kernel_rfl
end
theorem dc_v (k : Int) (a : IV) : PureX Tryz.prog 14 #[ii k, ivv a] (rt (ivv (cI k a))) := by
  have hm := dmid_v a
  unfold cI
  by_cases h0 : k < 0
  · rw [if_neg (by omega)]
    obtain ⟨m, r, o, e⟩ := midT_any a
    rw [e] at hm
    exact runB_pure mix (dc_1 k m r o a bdV) ⟨hm, decide_eq_true h0, dbad8_c, trivial⟩ rfl rfl
  · by_cases h3 : 3 < k
    · rw [if_neg (by omega)]
      obtain ⟨m, r, o, e⟩ := midT_any a
      rw [e] at hm
      exact runB_pure mix (dc_2 k m r o a bdV) ⟨hm, decide_eq_false h0, decide_eq_true h3, dbad8_c, trivial⟩ rfl rfl
    · rw [if_pos (by omega)]
      have en : Int.neg 17179869184 = -17179869184 := rfl
      cases ho : okV a
      · rw [cS_no (fun hh => by have := (nuV_iff.1 hh).1; rw [ho] at this; cases this)]
        unfold midT at hm
        rw [if_neg (by rw [ho]; decide)] at hm
        exact runB_pure mix (dc_3 k 0 0 a bdV) ⟨hm, decide_eq_false h0, decide_eq_false h3, dbad8_c, trivial⟩ rfl rfl
      · unfold midT at hm
        rw [if_pos ho] at hm
        by_cases h4 : a.1 < -17179869184
        · rw [cS_no (fun hh => by have := (nuV_iff.1 hh).2.1; omega)]
          exact runB_pure mix (dc_4 k _ _ a bdV) ⟨hm, decide_eq_false h0, decide_eq_false h3, decide_eq_true (by rw [en]; exact h4), dbad8_c, trivial⟩ rfl rfl
        · by_cases h5 : 17179869184 < a.2.1
          · rw [cS_no (fun hh => by have := (nuV_iff.1 hh).2.2; omega)]
            exact runB_pure mix (dc_5 k _ _ a bdV) ⟨hm, decide_eq_false h0, decide_eq_false h3, decide_eq_false (by rw [en]; exact h4), decide_eq_true h5, dbad8_c, trivial⟩ rfl rfl
          · have ha : holdsV nuV a = true := nuV_iff.2 ⟨ho, by omega, by omega⟩
            obtain ⟨j, rfl⟩ := Int.eq_ofNat_of_zero_le (show 0 ≤ k by omega)
            have hk : j ≤ 3 := by omega
            rw [Int.toNat_natCast]
            have ao := okV_iff.1 ho
            obtain ⟨m1, m2, m3, m4, m5, m6⟩ := midV_in ho
            have e1 : IntKind.i64.wrap (Int.neg 4 * rchV a) = -(4 * rchV a) := by
              rw [show Int.neg 4 = -4 from rfl, wrapI (by omega)]; omega
            have e2 : IntKind.i64.wrap (4 * rchV a) = 4 * rchV a := by rw [wrapI (by omega)]
            have hq := rmake_v (-(4 * rchV a)) (4 * rchV a)
            have hw := radd_v (eS j (midV a)) (mkV (mnI (-(4 * rchV a)) (4 * rchV a)) (mxI (-(4 * rchV a)) (4 * rchV a)))
            rw [show cS j a = widV (eS j (midV a)) (4 * rchV a) from if_pos ha]
            have f := dc_6 (Int.ofNat j) (midV a) (rchV a) a (eS j (midV a)) (mkV (mnI (-(4 * rchV a)) (4 * rchV a)) (mxI (-(4 * rchV a)) (4 * rchV a))) (widV (eS j (midV a)) (4 * rchV a))
            rw [e1, e2] at f
            exact runB_pure mix f ⟨hm, decide_eq_false h0, decide_eq_false h3, decide_eq_false (by rw [en]; exact h4), decide_eq_false h5, dpoint8_v hk (by omega), hq, hw, trivial⟩ rfl rfl
theorem dall_raw (x q w y z : IV) : runB Tryz.prog 16 #[ivv x] [] [] [(14, rt (ivv q)), (14, rt (ivv w)), (14, rt (ivv y)), (14, rt (ivv z))] [] = some (rt (a4 q w y z), [], [PureX Tryz.prog 14 #[ii 0, ivv x] (rt (ivv q)), PureX Tryz.prog 14 #[ii 1, ivv x] (rt (ivv w)), PureX Tryz.prog 14 #[ii 2, ivv x] (rt (ivv y)), PureX Tryz.prog 14 #[ii 3, ivv x] (rt (ivv z))]) := by kernel_rfl
theorem dall_v (a : IV) : PureX Tryz.prog 16 #[ivv a] (rt (a4 (cS 0 a) (cS 1 a) (cS 2 a) (cS 3 a))) :=
  runB_pure mix (dall_raw a _ _ _ _) ⟨dc_v 0 a, dc_v 1 a, dc_v 2 a, dc_v 3 a, trivial⟩ rfl rfl
end Go.Proofs.YtbmekaaekngpbaaGreat
