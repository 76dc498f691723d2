/- Texts of the seat, joined. -/
import Derived.Test.YtcmfgabhgodlaaaDoorZz20
import Derived.Test.YtcmfgabhgodlaaaDoorZz22
/- PullFalls: the whole walk. -/
namespace Go.Proofs.YtcmfgabhgodlaaaDoor
open Go Go.RowKit
set_option linter.unusedSimpArgs false
set_option linter.unusedVariables false
set_option maxRecDepth 100000

theorem dbl2_2n (n g m : Int) : dbl2 (2 * n) g m = 4 * dbl2 n g m := by unfold dbl2; grind
theorem dbl2_2g (n g m : Int) : dbl2 n (2 * g) m = 4 * dbl2 n g m := by unfold dbl2; grind
theorem dbl2_2m (n g m : Int) : dbl2 n g (2 * m) = 4 * dbl2 n g m := by unfold dbl2; grind
theorem plA_2n (n g m x : Int) : plA (2 * n) g m x = 4 * plA n g m x := by rw [plA_eq, plA_eq, dbl2_2n, Int.mul_assoc, Int.natAbs_mul]; rfl
theorem plA_2g (n g m x : Int) : plA n (2 * g) m x = 4 * plA n g m x := by rw [plA_eq, plA_eq, dbl2_2g, Int.mul_assoc, Int.natAbs_mul]; rfl
theorem plA_2m (n g m x : Int) : plA n g (2 * m) x = 4 * plA n g m x := by rw [plA_eq, plA_eq, dbl2_2m, Int.mul_assoc, Int.natAbs_mul]; rfl
theorem plA_2x (n g m x : Int) : plA n g m (2 * x) = 4 * plA n g m x := by
  rw [plA_eq, plA_eq, show 2 * x * (2 * x) = 4 * (x * x) by grind, show dbl2 n g m * (4 * (x * x)) = 4 * (dbl2 n g m * (x * x)) by grind, Int.natAbs_mul]; rfl
theorem plB_2d (d s : Int) : plB (2 * d) s = 4 * plB d s := by
  unfold plB
  rw [show 2 * d * (2 * d) * s * s * s = 4 * (d * d * s * s * s) by grind, Int.natAbs_mul]; rfl
theorem plB_4s (d s : Int) : plB d (4 * s) = 64 * plB d s := by
  unfold plB
  rw [show d * d * (4 * s) * (4 * s) * (4 * s) = 64 * (d * d * s * s * s) by grind, Int.natAbs_mul]; rfl
theorem sgn2 (n : Int) : decide (2 * n < 0) = decide (n < 0) := by rw [decide_eq_decide]; omega
theorem plK_gm (n d g m x s : Int) : plK n d (2 * g) m x s = plK n d g (2 * m) x s := by
  unfold plK plH
  rw [plA_2g, plA_2m]
theorem plK_nm (n d g m x s : Int) : plK (2 * n) d g m x s = plK n d g (2 * m) x s := by
  unfold plK plH
  rw [plA_2n, plA_2m, sgn2]
theorem plK_nd (n d g m x s : Int) : plK (2 * n) (2 * d) g m x s = plK n d g m x s := by
  unfold plK plH
  rw [plA_2n, plB_2d, sgn2, Nat.mul_div_mul_left _ _ (by decide)]
theorem plH_2x {n d g m x s : Int} (h : okA n d g m x s) (hs : 0 < s) (hx : x * x ≤ s) : plH n d g m (2 * x) (4 * s) ≤ plH n d g m x s := by
  have hq := plA_lt h hs hx
  unfold plH
  rw [plA_2x, plB_4s]
  have e : 4 * plA n g m x / (64 * plB d s) ≤ plA n g m x / plB d s := by
    rw [show 64 * plB d s = 4 * (plB d s * 16) by omega, Nat.mul_div_mul_left _ _ (by decide), ← Nat.div_div_eq_div_mul]
    exact Nat.div_le_self _ _
  have := isq_mono e hq
  omega
theorem plH_2m {n d g m x s : Int} (h : okA n d g (2 * m) x s) (hs : 0 < s) (hx : x * x ≤ s) : plH n d g m x s ≤ plH n d g (2 * m) x s := by
  have hq := plA_lt h hs hx
  unfold plH
  have e : plA n g m x / plB d s ≤ plA n g (2 * m) x / plB d s := Nat.div_le_div_right (by rw [plA_2m]; omega)
  have := isq_mono e hq
  omega
theorem mxI_le (a b c : Int) : c < mxI a b ↔ (c < a ∨ c < b) := by unfold mxI; split <;> omega
theorem mnI_lt (a b c : Int) : mnI a b < c ↔ (a < c ∨ b < c) := by unfold mnI; split <;> omega
theorem mxI_abs {u : Int} (h : u.natAbs ≤ 9223372036854775807) : mxI u (wi (0 - u)) = (u.natAbs : Int) := by
  rw [wneg h]
  unfold mxI
  split <;> omega
theorem mx_test {u v : Int} (hu : u.natAbs ≤ 2251799813685248) (hv : v.natAbs ≤ 2251799813685248) (h : v.natAbs ≤ u.natAbs) : decide (mxI u (wi (0 - u)) < mxI v (wi (0 - v))) = false := by
  rw [mxI_abs (Nat.le_trans hu (by decide)), mxI_abs (Nat.le_trans hv (by decide))]
  exact decide_eq_false (by omega)
theorem w2 {x : Int} (h : x.natAbs ≤ 4194304) : wi (2 * x) = 2 * x := wi_of (by unfold isI; omega)

theorem falls_walk (n d g m x y z : Int) : PureX Tryd.prog 5 #[ii n, ii d, ii g, ii m, vc x y z] (rt (bb true)) := by
  by_cases h : okP n d g m x y z
  case neg => exact runF_pure mix (fal_no n d g m x y z) ⟨may_f h, wakes_c, trivial⟩ rfl rfl
  have hm := may_t h
  have en : wi (0 - n) = -n := wneg (by unfold okP okV at h; omega)
  by_cases c1 : 524288 < mxI (mxI (mxI (mxI g m) n) (wi (0 - n))) d
  · exact runF_pure mix (fal_b1 n d g m x y z) ⟨hm, decide_eq_true c1, wakes_c, trivial⟩ rfl rfl
  by_cases c2 : 512 < m
  · exact runF_pure mix (fal_b2 n d g m x y z) ⟨hm, decide_eq_false c1, decide_eq_true c2, wakes_c, trivial⟩ rfl rfl
  by_cases c3 : 1048576 < mxI (mxI x y) z
  · exact runF_pure mix (fal_b3 n d g m x y z) ⟨hm, decide_eq_false c1, decide_eq_false c2, decide_eq_true c3, wakes_c, trivial⟩ rfl rfl
  by_cases c4 : mnI (mnI x y) z < -1048576
  · exact runF_pure mix (fal_b4 n d g m x y z) ⟨hm, decide_eq_false c1, decide_eq_false c2, decide_eq_false c3, (show decide (mnI (mnI x y) z < -1048576) = true from decide_eq_true c4), wakes_c, trivial⟩ rfl rfl
  have t1 := decide_eq_false c1
  have t2 := decide_eq_false c2
  have t3 := decide_eq_false c3
  have t4 : decide (mnI (mnI x y) z < -1048576) = false := decide_eq_false c4
  rw [mxI_le, mxI_le, mxI_le, mxI_le, en] at c1
  rw [mxI_le, mxI_le] at c3
  rw [mnI_lt, mnI_lt] at c4
  have P0 := pull_ok h
  have k1 : okP n d g m (2 * x) (2 * y) (2 * z) := by unfold okP okV at *; omega
  have k2 : okP n d g (2 * m) x y z := by unfold okP okV at *; omega
  have k3 : okP n d (2 * g) m x y z := by unfold okP okV at *; omega
  have k4 : okP (2 * n) (2 * d) g m x y z := by unfold okP okV at *; omega
  have k5 : okP (2 * n) d g m x y z := by unfold okP okV at *; omega
  have P1 := pull_ok k1
  have P2 := pull_ok k2
  have P3 := pull_ok k3
  have P4 := pull_ok k4
  have P5 := pull_ok k5
  have e1 : wi (2 * x) = 2 * x := w2 (by unfold okP okV at h; omega)
  have e2 : wi (2 * y) = 2 * y := w2 (by unfold okP okV at h; omega)
  have e3 : wi (2 * z) = 2 * z := w2 (by unfold okP okV at h; omega)
  have e4 : wi (2 * m) = 2 * m := w2 (by unfold okP okV at h; omega)
  have e5 : wi (2 * g) = 2 * g := w2 (by unfold okP okV at h; omega)
  have e6 : wi (2 * n) = 2 * n := w2 (by unfold okP okV at h; omega)
  have e7 : wi (2 * d) = 2 * d := w2 (by unfold okP okV at h; omega)
  obtain ⟨s0, q1, q2, q3, ka, kb, kc, _⟩ := okP_facts h
  obtain ⟨_, r1, r2, r3, la, lb, lc, _⟩ := okP_facts k1
  obtain ⟨_, _, _, _, ma, mb', mc, _⟩ := okP_facts k2
  have s1 : 0 < sqI (2 * x) (2 * y) (2 * z) := by rw [sqI_dbl]; omega
  have b1 := plK_le ka s0 q1
  have b2 := plK_le kb s0 q2
  have b3 := plK_le kc s0 q3
  have d1 := plK_le la s1 r1
  have d2 := plK_le lb s1 r2
  have d3 := plK_le lc s1 r3
  have g1 := plK_le ma s0 q1
  have g2 := plK_le mb' s0 q2
  have g3 := plK_le mc s0 q3
  rw [sqI_dbl] at P1 d1 d2 d3
  rw [plK_gm, plK_gm, plK_gm] at P3
  rw [plK_nd, plK_nd, plK_nd] at P4
  rw [plK_nm, plK_nm, plK_nm] at P5
  have v1 := plH_2x ka s0 q1
  have v2 := plH_2x kb s0 q2
  have v3 := plH_2x kc s0 q3
  have x1 := plH_2m ma s0 q1
  have x2 := plH_2m mb' s0 q2
  have x3 := plH_2m mc s0 q3
  rw [← plK_natAbs, ← plK_natAbs] at v1 v2 v3 x1 x2 x3
  generalize plK n d g m (2 * x) (4 * sqI x y z) = a1 at *
  generalize plK n d g m (2 * y) (4 * sqI x y z) = a2 at *
  generalize plK n d g m (2 * z) (4 * sqI x y z) = a3 at *
  generalize plK n d g (2 * m) x (sqI x y z) = o1 at *
  generalize plK n d g (2 * m) y (sqI x y z) = o2 at *
  generalize plK n d g (2 * m) z (sqI x y z) = o3 at *
  generalize plK n d g m x (sqI x y z) = u1 at *
  generalize plK n d g m y (sqI x y z) = u2 at *
  generalize plK n d g m z (sqI x y z) = u3 at *
  exact runF_pure mix (fal_ok n d g m x y z u1 u2 u3 a1 a2 a3 o1 o2 o3 o1 o2 o3 u1 u2 u3 o1 o2 o3)
    ⟨hm, t1, t2, t3, t4, P0, by rw [e1, e2, e3]; exact P1, by rw [e4]; exact P2, by rw [e5]; exact P3, by rw [e6, e7]; exact P4, by rw [e6]; exact P5, by simp, by simp, by simp,
      mx_test b1 d1 v1, mx_test g1 b1 x1, mx_test b2 d2 v2, mx_test g2 b2 x2, mx_test b3 d3 v3, mx_test g3 b3 x3, wakes_c, trivial⟩ rfl rfl

end Go.Proofs.YtcmfgabhgodlaaaDoor
