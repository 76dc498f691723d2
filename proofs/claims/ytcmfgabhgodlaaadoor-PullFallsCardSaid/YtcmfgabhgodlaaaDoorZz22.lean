/- Texts of the seat, joined. -/
import Derived.Test.YtcmfgabhgodlaaaDoorZz18
import Derived.Test.YtcmfgabhgodlaaaDoorZz19
import Derived.Test.YtcmfgabhgodlaaaDoorZz21
/- PullTurns, PullBeyond: whole walks. -/
namespace Go.Proofs.YtcmfgabhgodlaaaDoor
open Go Go.RowKit
set_option linter.unusedSimpArgs false
set_option linter.unusedVariables false
set_option maxRecDepth 100000

theorem wneg {x : Int} (h : x.natAbs ≤ 9223372036854775807) : wi (0 - x) = -x := by
  rw [Int.zero_sub]
  exact wi_of (isI_abs (by rw [Int.natAbs_neg]; exact h))
theorem may_t {n d g m x y z : Int} (h : okP n d g m x y z) : PureX Tryd.prog 7 #[ii n, ii d, ii g, ii m, vc x y z] (rt (bb true)) := by
  have := may_v n d g m x y z
  rw [decide_eq_true h] at this
  exact this
theorem may_f {n d g m x y z : Int} (h : ¬ okP n d g m x y z) : PureX Tryd.prog 7 #[ii n, ii d, ii g, ii m, vc x y z] (rt (bb false)) := by
  have := may_v n d g m x y z
  rw [decide_eq_false h] at this
  exact this

theorem turns_walk (n d g m x y z : Int) : PureX Tryd.prog 4 #[ii n, ii d, ii g, ii m, vc x y z] (rt (bb true)) := by
  by_cases h : okP n d g m x y z
  case neg => exact runF_pure mix (trn_no n d g m x y z) ⟨may_f h, wakes_c, trivial⟩ rfl rfl
  have hm := may_t h
  have P0 := pull_ok h
  have k1 : okP n d g m (-x) (-y) (-z) := by unfold okP okV at *; omega
  have k2 : okP (-n) d g m x y z := by unfold okP okV at *; omega
  have k3 : okP n d g m y z x := by unfold okP okV at *; omega
  have k4 : okP n d g m y x (-z) := by unfold okP okV at *; omega
  have P1 := pull_ok k1
  have P2 := pull_ok k2
  have P3 := pull_ok k3
  have P4 := pull_ok k4
  obtain ⟨s0, q1, q2, q3, ka, kb, kc, _⟩ := okP_facts h
  have b1 := plK_le ka s0 q1
  have b2 := plK_le kb s0 q2
  have b3 := plK_le kc s0 q3
  rw [sqI_neg, plK_negx, plK_negx, plK_negx] at P1
  rw [plK_negn, plK_negn, plK_negn] at P2
  rw [sqI_rot] at P3
  rw [sqI_swp, plK_negx] at P4
  generalize plK n d g m x (sqI x y z) = u1 at *
  generalize plK n d g m y (sqI x y z) = u2 at *
  generalize plK n d g m z (sqI x y z) = u3 at *
  have w1 : wi (0 - u1) = -u1 := wneg (Nat.le_trans b1 (by decide))
  have w2 : wi (0 - u2) = -u2 := wneg (Nat.le_trans b2 (by decide))
  have w3 : wi (0 - u3) = -u3 := wneg (Nat.le_trans b3 (by decide))
  have ex : wi (0 - x) = -x := wneg (by unfold okP okV at h; omega)
  have ey : wi (0 - y) = -y := wneg (by unfold okP okV at h; omega)
  have ez : wi (0 - z) = -z := wneg (by unfold okP okV at h; omega)
  have en : wi (0 - n) = -n := wneg (by unfold okP okV at h; omega)
  exact runF_pure mix (trn_ok n d g m x y z u1 u2 u3 (-u1) (-u2) (-u3) (-u1) (-u2) (-u3) u2 u3 u1 u2 u1 (-u3))
    ⟨hm, P0, by rw [ex, ey, ez]; exact P1, by rw [en]; exact P2, P3, by rw [ez]; exact P4, by rw [w1, w2, w3]; simp, by simp, by simp, by rw [w3]; simp, wakes_c, trivial⟩ rfl rfl

/-- Who is too far is not pulled. -/
theorem by_zero {n d g m x s : Int} (h : okA n d g m x s) (hs : 0 < s) (hx : x * x ≤ s) (hb : bySq n d g m s = true) : plK n d g m x s = 0 := by
  rw [plK_zero, plH_zero h hs hx]
  have f7 := (pl_facts h hs hx).2.2.2.2.2.2
  have f8 := plA_cast n g m x
  unfold bySq at hb
  have hb := of_decide_eq_true hb
  have h1 : dbl2 n g m * (x * x) ≤ dbl2 n g m * s := Int.mul_le_mul_of_nonneg_left hx (dbl2_nonneg n g m)
  have h2 : dbl2 n g m * s < d * d * s * s * s := Int.mul_lt_mul_of_pos_right hb hs
  rw [← f8] at h1
  rw [f7] at h2
  exact Int.ofNat_lt.1 (Int.lt_of_le_of_lt h1 h2)
/-- Along one coordinate alone: just he. -/
theorem by_iff {n d g m f : Int} (h : okA n d g m f (f * f)) (hf : 0 < f * f) : bySq n d g m (f * f) = decide (plK n d g m f (f * f) = 0) := by
  have e : plK n d g m f (f * f) = 0 ↔ plA n g m f < plB d (f * f) := plK_zero.trans (plH_zero h hf (Int.le_refl _))
  have f7 := (pl_facts h hf (Int.le_refl _)).2.2.2.2.2.2
  have f8 := plA_cast n g m f
  have k : plA n g m f < plB d (f * f) ↔ dbl2 n g m < d * d * (f * f) * (f * f) := by
    rw [← Int.ofNat_lt, f8, ← f7]
    constructor
    · intro h
      exact Int.lt_of_mul_lt_mul_right h (Int.le_of_lt hf)
    · intro h
      exact Int.mul_lt_mul_of_pos_right h hf
  unfold bySq
  rw [decide_eq_decide, e, k]
  exact Iff.rfl
theorem beyond_ok {n d g m s : Int} (h : okA n d g m 0 s) (hs : 0 < s) : PureX Tryd.prog 14 #[ii n, ii d, ii g, ii m, ii s] (rt (bb (bySq n d g m s))) := by
  have k := beyond_v n d g m s
  rw [alE_ok h hs (by omega), decide_eq_true rfl, Bool.true_and] at k
  exact k
theorem beyond_walk (n d g m x y z f : Int) : PureX Tryd.prog 6 #[ii n, ii d, ii g, ii m, vc x y z, ii f] (rt (bb true)) := by
  by_cases h : okP n d g m x y z
  case neg => exact runF_pure mix (bex_no n d g m x y z f) ⟨may_f h, wakes_c, trivial⟩ rfl rfl
  by_cases f0 : f < 1
  · exact runF_pure mix (bex_f0 n d g m x y z f) ⟨may_t h, decide_eq_true f0, wakes_c, trivial⟩ rfl rfl
  by_cases f1 : 2097152 < f
  · exact runF_pure mix (bex_f1 n d g m x y z f) ⟨may_t h, decide_eq_false f0, decide_eq_true f1, wakes_c, trivial⟩ rfl rfl
  have hm := may_t h
  have t0 := decide_eq_false f0
  have t1 := decide_eq_false f1
  obtain ⟨s0, q1, q2, q3, ka, kb, kc, sm⟩ := okP_facts h
  have sq := square_v x y z
  rw [if_pos h.2.2.2.2.1, if_pos h.2.2.2.2.1] at sq
  have P0 := pull_ok h
  have k0 : okA n d g m 0 (sqI x y z) := ⟨ka.1, ka.2.1, ka.2.2.1, ka.2.2.2.1, by decide, ka.2.2.2.2.2⟩
  have B0 := beyond_ok k0 s0
  have z1 := by_zero ka s0 q1
  have z2 := by_zero kb s0 q2
  have z3 := by_zero kc s0 q3
  have k1 : okP n d g m 0 f 0 := by unfold okP okV at *; omega
  obtain ⟨s1, _, p2, _, la, lb, lc, _⟩ := okP_facts k1
  have P1 := pull_ok k1
  have e : sqI 0 f 0 = f * f := by unfold sqI; omega
  rw [e] at P1 s1 la lb lc
  rw [plK_nil (plH_nil (plA_x0 n g m))] at P1
  have l0 : okA n d g m 0 (f * f) := la
  have B1 := beyond_ok l0 s1
  rw [by_iff lb s1] at B1
  have wf : wi (f * f) = f * f := wi_of (by unfold okA at la; unfold isI; omega)
  generalize plK n d g m f (f * f) = v at *
  generalize plK n d g m x (sqI x y z) = u1 at *
  generalize plK n d g m y (sqI x y z) = u2 at *
  generalize plK n d g m z (sqI x y z) = u3 at *
  generalize sqI x y z = s at *
  cases hb : bySq n d g m s with
  | true =>
    rw [hb] at B0
    have y1 := z1 hb
    have y2 := z2 hb
    have y3 := z3 hb
    by_cases hv : v = 0
    · rw [decide_eq_true hv] at B1
      exact runF_pure mix (bex_tt n d g m x y z f s 0 u1 u2 u3 0 v 0) ⟨hm, t0, t1, sq, P0, B0, by rw [y1, y2, y3]; rfl, P1, rfl, rfl, by rw [wf]; exact B1, by simp [hv], wakes_c, trivial⟩ rfl rfl
    · rw [decide_eq_false hv] at B1
      exact runF_pure mix (bex_tf n d g m x y z f s 0 u1 u2 u3 0 v 0) ⟨hm, t0, t1, sq, P0, B0, by rw [y1, y2, y3]; rfl, P1, rfl, rfl, by rw [wf]; exact B1, by simp [hv], wakes_c, trivial⟩ rfl rfl
  | false =>
    rw [hb] at B0
    by_cases hv : v = 0
    · rw [decide_eq_true hv] at B1
      exact runF_pure mix (bex_ft n d g m x y z f s 0 u1 u2 u3 0 v 0) ⟨hm, t0, t1, sq, P0, B0, P1, rfl, rfl, by rw [wf]; exact B1, by simp [hv], wakes_c, trivial⟩ rfl rfl
    · rw [decide_eq_false hv] at B1
      exact runF_pure mix (bex_ff n d g m x y z f s 0 u1 u2 u3 0 v 0) ⟨hm, t0, t1, sq, P0, B0, P1, rfl, rfl, by rw [wf]; exact B1, by simp [hv], wakes_c, trivial⟩ rfl rfl

end Go.Proofs.YtcmfgabhgodlaaaDoor
