/- Texts of the seat, joined. -/
import Derived.Test.YtcmfgabhgodlaaaDoorZz24
import Derived.Test.YtcmfgabhgodlaaaDoorZz25
import Derived.Test.YtcmfgabhgodlaaaDoorZz26
import Derived.Test.YtcmfgabhgodlaaaDoorZz27
import Derived.Test.YtcmfgabhgodlaaaDoorZz28
import Derived.Test.YtcmfgabhgodlaaaDoorZz23
/- PullNearest: the whole walk. -/
namespace Go.Proofs.YtcmfgabhgodlaaaDoor
open Go Go.RowKit
set_option linter.unusedSimpArgs false
set_option linter.unusedVariables false
set_option maxRecDepth 100000
set_option maxHeartbeats 2000000

theorem sq_wi {x y z : Int} (h : okV x y z) : wi (wi (wi (x * x) + wi (y * y)) + wi (z * z)) = sqI x y z := by
  obtain ⟨h1, h2, h3, h4, h5, h6⟩ := sq_facts h
  rw [wi_of (x := x * x) (by unfold isI; omega), wi_of (x := y * y) (by unfold isI; omega), wi_of (x := z * z) (by unfold isI; omega), wi_of (x := x * x + y * y) (by unfold isI; omega)]
  exact wi_of (by unfold isI; omega)
theorem near_0 {n d g m x y z j : Int} (h : okP n d g m x y z) (hj : Int.tmod j 3 = -2) : PureX Tryd.prog 3 #[ii n, ii d, ii g, ii m, vc x y z, ii j] (rt (bb true)) := by
  have hm := may_t h
  have P0 := pull_ok h
  have sq := square_v x y z
  rw [if_pos h.2.2.2.2.1, if_pos h.2.2.2.2.1] at sq
  have es := sq_wi h.2.2.2.2.1
  obtain ⟨s0, q1, q2, q3, ka, kb, kc, _⟩ := okP_facts h
  have N := nf kb s0 q2
  have ub := plK_le kb s0 q2
  have ab := plK_natAbs n d g m y (sqI x y z)
  have sg := plK_sign (n := n) (d := d) (g := g) (m := m) (x := y) (s := sqI x y z)
  have hmod : (3 : Int) ≠ 0 ∧ Int.tmod j 3 = (-2) := ⟨by decide, hj⟩
  generalize plK n d g m x (sqI x y z) = u1 at *
  generalize plK n d g m y (sqI x y z) = u2 at *
  generalize plK n d g m z (sqI x y z) = u3 at *
  generalize plH n d g m y (sqI x y z) = H at *
  generalize plA n g m y = A at *
  generalize plB d (sqI x y z) = B at *
  generalize sqI x y z = s at *
  have ts : (s != wi (wi (wi (x * x) + wi (y * y)) + wi (z * z))) = false := by rw [es]; simp
  have t1 : decide (1152921504606846976 < u2) = false := decide_eq_false (by omega)
  have t2 : decide (u2 < -1152921504606846976) = false := decide_eq_false (by omega)
  have emx : mxI u2 (wi (0 - u2)) = (H : Int) := by rw [mxI_abs (Nat.le_trans ub (by decide)), ab]
  have hb : H ≤ 2251799813685248 := by rw [← ab]; exact ub
  have ew : wi (2 * (H : Int)) = 2 * (H : Int) := wi_of (by unfold isI; omega)
  have el : wi (wi (2 * mxI u2 (wi (0 - u2))) - 1) = 2 * (H : Int) - 1 := by rw [emx, ew]; exact wi_of (by unfold isI; omega)
  have eh : wi (wi (2 * mxI u2 (wi (0 - u2))) + 1) = 2 * (H : Int) + 1 := by rw [emx, ew]; exact wi_of (by unfold isI; omega)
  have ol : PureX Tryd.prog 11 #[ii (wi (wi (2 * mxI u2 (wi (0 - u2))) - 1))] (rt (wz (2 * (H : Int) - 1))) := by rw [el]; exact N.ol
  have oh : PureX Tryd.prog 11 #[ii (wi (wi (2 * mxI u2 (wi (0 - u2))) + 1))] (rt (wz (2 * (H : Int) + 1))) := by rw [eh]; exact N.oh
  by_cases h0 : u2 = 0
  · have H0 : H = 0 := by rw [← ab, h0]; rfl
    have tm : decide (0 < mxI u2 (wi (0 - u2))) = false := by rw [emx, H0]; rfl
    have tu : (u2 != 0) = false := by simp [h0]
    by_cases hn : n = 0
    · have tn : (n == 0) = true := by simp [hn]
      exact runF_pure mix (nea_n0 n d g m x y z j s u1 u2 u3 (((2 * (H : Int) - 1) * (2 * (H : Int) - 1) * (B : Int) - (A : Int)).sign) (((A : Int) - (2 * (H : Int) + 1) * (2 * (H : Int) + 1) * (B : Int)).sign) (nz 1) (nz 4) (nz n) (nz n) (nz g) (nz g) (nz m) (nz m) (nz y) (nz y) (nz 4) (nz (4 * n)) (nz (4 * n * n)) (nz (4 * n * n * g)) (nz (4 * n * n * g * g)) (nz (4 * n * n * g * g * m)) (nz (4 * n * n * g * g * m * m)) (nz (4 * n * n * g * g * m * m * y)) (nz (A : Int)) (nz 1) (nz d) (nz d) (nz s) (nz s) (nz s) (nz d) (nz (d * d)) (nz (d * d * s)) (nz (d * d * s * s)) (nz (B : Int)) (nz 1) (nz (2 * (H : Int) - 1)) (nz (2 * (H : Int) - 1)) (nz (2 * (H : Int) - 1)) (nz ((2 * (H : Int) - 1) * (2 * (H : Int) - 1))) (nz ((2 * (H : Int) - 1) * (2 * (H : Int) - 1) * (B : Int))) (nz 1) (nz (2 * (H : Int) + 1)) (nz (2 * (H : Int) + 1)) (nz (2 * (H : Int) + 1)) (nz ((2 * (H : Int) + 1) * (2 * (H : Int) + 1))) (nz ((2 * (H : Int) + 1) * (2 * (H : Int) + 1) * (B : Int)))) ⟨hm, hmod, P0, sq, ts, t1, t2, tu, tn, tu, N.o4, N.on, N.on, N.og, N.og, N.om, N.om, N.ox, N.ox, N.o1, N.a1, N.a2, N.a3, N.a4, N.a5, N.a6, N.a7, N.a8, N.a9, N.od, N.od, N.os, N.os, N.os, N.o1, N.b1, N.b2, N.b3, N.b4, N.b5, ol, ol, N.o1, N.c1, N.c2, N.c3, oh, oh, N.o1, N.e1, N.e2, N.e3, tm, N.ke, N.lt, wakes_c, trivial⟩ rfl rfl
    · have tn : (n == 0) = false := by simp [hn]
      by_cases hx : y = 0
      · have tx : (y == 0) = true := by simp [hx]
        exact runF_pure mix (nea_x0 n d g m x y z j s u1 u2 u3 (((2 * (H : Int) - 1) * (2 * (H : Int) - 1) * (B : Int) - (A : Int)).sign) (((A : Int) - (2 * (H : Int) + 1) * (2 * (H : Int) + 1) * (B : Int)).sign) (nz 1) (nz 4) (nz n) (nz n) (nz g) (nz g) (nz m) (nz m) (nz y) (nz y) (nz 4) (nz (4 * n)) (nz (4 * n * n)) (nz (4 * n * n * g)) (nz (4 * n * n * g * g)) (nz (4 * n * n * g * g * m)) (nz (4 * n * n * g * g * m * m)) (nz (4 * n * n * g * g * m * m * y)) (nz (A : Int)) (nz 1) (nz d) (nz d) (nz s) (nz s) (nz s) (nz d) (nz (d * d)) (nz (d * d * s)) (nz (d * d * s * s)) (nz (B : Int)) (nz 1) (nz (2 * (H : Int) - 1)) (nz (2 * (H : Int) - 1)) (nz (2 * (H : Int) - 1)) (nz ((2 * (H : Int) - 1) * (2 * (H : Int) - 1))) (nz ((2 * (H : Int) - 1) * (2 * (H : Int) - 1) * (B : Int))) (nz 1) (nz (2 * (H : Int) + 1)) (nz (2 * (H : Int) + 1)) (nz (2 * (H : Int) + 1)) (nz ((2 * (H : Int) + 1) * (2 * (H : Int) + 1))) (nz ((2 * (H : Int) + 1) * (2 * (H : Int) + 1) * (B : Int)))) ⟨hm, hmod, P0, sq, ts, t1, t2, tu, tn, tx, tu, N.o4, N.on, N.on, N.og, N.og, N.om, N.om, N.ox, N.ox, N.o1, N.a1, N.a2, N.a3, N.a4, N.a5, N.a6, N.a7, N.a8, N.a9, N.od, N.od, N.os, N.os, N.os, N.o1, N.b1, N.b2, N.b3, N.b4, N.b5, ol, ol, N.o1, N.c1, N.c2, N.c3, oh, oh, N.o1, N.e1, N.e2, N.e3, tm, N.ke, N.lt, wakes_c, trivial⟩ rfl rfl
      · have tx : (y == 0) = false := by simp [hx]
        exact runF_pure mix (nea_z0 n d g m x y z j s u1 u2 u3 (((2 * (H : Int) - 1) * (2 * (H : Int) - 1) * (B : Int) - (A : Int)).sign) (((A : Int) - (2 * (H : Int) + 1) * (2 * (H : Int) + 1) * (B : Int)).sign) (nz 1) (nz 4) (nz n) (nz n) (nz g) (nz g) (nz m) (nz m) (nz y) (nz y) (nz 4) (nz (4 * n)) (nz (4 * n * n)) (nz (4 * n * n * g)) (nz (4 * n * n * g * g)) (nz (4 * n * n * g * g * m)) (nz (4 * n * n * g * g * m * m)) (nz (4 * n * n * g * g * m * m * y)) (nz (A : Int)) (nz 1) (nz d) (nz d) (nz s) (nz s) (nz s) (nz d) (nz (d * d)) (nz (d * d * s)) (nz (d * d * s * s)) (nz (B : Int)) (nz 1) (nz (2 * (H : Int) - 1)) (nz (2 * (H : Int) - 1)) (nz (2 * (H : Int) - 1)) (nz ((2 * (H : Int) - 1) * (2 * (H : Int) - 1))) (nz ((2 * (H : Int) - 1) * (2 * (H : Int) - 1) * (B : Int))) (nz 1) (nz (2 * (H : Int) + 1)) (nz (2 * (H : Int) + 1)) (nz (2 * (H : Int) + 1)) (nz ((2 * (H : Int) + 1) * (2 * (H : Int) + 1))) (nz ((2 * (H : Int) + 1) * (2 * (H : Int) + 1) * (B : Int)))) ⟨hm, hmod, P0, sq, ts, t1, t2, tu, tn, tx, N.o4, N.on, N.on, N.og, N.og, N.om, N.om, N.ox, N.ox, N.o1, N.a1, N.a2, N.a3, N.a4, N.a5, N.a6, N.a7, N.a8, N.a9, N.od, N.od, N.os, N.os, N.os, N.o1, N.b1, N.b2, N.b3, N.b4, N.b5, ol, ol, N.o1, N.c1, N.c2, N.c3, oh, oh, N.o1, N.e1, N.e2, N.e3, tm, N.ke, N.lt, wakes_c, trivial⟩ rfl rfl
  · have H0 : 0 < H := by omega
    have tm : decide (0 < mxI u2 (wi (0 - u2))) = true := by rw [emx]; exact decide_eq_true (by omega)
    have tu : (u2 != 0) = true := by simp [h0]
    obtain ⟨hn, hx, hs⟩ := sg h0
    have tn : (n == 0) = false := by simp [hn]
    have tx : (y == 0) = false := by simp [hx]
    have tsg : (!(decide (0 < u2) == (decide (0 < n) == decide (0 < y)))) = false := by rw [hs]; simp
    exact runF_pure mix (nea_k0 n d g m x y z j s u1 u2 u3 (((2 * (H : Int) - 1) * (2 * (H : Int) - 1) * (B : Int) - (A : Int)).sign) (((A : Int) - (2 * (H : Int) + 1) * (2 * (H : Int) + 1) * (B : Int)).sign) (nz 1) (nz 4) (nz n) (nz n) (nz g) (nz g) (nz m) (nz m) (nz y) (nz y) (nz 4) (nz (4 * n)) (nz (4 * n * n)) (nz (4 * n * n * g)) (nz (4 * n * n * g * g)) (nz (4 * n * n * g * g * m)) (nz (4 * n * n * g * g * m * m)) (nz (4 * n * n * g * g * m * m * y)) (nz (A : Int)) (nz 1) (nz d) (nz d) (nz s) (nz s) (nz s) (nz d) (nz (d * d)) (nz (d * d * s)) (nz (d * d * s * s)) (nz (B : Int)) (nz 1) (nz (2 * (H : Int) - 1)) (nz (2 * (H : Int) - 1)) (nz (2 * (H : Int) - 1)) (nz ((2 * (H : Int) - 1) * (2 * (H : Int) - 1))) (nz ((2 * (H : Int) - 1) * (2 * (H : Int) - 1) * (B : Int))) (nz 1) (nz (2 * (H : Int) + 1)) (nz (2 * (H : Int) + 1)) (nz (2 * (H : Int) + 1)) (nz ((2 * (H : Int) + 1) * (2 * (H : Int) + 1))) (nz ((2 * (H : Int) + 1) * (2 * (H : Int) + 1) * (B : Int)))) ⟨hm, hmod, P0, sq, ts, t1, t2, tu, tsg, tn, tx, N.o4, N.on, N.on, N.og, N.og, N.om, N.om, N.ox, N.ox, N.o1, N.a1, N.a2, N.a3, N.a4, N.a5, N.a6, N.a7, N.a8, N.a9, N.od, N.od, N.os, N.os, N.os, N.o1, N.b1, N.b2, N.b3, N.b4, N.b5, ol, ol, N.o1, N.c1, N.c2, N.c3, oh, oh, N.o1, N.e1, N.e2, N.e3, tm, N.kc, N.le (by omega), N.ke, N.lt, wakes_c, trivial⟩ rfl rfl
theorem near_1 {n d g m x y z j : Int} (h : okP n d g m x y z) (hj : Int.tmod j 3 = -1) : PureX Tryd.prog 3 #[ii n, ii d, ii g, ii m, vc x y z, ii j] (rt (bb true)) := by
  have hm := may_t h
  have P0 := pull_ok h
  have sq := square_v x y z
  rw [if_pos h.2.2.2.2.1, if_pos h.2.2.2.2.1] at sq
  have es := sq_wi h.2.2.2.2.1
  obtain ⟨s0, q1, q2, q3, ka, kb, kc, _⟩ := okP_facts h
  have N := nf kc s0 q3
  have ub := plK_le kc s0 q3
  have ab := plK_natAbs n d g m z (sqI x y z)
  have sg := plK_sign (n := n) (d := d) (g := g) (m := m) (x := z) (s := sqI x y z)
  have hmod : (3 : Int) ≠ 0 ∧ Int.tmod j 3 = (-1) := ⟨by decide, hj⟩
  generalize plK n d g m x (sqI x y z) = u1 at *
  generalize plK n d g m y (sqI x y z) = u2 at *
  generalize plK n d g m z (sqI x y z) = u3 at *
  generalize plH n d g m z (sqI x y z) = H at *
  generalize plA n g m z = A at *
  generalize plB d (sqI x y z) = B at *
  generalize sqI x y z = s at *
  have ts : (s != wi (wi (wi (x * x) + wi (y * y)) + wi (z * z))) = false := by rw [es]; simp
  have t1 : decide (1152921504606846976 < u3) = false := decide_eq_false (by omega)
  have t2 : decide (u3 < -1152921504606846976) = false := decide_eq_false (by omega)
  have emx : mxI u3 (wi (0 - u3)) = (H : Int) := by rw [mxI_abs (Nat.le_trans ub (by decide)), ab]
  have hb : H ≤ 2251799813685248 := by rw [← ab]; exact ub
  have ew : wi (2 * (H : Int)) = 2 * (H : Int) := wi_of (by unfold isI; omega)
  have el : wi (wi (2 * mxI u3 (wi (0 - u3))) - 1) = 2 * (H : Int) - 1 := by rw [emx, ew]; exact wi_of (by unfold isI; omega)
  have eh : wi (wi (2 * mxI u3 (wi (0 - u3))) + 1) = 2 * (H : Int) + 1 := by rw [emx, ew]; exact wi_of (by unfold isI; omega)
  have ol : PureX Tryd.prog 11 #[ii (wi (wi (2 * mxI u3 (wi (0 - u3))) - 1))] (rt (wz (2 * (H : Int) - 1))) := by rw [el]; exact N.ol
  have oh : PureX Tryd.prog 11 #[ii (wi (wi (2 * mxI u3 (wi (0 - u3))) + 1))] (rt (wz (2 * (H : Int) + 1))) := by rw [eh]; exact N.oh
  by_cases h0 : u3 = 0
  · have H0 : H = 0 := by rw [← ab, h0]; rfl
    have tm : decide (0 < mxI u3 (wi (0 - u3))) = false := by rw [emx, H0]; rfl
    have tu : (u3 != 0) = false := by simp [h0]
    by_cases hn : n = 0
    · have tn : (n == 0) = true := by simp [hn]
      exact runF_pure mix (nea_n1 n d g m x y z j s u1 u2 u3 (((2 * (H : Int) - 1) * (2 * (H : Int) - 1) * (B : Int) - (A : Int)).sign) (((A : Int) - (2 * (H : Int) + 1) * (2 * (H : Int) + 1) * (B : Int)).sign) (nz 1) (nz 4) (nz n) (nz n) (nz g) (nz g) (nz m) (nz m) (nz z) (nz z) (nz 4) (nz (4 * n)) (nz (4 * n * n)) (nz (4 * n * n * g)) (nz (4 * n * n * g * g)) (nz (4 * n * n * g * g * m)) (nz (4 * n * n * g * g * m * m)) (nz (4 * n * n * g * g * m * m * z)) (nz (A : Int)) (nz 1) (nz d) (nz d) (nz s) (nz s) (nz s) (nz d) (nz (d * d)) (nz (d * d * s)) (nz (d * d * s * s)) (nz (B : Int)) (nz 1) (nz (2 * (H : Int) - 1)) (nz (2 * (H : Int) - 1)) (nz (2 * (H : Int) - 1)) (nz ((2 * (H : Int) - 1) * (2 * (H : Int) - 1))) (nz ((2 * (H : Int) - 1) * (2 * (H : Int) - 1) * (B : Int))) (nz 1) (nz (2 * (H : Int) + 1)) (nz (2 * (H : Int) + 1)) (nz (2 * (H : Int) + 1)) (nz ((2 * (H : Int) + 1) * (2 * (H : Int) + 1))) (nz ((2 * (H : Int) + 1) * (2 * (H : Int) + 1) * (B : Int)))) ⟨hm, hmod, P0, sq, ts, t1, t2, tu, tn, tu, N.o4, N.on, N.on, N.og, N.og, N.om, N.om, N.ox, N.ox, N.o1, N.a1, N.a2, N.a3, N.a4, N.a5, N.a6, N.a7, N.a8, N.a9, N.od, N.od, N.os, N.os, N.os, N.o1, N.b1, N.b2, N.b3, N.b4, N.b5, ol, ol, N.o1, N.c1, N.c2, N.c3, oh, oh, N.o1, N.e1, N.e2, N.e3, tm, N.ke, N.lt, wakes_c, trivial⟩ rfl rfl
    · have tn : (n == 0) = false := by simp [hn]
      by_cases hx : z = 0
      · have tx : (z == 0) = true := by simp [hx]
        exact runF_pure mix (nea_x1 n d g m x y z j s u1 u2 u3 (((2 * (H : Int) - 1) * (2 * (H : Int) - 1) * (B : Int) - (A : Int)).sign) (((A : Int) - (2 * (H : Int) + 1) * (2 * (H : Int) + 1) * (B : Int)).sign) (nz 1) (nz 4) (nz n) (nz n) (nz g) (nz g) (nz m) (nz m) (nz z) (nz z) (nz 4) (nz (4 * n)) (nz (4 * n * n)) (nz (4 * n * n * g)) (nz (4 * n * n * g * g)) (nz (4 * n * n * g * g * m)) (nz (4 * n * n * g * g * m * m)) (nz (4 * n * n * g * g * m * m * z)) (nz (A : Int)) (nz 1) (nz d) (nz d) (nz s) (nz s) (nz s) (nz d) (nz (d * d)) (nz (d * d * s)) (nz (d * d * s * s)) (nz (B : Int)) (nz 1) (nz (2 * (H : Int) - 1)) (nz (2 * (H : Int) - 1)) (nz (2 * (H : Int) - 1)) (nz ((2 * (H : Int) - 1) * (2 * (H : Int) - 1))) (nz ((2 * (H : Int) - 1) * (2 * (H : Int) - 1) * (B : Int))) (nz 1) (nz (2 * (H : Int) + 1)) (nz (2 * (H : Int) + 1)) (nz (2 * (H : Int) + 1)) (nz ((2 * (H : Int) + 1) * (2 * (H : Int) + 1))) (nz ((2 * (H : Int) + 1) * (2 * (H : Int) + 1) * (B : Int)))) ⟨hm, hmod, P0, sq, ts, t1, t2, tu, tn, tx, tu, N.o4, N.on, N.on, N.og, N.og, N.om, N.om, N.ox, N.ox, N.o1, N.a1, N.a2, N.a3, N.a4, N.a5, N.a6, N.a7, N.a8, N.a9, N.od, N.od, N.os, N.os, N.os, N.o1, N.b1, N.b2, N.b3, N.b4, N.b5, ol, ol, N.o1, N.c1, N.c2, N.c3, oh, oh, N.o1, N.e1, N.e2, N.e3, tm, N.ke, N.lt, wakes_c, trivial⟩ rfl rfl
      · have tx : (z == 0) = false := by simp [hx]
        exact runF_pure mix (nea_z1 n d g m x y z j s u1 u2 u3 (((2 * (H : Int) - 1) * (2 * (H : Int) - 1) * (B : Int) - (A : Int)).sign) (((A : Int) - (2 * (H : Int) + 1) * (2 * (H : Int) + 1) * (B : Int)).sign) (nz 1) (nz 4) (nz n) (nz n) (nz g) (nz g) (nz m) (nz m) (nz z) (nz z) (nz 4) (nz (4 * n)) (nz (4 * n * n)) (nz (4 * n * n * g)) (nz (4 * n * n * g * g)) (nz (4 * n * n * g * g * m)) (nz (4 * n * n * g * g * m * m)) (nz (4 * n * n * g * g * m * m * z)) (nz (A : Int)) (nz 1) (nz d) (nz d) (nz s) (nz s) (nz s) (nz d) (nz (d * d)) (nz (d * d * s)) (nz (d * d * s * s)) (nz (B : Int)) (nz 1) (nz (2 * (H : Int) - 1)) (nz (2 * (H : Int) - 1)) (nz (2 * (H : Int) - 1)) (nz ((2 * (H : Int) - 1) * (2 * (H : Int) - 1))) (nz ((2 * (H : Int) - 1) * (2 * (H : Int) - 1) * (B : Int))) (nz 1) (nz (2 * (H : Int) + 1)) (nz (2 * (H : Int) + 1)) (nz (2 * (H : Int) + 1)) (nz ((2 * (H : Int) + 1) * (2 * (H : Int) + 1))) (nz ((2 * (H : Int) + 1) * (2 * (H : Int) + 1) * (B : Int)))) ⟨hm, hmod, P0, sq, ts, t1, t2, tu, tn, tx, N.o4, N.on, N.on, N.og, N.og, N.om, N.om, N.ox, N.ox, N.o1, N.a1, N.a2, N.a3, N.a4, N.a5, N.a6, N.a7, N.a8, N.a9, N.od, N.od, N.os, N.os, N.os, N.o1, N.b1, N.b2, N.b3, N.b4, N.b5, ol, ol, N.o1, N.c1, N.c2, N.c3, oh, oh, N.o1, N.e1, N.e2, N.e3, tm, N.ke, N.lt, wakes_c, trivial⟩ rfl rfl
  · have H0 : 0 < H := by omega
    have tm : decide (0 < mxI u3 (wi (0 - u3))) = true := by rw [emx]; exact decide_eq_true (by omega)
    have tu : (u3 != 0) = true := by simp [h0]
    obtain ⟨hn, hx, hs⟩ := sg h0
    have tn : (n == 0) = false := by simp [hn]
    have tx : (z == 0) = false := by simp [hx]
    have tsg : (!(decide (0 < u3) == (decide (0 < n) == decide (0 < z)))) = false := by rw [hs]; simp
    exact runF_pure mix (nea_k1 n d g m x y z j s u1 u2 u3 (((2 * (H : Int) - 1) * (2 * (H : Int) - 1) * (B : Int) - (A : Int)).sign) (((A : Int) - (2 * (H : Int) + 1) * (2 * (H : Int) + 1) * (B : Int)).sign) (nz 1) (nz 4) (nz n) (nz n) (nz g) (nz g) (nz m) (nz m) (nz z) (nz z) (nz 4) (nz (4 * n)) (nz (4 * n * n)) (nz (4 * n * n * g)) (nz (4 * n * n * g * g)) (nz (4 * n * n * g * g * m)) (nz (4 * n * n * g * g * m * m)) (nz (4 * n * n * g * g * m * m * z)) (nz (A : Int)) (nz 1) (nz d) (nz d) (nz s) (nz s) (nz s) (nz d) (nz (d * d)) (nz (d * d * s)) (nz (d * d * s * s)) (nz (B : Int)) (nz 1) (nz (2 * (H : Int) - 1)) (nz (2 * (H : Int) - 1)) (nz (2 * (H : Int) - 1)) (nz ((2 * (H : Int) - 1) * (2 * (H : Int) - 1))) (nz ((2 * (H : Int) - 1) * (2 * (H : Int) - 1) * (B : Int))) (nz 1) (nz (2 * (H : Int) + 1)) (nz (2 * (H : Int) + 1)) (nz (2 * (H : Int) + 1)) (nz ((2 * (H : Int) + 1) * (2 * (H : Int) + 1))) (nz ((2 * (H : Int) + 1) * (2 * (H : Int) + 1) * (B : Int)))) ⟨hm, hmod, P0, sq, ts, t1, t2, tu, tsg, tn, tx, N.o4, N.on, N.on, N.og, N.og, N.om, N.om, N.ox, N.ox, N.o1, N.a1, N.a2, N.a3, N.a4, N.a5, N.a6, N.a7, N.a8, N.a9, N.od, N.od, N.os, N.os, N.os, N.o1, N.b1, N.b2, N.b3, N.b4, N.b5, ol, ol, N.o1, N.c1, N.c2, N.c3, oh, oh, N.o1, N.e1, N.e2, N.e3, tm, N.kc, N.le (by omega), N.ke, N.lt, wakes_c, trivial⟩ rfl rfl
theorem near_2 {n d g m x y z j : Int} (h : okP n d g m x y z) (hj : Int.tmod j 3 = 0) : PureX Tryd.prog 3 #[ii n, ii d, ii g, ii m, vc x y z, ii j] (rt (bb true)) := by
  have hm := may_t h
  have P0 := pull_ok h
  have sq := square_v x y z
  rw [if_pos h.2.2.2.2.1, if_pos h.2.2.2.2.1] at sq
  have es := sq_wi h.2.2.2.2.1
  obtain ⟨s0, q1, q2, q3, ka, kb, kc, _⟩ := okP_facts h
  have N := nf ka s0 q1
  have ub := plK_le ka s0 q1
  have ab := plK_natAbs n d g m x (sqI x y z)
  have sg := plK_sign (n := n) (d := d) (g := g) (m := m) (x := x) (s := sqI x y z)
  have hmod : (3 : Int) ≠ 0 ∧ Int.tmod j 3 = (0) := ⟨by decide, hj⟩
  generalize plK n d g m x (sqI x y z) = u1 at *
  generalize plK n d g m y (sqI x y z) = u2 at *
  generalize plK n d g m z (sqI x y z) = u3 at *
  generalize plH n d g m x (sqI x y z) = H at *
  generalize plA n g m x = A at *
  generalize plB d (sqI x y z) = B at *
  generalize sqI x y z = s at *
  have ts : (s != wi (wi (wi (x * x) + wi (y * y)) + wi (z * z))) = false := by rw [es]; simp
  have t1 : decide (1152921504606846976 < u1) = false := decide_eq_false (by omega)
  have t2 : decide (u1 < -1152921504606846976) = false := decide_eq_false (by omega)
  have emx : mxI u1 (wi (0 - u1)) = (H : Int) := by rw [mxI_abs (Nat.le_trans ub (by decide)), ab]
  have hb : H ≤ 2251799813685248 := by rw [← ab]; exact ub
  have ew : wi (2 * (H : Int)) = 2 * (H : Int) := wi_of (by unfold isI; omega)
  have el : wi (wi (2 * mxI u1 (wi (0 - u1))) - 1) = 2 * (H : Int) - 1 := by rw [emx, ew]; exact wi_of (by unfold isI; omega)
  have eh : wi (wi (2 * mxI u1 (wi (0 - u1))) + 1) = 2 * (H : Int) + 1 := by rw [emx, ew]; exact wi_of (by unfold isI; omega)
  have ol : PureX Tryd.prog 11 #[ii (wi (wi (2 * mxI u1 (wi (0 - u1))) - 1))] (rt (wz (2 * (H : Int) - 1))) := by rw [el]; exact N.ol
  have oh : PureX Tryd.prog 11 #[ii (wi (wi (2 * mxI u1 (wi (0 - u1))) + 1))] (rt (wz (2 * (H : Int) + 1))) := by rw [eh]; exact N.oh
  by_cases h0 : u1 = 0
  · have H0 : H = 0 := by rw [← ab, h0]; rfl
    have tm : decide (0 < mxI u1 (wi (0 - u1))) = false := by rw [emx, H0]; rfl
    have tu : (u1 != 0) = false := by simp [h0]
    by_cases hn : n = 0
    · have tn : (n == 0) = true := by simp [hn]
      exact runF_pure mix (nea_n2 n d g m x y z j s u1 u2 u3 (((2 * (H : Int) - 1) * (2 * (H : Int) - 1) * (B : Int) - (A : Int)).sign) (((A : Int) - (2 * (H : Int) + 1) * (2 * (H : Int) + 1) * (B : Int)).sign) (nz 1) (nz 4) (nz n) (nz n) (nz g) (nz g) (nz m) (nz m) (nz x) (nz x) (nz 4) (nz (4 * n)) (nz (4 * n * n)) (nz (4 * n * n * g)) (nz (4 * n * n * g * g)) (nz (4 * n * n * g * g * m)) (nz (4 * n * n * g * g * m * m)) (nz (4 * n * n * g * g * m * m * x)) (nz (A : Int)) (nz 1) (nz d) (nz d) (nz s) (nz s) (nz s) (nz d) (nz (d * d)) (nz (d * d * s)) (nz (d * d * s * s)) (nz (B : Int)) (nz 1) (nz (2 * (H : Int) - 1)) (nz (2 * (H : Int) - 1)) (nz (2 * (H : Int) - 1)) (nz ((2 * (H : Int) - 1) * (2 * (H : Int) - 1))) (nz ((2 * (H : Int) - 1) * (2 * (H : Int) - 1) * (B : Int))) (nz 1) (nz (2 * (H : Int) + 1)) (nz (2 * (H : Int) + 1)) (nz (2 * (H : Int) + 1)) (nz ((2 * (H : Int) + 1) * (2 * (H : Int) + 1))) (nz ((2 * (H : Int) + 1) * (2 * (H : Int) + 1) * (B : Int)))) ⟨hm, hmod, P0, sq, ts, t1, t2, tu, tn, tu, N.o4, N.on, N.on, N.og, N.og, N.om, N.om, N.ox, N.ox, N.o1, N.a1, N.a2, N.a3, N.a4, N.a5, N.a6, N.a7, N.a8, N.a9, N.od, N.od, N.os, N.os, N.os, N.o1, N.b1, N.b2, N.b3, N.b4, N.b5, ol, ol, N.o1, N.c1, N.c2, N.c3, oh, oh, N.o1, N.e1, N.e2, N.e3, tm, N.ke, N.lt, wakes_c, trivial⟩ rfl rfl
    · have tn : (n == 0) = false := by simp [hn]
      by_cases hx : x = 0
      · have tx : (x == 0) = true := by simp [hx]
        exact runF_pure mix (nea_x2 n d g m x y z j s u1 u2 u3 (((2 * (H : Int) - 1) * (2 * (H : Int) - 1) * (B : Int) - (A : Int)).sign) (((A : Int) - (2 * (H : Int) + 1) * (2 * (H : Int) + 1) * (B : Int)).sign) (nz 1) (nz 4) (nz n) (nz n) (nz g) (nz g) (nz m) (nz m) (nz x) (nz x) (nz 4) (nz (4 * n)) (nz (4 * n * n)) (nz (4 * n * n * g)) (nz (4 * n * n * g * g)) (nz (4 * n * n * g * g * m)) (nz (4 * n * n * g * g * m * m)) (nz (4 * n * n * g * g * m * m * x)) (nz (A : Int)) (nz 1) (nz d) (nz d) (nz s) (nz s) (nz s) (nz d) (nz (d * d)) (nz (d * d * s)) (nz (d * d * s * s)) (nz (B : Int)) (nz 1) (nz (2 * (H : Int) - 1)) (nz (2 * (H : Int) - 1)) (nz (2 * (H : Int) - 1)) (nz ((2 * (H : Int) - 1) * (2 * (H : Int) - 1))) (nz ((2 * (H : Int) - 1) * (2 * (H : Int) - 1) * (B : Int))) (nz 1) (nz (2 * (H : Int) + 1)) (nz (2 * (H : Int) + 1)) (nz (2 * (H : Int) + 1)) (nz ((2 * (H : Int) + 1) * (2 * (H : Int) + 1))) (nz ((2 * (H : Int) + 1) * (2 * (H : Int) + 1) * (B : Int)))) ⟨hm, hmod, P0, sq, ts, t1, t2, tu, tn, tx, tu, N.o4, N.on, N.on, N.og, N.og, N.om, N.om, N.ox, N.ox, N.o1, N.a1, N.a2, N.a3, N.a4, N.a5, N.a6, N.a7, N.a8, N.a9, N.od, N.od, N.os, N.os, N.os, N.o1, N.b1, N.b2, N.b3, N.b4, N.b5, ol, ol, N.o1, N.c1, N.c2, N.c3, oh, oh, N.o1, N.e1, N.e2, N.e3, tm, N.ke, N.lt, wakes_c, trivial⟩ rfl rfl
      · have tx : (x == 0) = false := by simp [hx]
        exact runF_pure mix (nea_z2 n d g m x y z j s u1 u2 u3 (((2 * (H : Int) - 1) * (2 * (H : Int) - 1) * (B : Int) - (A : Int)).sign) (((A : Int) - (2 * (H : Int) + 1) * (2 * (H : Int) + 1) * (B : Int)).sign) (nz 1) (nz 4) (nz n) (nz n) (nz g) (nz g) (nz m) (nz m) (nz x) (nz x) (nz 4) (nz (4 * n)) (nz (4 * n * n)) (nz (4 * n * n * g)) (nz (4 * n * n * g * g)) (nz (4 * n * n * g * g * m)) (nz (4 * n * n * g * g * m * m)) (nz (4 * n * n * g * g * m * m * x)) (nz (A : Int)) (nz 1) (nz d) (nz d) (nz s) (nz s) (nz s) (nz d) (nz (d * d)) (nz (d * d * s)) (nz (d * d * s * s)) (nz (B : Int)) (nz 1) (nz (2 * (H : Int) - 1)) (nz (2 * (H : Int) - 1)) (nz (2 * (H : Int) - 1)) (nz ((2 * (H : Int) - 1) * (2 * (H : Int) - 1))) (nz ((2 * (H : Int) - 1) * (2 * (H : Int) - 1) * (B : Int))) (nz 1) (nz (2 * (H : Int) + 1)) (nz (2 * (H : Int) + 1)) (nz (2 * (H : Int) + 1)) (nz ((2 * (H : Int) + 1) * (2 * (H : Int) + 1))) (nz ((2 * (H : Int) + 1) * (2 * (H : Int) + 1) * (B : Int)))) ⟨hm, hmod, P0, sq, ts, t1, t2, tu, tn, tx, N.o4, N.on, N.on, N.og, N.og, N.om, N.om, N.ox, N.ox, N.o1, N.a1, N.a2, N.a3, N.a4, N.a5, N.a6, N.a7, N.a8, N.a9, N.od, N.od, N.os, N.os, N.os, N.o1, N.b1, N.b2, N.b3, N.b4, N.b5, ol, ol, N.o1, N.c1, N.c2, N.c3, oh, oh, N.o1, N.e1, N.e2, N.e3, tm, N.ke, N.lt, wakes_c, trivial⟩ rfl rfl
  · have H0 : 0 < H := by omega
    have tm : decide (0 < mxI u1 (wi (0 - u1))) = true := by rw [emx]; exact decide_eq_true (by omega)
    have tu : (u1 != 0) = true := by simp [h0]
    obtain ⟨hn, hx, hs⟩ := sg h0
    have tn : (n == 0) = false := by simp [hn]
    have tx : (x == 0) = false := by simp [hx]
    have tsg : (!(decide (0 < u1) == (decide (0 < n) == decide (0 < x)))) = false := by rw [hs]; simp
    exact runF_pure mix (nea_k2 n d g m x y z j s u1 u2 u3 (((2 * (H : Int) - 1) * (2 * (H : Int) - 1) * (B : Int) - (A : Int)).sign) (((A : Int) - (2 * (H : Int) + 1) * (2 * (H : Int) + 1) * (B : Int)).sign) (nz 1) (nz 4) (nz n) (nz n) (nz g) (nz g) (nz m) (nz m) (nz x) (nz x) (nz 4) (nz (4 * n)) (nz (4 * n * n)) (nz (4 * n * n * g)) (nz (4 * n * n * g * g)) (nz (4 * n * n * g * g * m)) (nz (4 * n * n * g * g * m * m)) (nz (4 * n * n * g * g * m * m * x)) (nz (A : Int)) (nz 1) (nz d) (nz d) (nz s) (nz s) (nz s) (nz d) (nz (d * d)) (nz (d * d * s)) (nz (d * d * s * s)) (nz (B : Int)) (nz 1) (nz (2 * (H : Int) - 1)) (nz (2 * (H : Int) - 1)) (nz (2 * (H : Int) - 1)) (nz ((2 * (H : Int) - 1) * (2 * (H : Int) - 1))) (nz ((2 * (H : Int) - 1) * (2 * (H : Int) - 1) * (B : Int))) (nz 1) (nz (2 * (H : Int) + 1)) (nz (2 * (H : Int) + 1)) (nz (2 * (H : Int) + 1)) (nz ((2 * (H : Int) + 1) * (2 * (H : Int) + 1))) (nz ((2 * (H : Int) + 1) * (2 * (H : Int) + 1) * (B : Int)))) ⟨hm, hmod, P0, sq, ts, t1, t2, tu, tsg, tn, tx, N.o4, N.on, N.on, N.og, N.og, N.om, N.om, N.ox, N.ox, N.o1, N.a1, N.a2, N.a3, N.a4, N.a5, N.a6, N.a7, N.a8, N.a9, N.od, N.od, N.os, N.os, N.os, N.o1, N.b1, N.b2, N.b3, N.b4, N.b5, ol, ol, N.o1, N.c1, N.c2, N.c3, oh, oh, N.o1, N.e1, N.e2, N.e3, tm, N.kc, N.le (by omega), N.ke, N.lt, wakes_c, trivial⟩ rfl rfl
theorem near_3 {n d g m x y z j : Int} (h : okP n d g m x y z) (hj : Int.tmod j 3 = 1) : PureX Tryd.prog 3 #[ii n, ii d, ii g, ii m, vc x y z, ii j] (rt (bb true)) := by
  have hm := may_t h
  have P0 := pull_ok h
  have sq := square_v x y z
  rw [if_pos h.2.2.2.2.1, if_pos h.2.2.2.2.1] at sq
  have es := sq_wi h.2.2.2.2.1
  obtain ⟨s0, q1, q2, q3, ka, kb, kc, _⟩ := okP_facts h
  have N := nf kb s0 q2
  have ub := plK_le kb s0 q2
  have ab := plK_natAbs n d g m y (sqI x y z)
  have sg := plK_sign (n := n) (d := d) (g := g) (m := m) (x := y) (s := sqI x y z)
  have hmod : (3 : Int) ≠ 0 ∧ Int.tmod j 3 = (1) := ⟨by decide, hj⟩
  generalize plK n d g m x (sqI x y z) = u1 at *
  generalize plK n d g m y (sqI x y z) = u2 at *
  generalize plK n d g m z (sqI x y z) = u3 at *
  generalize plH n d g m y (sqI x y z) = H at *
  generalize plA n g m y = A at *
  generalize plB d (sqI x y z) = B at *
  generalize sqI x y z = s at *
  have ts : (s != wi (wi (wi (x * x) + wi (y * y)) + wi (z * z))) = false := by rw [es]; simp
  have t1 : decide (1152921504606846976 < u2) = false := decide_eq_false (by omega)
  have t2 : decide (u2 < -1152921504606846976) = false := decide_eq_false (by omega)
  have emx : mxI u2 (wi (0 - u2)) = (H : Int) := by rw [mxI_abs (Nat.le_trans ub (by decide)), ab]
  have hb : H ≤ 2251799813685248 := by rw [← ab]; exact ub
  have ew : wi (2 * (H : Int)) = 2 * (H : Int) := wi_of (by unfold isI; omega)
  have el : wi (wi (2 * mxI u2 (wi (0 - u2))) - 1) = 2 * (H : Int) - 1 := by rw [emx, ew]; exact wi_of (by unfold isI; omega)
  have eh : wi (wi (2 * mxI u2 (wi (0 - u2))) + 1) = 2 * (H : Int) + 1 := by rw [emx, ew]; exact wi_of (by unfold isI; omega)
  have ol : PureX Tryd.prog 11 #[ii (wi (wi (2 * mxI u2 (wi (0 - u2))) - 1))] (rt (wz (2 * (H : Int) - 1))) := by rw [el]; exact N.ol
  have oh : PureX Tryd.prog 11 #[ii (wi (wi (2 * mxI u2 (wi (0 - u2))) + 1))] (rt (wz (2 * (H : Int) + 1))) := by rw [eh]; exact N.oh
  by_cases h0 : u2 = 0
  · have H0 : H = 0 := by rw [← ab, h0]; rfl
    have tm : decide (0 < mxI u2 (wi (0 - u2))) = false := by rw [emx, H0]; rfl
    have tu : (u2 != 0) = false := by simp [h0]
    by_cases hn : n = 0
    · have tn : (n == 0) = true := by simp [hn]
      exact runF_pure mix (nea_n3 n d g m x y z j s u1 u2 u3 (((2 * (H : Int) - 1) * (2 * (H : Int) - 1) * (B : Int) - (A : Int)).sign) (((A : Int) - (2 * (H : Int) + 1) * (2 * (H : Int) + 1) * (B : Int)).sign) (nz 1) (nz 4) (nz n) (nz n) (nz g) (nz g) (nz m) (nz m) (nz y) (nz y) (nz 4) (nz (4 * n)) (nz (4 * n * n)) (nz (4 * n * n * g)) (nz (4 * n * n * g * g)) (nz (4 * n * n * g * g * m)) (nz (4 * n * n * g * g * m * m)) (nz (4 * n * n * g * g * m * m * y)) (nz (A : Int)) (nz 1) (nz d) (nz d) (nz s) (nz s) (nz s) (nz d) (nz (d * d)) (nz (d * d * s)) (nz (d * d * s * s)) (nz (B : Int)) (nz 1) (nz (2 * (H : Int) - 1)) (nz (2 * (H : Int) - 1)) (nz (2 * (H : Int) - 1)) (nz ((2 * (H : Int) - 1) * (2 * (H : Int) - 1))) (nz ((2 * (H : Int) - 1) * (2 * (H : Int) - 1) * (B : Int))) (nz 1) (nz (2 * (H : Int) + 1)) (nz (2 * (H : Int) + 1)) (nz (2 * (H : Int) + 1)) (nz ((2 * (H : Int) + 1) * (2 * (H : Int) + 1))) (nz ((2 * (H : Int) + 1) * (2 * (H : Int) + 1) * (B : Int)))) ⟨hm, hmod, P0, sq, ts, t1, t2, tu, tn, tu, N.o4, N.on, N.on, N.og, N.og, N.om, N.om, N.ox, N.ox, N.o1, N.a1, N.a2, N.a3, N.a4, N.a5, N.a6, N.a7, N.a8, N.a9, N.od, N.od, N.os, N.os, N.os, N.o1, N.b1, N.b2, N.b3, N.b4, N.b5, ol, ol, N.o1, N.c1, N.c2, N.c3, oh, oh, N.o1, N.e1, N.e2, N.e3, tm, N.ke, N.lt, wakes_c, trivial⟩ rfl rfl
    · have tn : (n == 0) = false := by simp [hn]
      by_cases hx : y = 0
      · have tx : (y == 0) = true := by simp [hx]
        exact runF_pure mix (nea_x3 n d g m x y z j s u1 u2 u3 (((2 * (H : Int) - 1) * (2 * (H : Int) - 1) * (B : Int) - (A : Int)).sign) (((A : Int) - (2 * (H : Int) + 1) * (2 * (H : Int) + 1) * (B : Int)).sign) (nz 1) (nz 4) (nz n) (nz n) (nz g) (nz g) (nz m) (nz m) (nz y) (nz y) (nz 4) (nz (4 * n)) (nz (4 * n * n)) (nz (4 * n * n * g)) (nz (4 * n * n * g * g)) (nz (4 * n * n * g * g * m)) (nz (4 * n * n * g * g * m * m)) (nz (4 * n * n * g * g * m * m * y)) (nz (A : Int)) (nz 1) (nz d) (nz d) (nz s) (nz s) (nz s) (nz d) (nz (d * d)) (nz (d * d * s)) (nz (d * d * s * s)) (nz (B : Int)) (nz 1) (nz (2 * (H : Int) - 1)) (nz (2 * (H : Int) - 1)) (nz (2 * (H : Int) - 1)) (nz ((2 * (H : Int) - 1) * (2 * (H : Int) - 1))) (nz ((2 * (H : Int) - 1) * (2 * (H : Int) - 1) * (B : Int))) (nz 1) (nz (2 * (H : Int) + 1)) (nz (2 * (H : Int) + 1)) (nz (2 * (H : Int) + 1)) (nz ((2 * (H : Int) + 1) * (2 * (H : Int) + 1))) (nz ((2 * (H : Int) + 1) * (2 * (H : Int) + 1) * (B : Int)))) ⟨hm, hmod, P0, sq, ts, t1, t2, tu, tn, tx, tu, N.o4, N.on, N.on, N.og, N.og, N.om, N.om, N.ox, N.ox, N.o1, N.a1, N.a2, N.a3, N.a4, N.a5, N.a6, N.a7, N.a8, N.a9, N.od, N.od, N.os, N.os, N.os, N.o1, N.b1, N.b2, N.b3, N.b4, N.b5, ol, ol, N.o1, N.c1, N.c2, N.c3, oh, oh, N.o1, N.e1, N.e2, N.e3, tm, N.ke, N.lt, wakes_c, trivial⟩ rfl rfl
      · have tx : (y == 0) = false := by simp [hx]
        exact runF_pure mix (nea_z3 n d g m x y z j s u1 u2 u3 (((2 * (H : Int) - 1) * (2 * (H : Int) - 1) * (B : Int) - (A : Int)).sign) (((A : Int) - (2 * (H : Int) + 1) * (2 * (H : Int) + 1) * (B : Int)).sign) (nz 1) (nz 4) (nz n) (nz n) (nz g) (nz g) (nz m) (nz m) (nz y) (nz y) (nz 4) (nz (4 * n)) (nz (4 * n * n)) (nz (4 * n * n * g)) (nz (4 * n * n * g * g)) (nz (4 * n * n * g * g * m)) (nz (4 * n * n * g * g * m * m)) (nz (4 * n * n * g * g * m * m * y)) (nz (A : Int)) (nz 1) (nz d) (nz d) (nz s) (nz s) (nz s) (nz d) (nz (d * d)) (nz (d * d * s)) (nz (d * d * s * s)) (nz (B : Int)) (nz 1) (nz (2 * (H : Int) - 1)) (nz (2 * (H : Int) - 1)) (nz (2 * (H : Int) - 1)) (nz ((2 * (H : Int) - 1) * (2 * (H : Int) - 1))) (nz ((2 * (H : Int) - 1) * (2 * (H : Int) - 1) * (B : Int))) (nz 1) (nz (2 * (H : Int) + 1)) (nz (2 * (H : Int) + 1)) (nz (2 * (H : Int) + 1)) (nz ((2 * (H : Int) + 1) * (2 * (H : Int) + 1))) (nz ((2 * (H : Int) + 1) * (2 * (H : Int) + 1) * (B : Int)))) ⟨hm, hmod, P0, sq, ts, t1, t2, tu, tn, tx, N.o4, N.on, N.on, N.og, N.og, N.om, N.om, N.ox, N.ox, N.o1, N.a1, N.a2, N.a3, N.a4, N.a5, N.a6, N.a7, N.a8, N.a9, N.od, N.od, N.os, N.os, N.os, N.o1, N.b1, N.b2, N.b3, N.b4, N.b5, ol, ol, N.o1, N.c1, N.c2, N.c3, oh, oh, N.o1, N.e1, N.e2, N.e3, tm, N.ke, N.lt, wakes_c, trivial⟩ rfl rfl
  · have H0 : 0 < H := by omega
    have tm : decide (0 < mxI u2 (wi (0 - u2))) = true := by rw [emx]; exact decide_eq_true (by omega)
    have tu : (u2 != 0) = true := by simp [h0]
    obtain ⟨hn, hx, hs⟩ := sg h0
    have tn : (n == 0) = false := by simp [hn]
    have tx : (y == 0) = false := by simp [hx]
    have tsg : (!(decide (0 < u2) == (decide (0 < n) == decide (0 < y)))) = false := by rw [hs]; simp
    exact runF_pure mix (nea_k3 n d g m x y z j s u1 u2 u3 (((2 * (H : Int) - 1) * (2 * (H : Int) - 1) * (B : Int) - (A : Int)).sign) (((A : Int) - (2 * (H : Int) + 1) * (2 * (H : Int) + 1) * (B : Int)).sign) (nz 1) (nz 4) (nz n) (nz n) (nz g) (nz g) (nz m) (nz m) (nz y) (nz y) (nz 4) (nz (4 * n)) (nz (4 * n * n)) (nz (4 * n * n * g)) (nz (4 * n * n * g * g)) (nz (4 * n * n * g * g * m)) (nz (4 * n * n * g * g * m * m)) (nz (4 * n * n * g * g * m * m * y)) (nz (A : Int)) (nz 1) (nz d) (nz d) (nz s) (nz s) (nz s) (nz d) (nz (d * d)) (nz (d * d * s)) (nz (d * d * s * s)) (nz (B : Int)) (nz 1) (nz (2 * (H : Int) - 1)) (nz (2 * (H : Int) - 1)) (nz (2 * (H : Int) - 1)) (nz ((2 * (H : Int) - 1) * (2 * (H : Int) - 1))) (nz ((2 * (H : Int) - 1) * (2 * (H : Int) - 1) * (B : Int))) (nz 1) (nz (2 * (H : Int) + 1)) (nz (2 * (H : Int) + 1)) (nz (2 * (H : Int) + 1)) (nz ((2 * (H : Int) + 1) * (2 * (H : Int) + 1))) (nz ((2 * (H : Int) + 1) * (2 * (H : Int) + 1) * (B : Int)))) ⟨hm, hmod, P0, sq, ts, t1, t2, tu, tsg, tn, tx, N.o4, N.on, N.on, N.og, N.og, N.om, N.om, N.ox, N.ox, N.o1, N.a1, N.a2, N.a3, N.a4, N.a5, N.a6, N.a7, N.a8, N.a9, N.od, N.od, N.os, N.os, N.os, N.o1, N.b1, N.b2, N.b3, N.b4, N.b5, ol, ol, N.o1, N.c1, N.c2, N.c3, oh, oh, N.o1, N.e1, N.e2, N.e3, tm, N.kc, N.le (by omega), N.ke, N.lt, wakes_c, trivial⟩ rfl rfl
theorem near_4 {n d g m x y z j : Int} (h : okP n d g m x y z) (hj : Int.tmod j 3 = 2) : PureX Tryd.prog 3 #[ii n, ii d, ii g, ii m, vc x y z, ii j] (rt (bb true)) := by
  have hm := may_t h
  have P0 := pull_ok h
  have sq := square_v x y z
  rw [if_pos h.2.2.2.2.1, if_pos h.2.2.2.2.1] at sq
  have es := sq_wi h.2.2.2.2.1
  obtain ⟨s0, q1, q2, q3, ka, kb, kc, _⟩ := okP_facts h
  have N := nf kc s0 q3
  have ub := plK_le kc s0 q3
  have ab := plK_natAbs n d g m z (sqI x y z)
  have sg := plK_sign (n := n) (d := d) (g := g) (m := m) (x := z) (s := sqI x y z)
  have hmod : (3 : Int) ≠ 0 ∧ Int.tmod j 3 = (2) := ⟨by decide, hj⟩
  generalize plK n d g m x (sqI x y z) = u1 at *
  generalize plK n d g m y (sqI x y z) = u2 at *
  generalize plK n d g m z (sqI x y z) = u3 at *
  generalize plH n d g m z (sqI x y z) = H at *
  generalize plA n g m z = A at *
  generalize plB d (sqI x y z) = B at *
  generalize sqI x y z = s at *
  have ts : (s != wi (wi (wi (x * x) + wi (y * y)) + wi (z * z))) = false := by rw [es]; simp
  have t1 : decide (1152921504606846976 < u3) = false := decide_eq_false (by omega)
  have t2 : decide (u3 < -1152921504606846976) = false := decide_eq_false (by omega)
  have emx : mxI u3 (wi (0 - u3)) = (H : Int) := by rw [mxI_abs (Nat.le_trans ub (by decide)), ab]
  have hb : H ≤ 2251799813685248 := by rw [← ab]; exact ub
  have ew : wi (2 * (H : Int)) = 2 * (H : Int) := wi_of (by unfold isI; omega)
  have el : wi (wi (2 * mxI u3 (wi (0 - u3))) - 1) = 2 * (H : Int) - 1 := by rw [emx, ew]; exact wi_of (by unfold isI; omega)
  have eh : wi (wi (2 * mxI u3 (wi (0 - u3))) + 1) = 2 * (H : Int) + 1 := by rw [emx, ew]; exact wi_of (by unfold isI; omega)
  have ol : PureX Tryd.prog 11 #[ii (wi (wi (2 * mxI u3 (wi (0 - u3))) - 1))] (rt (wz (2 * (H : Int) - 1))) := by rw [el]; exact N.ol
  have oh : PureX Tryd.prog 11 #[ii (wi (wi (2 * mxI u3 (wi (0 - u3))) + 1))] (rt (wz (2 * (H : Int) + 1))) := by rw [eh]; exact N.oh
  by_cases h0 : u3 = 0
  · have H0 : H = 0 := by rw [← ab, h0]; rfl
    have tm : decide (0 < mxI u3 (wi (0 - u3))) = false := by rw [emx, H0]; rfl
    have tu : (u3 != 0) = false := by simp [h0]
    by_cases hn : n = 0
    · have tn : (n == 0) = true := by simp [hn]
      exact runF_pure mix (nea_n4 n d g m x y z j s u1 u2 u3 (((2 * (H : Int) - 1) * (2 * (H : Int) - 1) * (B : Int) - (A : Int)).sign) (((A : Int) - (2 * (H : Int) + 1) * (2 * (H : Int) + 1) * (B : Int)).sign) (nz 1) (nz 4) (nz n) (nz n) (nz g) (nz g) (nz m) (nz m) (nz z) (nz z) (nz 4) (nz (4 * n)) (nz (4 * n * n)) (nz (4 * n * n * g)) (nz (4 * n * n * g * g)) (nz (4 * n * n * g * g * m)) (nz (4 * n * n * g * g * m * m)) (nz (4 * n * n * g * g * m * m * z)) (nz (A : Int)) (nz 1) (nz d) (nz d) (nz s) (nz s) (nz s) (nz d) (nz (d * d)) (nz (d * d * s)) (nz (d * d * s * s)) (nz (B : Int)) (nz 1) (nz (2 * (H : Int) - 1)) (nz (2 * (H : Int) - 1)) (nz (2 * (H : Int) - 1)) (nz ((2 * (H : Int) - 1) * (2 * (H : Int) - 1))) (nz ((2 * (H : Int) - 1) * (2 * (H : Int) - 1) * (B : Int))) (nz 1) (nz (2 * (H : Int) + 1)) (nz (2 * (H : Int) + 1)) (nz (2 * (H : Int) + 1)) (nz ((2 * (H : Int) + 1) * (2 * (H : Int) + 1))) (nz ((2 * (H : Int) + 1) * (2 * (H : Int) + 1) * (B : Int)))) ⟨hm, hmod, P0, sq, ts, t1, t2, tu, tn, tu, N.o4, N.on, N.on, N.og, N.og, N.om, N.om, N.ox, N.ox, N.o1, N.a1, N.a2, N.a3, N.a4, N.a5, N.a6, N.a7, N.a8, N.a9, N.od, N.od, N.os, N.os, N.os, N.o1, N.b1, N.b2, N.b3, N.b4, N.b5, ol, ol, N.o1, N.c1, N.c2, N.c3, oh, oh, N.o1, N.e1, N.e2, N.e3, tm, N.ke, N.lt, wakes_c, trivial⟩ rfl rfl
    · have tn : (n == 0) = false := by simp [hn]
      by_cases hx : z = 0
      · have tx : (z == 0) = true := by simp [hx]
        exact runF_pure mix (nea_x4 n d g m x y z j s u1 u2 u3 (((2 * (H : Int) - 1) * (2 * (H : Int) - 1) * (B : Int) - (A : Int)).sign) (((A : Int) - (2 * (H : Int) + 1) * (2 * (H : Int) + 1) * (B : Int)).sign) (nz 1) (nz 4) (nz n) (nz n) (nz g) (nz g) (nz m) (nz m) (nz z) (nz z) (nz 4) (nz (4 * n)) (nz (4 * n * n)) (nz (4 * n * n * g)) (nz (4 * n * n * g * g)) (nz (4 * n * n * g * g * m)) (nz (4 * n * n * g * g * m * m)) (nz (4 * n * n * g * g * m * m * z)) (nz (A : Int)) (nz 1) (nz d) (nz d) (nz s) (nz s) (nz s) (nz d) (nz (d * d)) (nz (d * d * s)) (nz (d * d * s * s)) (nz (B : Int)) (nz 1) (nz (2 * (H : Int) - 1)) (nz (2 * (H : Int) - 1)) (nz (2 * (H : Int) - 1)) (nz ((2 * (H : Int) - 1) * (2 * (H : Int) - 1))) (nz ((2 * (H : Int) - 1) * (2 * (H : Int) - 1) * (B : Int))) (nz 1) (nz (2 * (H : Int) + 1)) (nz (2 * (H : Int) + 1)) (nz (2 * (H : Int) + 1)) (nz ((2 * (H : Int) + 1) * (2 * (H : Int) + 1))) (nz ((2 * (H : Int) + 1) * (2 * (H : Int) + 1) * (B : Int)))) ⟨hm, hmod, P0, sq, ts, t1, t2, tu, tn, tx, tu, N.o4, N.on, N.on, N.og, N.og, N.om, N.om, N.ox, N.ox, N.o1, N.a1, N.a2, N.a3, N.a4, N.a5, N.a6, N.a7, N.a8, N.a9, N.od, N.od, N.os, N.os, N.os, N.o1, N.b1, N.b2, N.b3, N.b4, N.b5, ol, ol, N.o1, N.c1, N.c2, N.c3, oh, oh, N.o1, N.e1, N.e2, N.e3, tm, N.ke, N.lt, wakes_c, trivial⟩ rfl rfl
      · have tx : (z == 0) = false := by simp [hx]
        exact runF_pure mix (nea_z4 n d g m x y z j s u1 u2 u3 (((2 * (H : Int) - 1) * (2 * (H : Int) - 1) * (B : Int) - (A : Int)).sign) (((A : Int) - (2 * (H : Int) + 1) * (2 * (H : Int) + 1) * (B : Int)).sign) (nz 1) (nz 4) (nz n) (nz n) (nz g) (nz g) (nz m) (nz m) (nz z) (nz z) (nz 4) (nz (4 * n)) (nz (4 * n * n)) (nz (4 * n * n * g)) (nz (4 * n * n * g * g)) (nz (4 * n * n * g * g * m)) (nz (4 * n * n * g * g * m * m)) (nz (4 * n * n * g * g * m * m * z)) (nz (A : Int)) (nz 1) (nz d) (nz d) (nz s) (nz s) (nz s) (nz d) (nz (d * d)) (nz (d * d * s)) (nz (d * d * s * s)) (nz (B : Int)) (nz 1) (nz (2 * (H : Int) - 1)) (nz (2 * (H : Int) - 1)) (nz (2 * (H : Int) - 1)) (nz ((2 * (H : Int) - 1) * (2 * (H : Int) - 1))) (nz ((2 * (H : Int) - 1) * (2 * (H : Int) - 1) * (B : Int))) (nz 1) (nz (2 * (H : Int) + 1)) (nz (2 * (H : Int) + 1)) (nz (2 * (H : Int) + 1)) (nz ((2 * (H : Int) + 1) * (2 * (H : Int) + 1))) (nz ((2 * (H : Int) + 1) * (2 * (H : Int) + 1) * (B : Int)))) ⟨hm, hmod, P0, sq, ts, t1, t2, tu, tn, tx, N.o4, N.on, N.on, N.og, N.og, N.om, N.om, N.ox, N.ox, N.o1, N.a1, N.a2, N.a3, N.a4, N.a5, N.a6, N.a7, N.a8, N.a9, N.od, N.od, N.os, N.os, N.os, N.o1, N.b1, N.b2, N.b3, N.b4, N.b5, ol, ol, N.o1, N.c1, N.c2, N.c3, oh, oh, N.o1, N.e1, N.e2, N.e3, tm, N.ke, N.lt, wakes_c, trivial⟩ rfl rfl
  · have H0 : 0 < H := by omega
    have tm : decide (0 < mxI u3 (wi (0 - u3))) = true := by rw [emx]; exact decide_eq_true (by omega)
    have tu : (u3 != 0) = true := by simp [h0]
    obtain ⟨hn, hx, hs⟩ := sg h0
    have tn : (n == 0) = false := by simp [hn]
    have tx : (z == 0) = false := by simp [hx]
    have tsg : (!(decide (0 < u3) == (decide (0 < n) == decide (0 < z)))) = false := by rw [hs]; simp
    exact runF_pure mix (nea_k4 n d g m x y z j s u1 u2 u3 (((2 * (H : Int) - 1) * (2 * (H : Int) - 1) * (B : Int) - (A : Int)).sign) (((A : Int) - (2 * (H : Int) + 1) * (2 * (H : Int) + 1) * (B : Int)).sign) (nz 1) (nz 4) (nz n) (nz n) (nz g) (nz g) (nz m) (nz m) (nz z) (nz z) (nz 4) (nz (4 * n)) (nz (4 * n * n)) (nz (4 * n * n * g)) (nz (4 * n * n * g * g)) (nz (4 * n * n * g * g * m)) (nz (4 * n * n * g * g * m * m)) (nz (4 * n * n * g * g * m * m * z)) (nz (A : Int)) (nz 1) (nz d) (nz d) (nz s) (nz s) (nz s) (nz d) (nz (d * d)) (nz (d * d * s)) (nz (d * d * s * s)) (nz (B : Int)) (nz 1) (nz (2 * (H : Int) - 1)) (nz (2 * (H : Int) - 1)) (nz (2 * (H : Int) - 1)) (nz ((2 * (H : Int) - 1) * (2 * (H : Int) - 1))) (nz ((2 * (H : Int) - 1) * (2 * (H : Int) - 1) * (B : Int))) (nz 1) (nz (2 * (H : Int) + 1)) (nz (2 * (H : Int) + 1)) (nz (2 * (H : Int) + 1)) (nz ((2 * (H : Int) + 1) * (2 * (H : Int) + 1))) (nz ((2 * (H : Int) + 1) * (2 * (H : Int) + 1) * (B : Int)))) ⟨hm, hmod, P0, sq, ts, t1, t2, tu, tsg, tn, tx, N.o4, N.on, N.on, N.og, N.og, N.om, N.om, N.ox, N.ox, N.o1, N.a1, N.a2, N.a3, N.a4, N.a5, N.a6, N.a7, N.a8, N.a9, N.od, N.od, N.os, N.os, N.os, N.o1, N.b1, N.b2, N.b3, N.b4, N.b5, ol, ol, N.o1, N.c1, N.c2, N.c3, oh, oh, N.o1, N.e1, N.e2, N.e3, tm, N.kc, N.le (by omega), N.ke, N.lt, wakes_c, trivial⟩ rfl rfl
theorem tmod3 (j : Int) : Int.tmod j 3 = -2 ∨ Int.tmod j 3 = -1 ∨ Int.tmod j 3 = 0 ∨ Int.tmod j 3 = 1 ∨ Int.tmod j 3 = 2 := by
  have h := Int.natAbs_tmod j 3
  have h1 := Nat.mod_lt j.natAbs (show 0 < (3 : Int).natAbs by decide)
  have h2 : (3 : Int).natAbs = 3 := rfl
  omega
theorem nearest_walk (n d g m x y z j : Int) : PureX Tryd.prog 3 #[ii n, ii d, ii g, ii m, vc x y z, ii j] (rt (bb true)) := by
  by_cases h : okP n d g m x y z
  · rcases tmod3 j with hj | hj | hj | hj | hj
    · exact near_0 h hj
    · exact near_1 h hj
    · exact near_2 h hj
    · exact near_3 h hj
    · exact near_4 h hj
  · exact runF_pure mix (nea_no n d g m x y z j) ⟨may_f h, wakes_c, trivial⟩ rfl rfl

end Go.Proofs.YtcmfgabhgodlaaaDoor
