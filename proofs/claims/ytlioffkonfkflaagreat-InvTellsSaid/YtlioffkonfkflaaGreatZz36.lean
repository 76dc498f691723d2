/- Texts of the seat, joined. -/
import Derived.Test.YtlioffkonfkflaaGreatZz32
import Derived.Test.YtlioffkonfkflaaGreatZz33
import Derived.Test.YtlioffkonfkflaaGreatZz34
import Derived.Test.YtlioffkonfkflaaGreatZz35
/- The document's intervals that are divided, and their roots. -/
namespace Go.Proofs.YtlioffkonfkflaaGreat
open Go Go.RowKit
set_option linter.unusedSimpArgs false
set_option linter.unusedVariables false
set_option maxRecDepth 100000

theorem quo_all : ∀ (ng b1 c1 b2 c2 b3 c3 : Bool), QuoS ng b1 c1 b2 c2 b3 c3 := by
  intro ng b1 c1 b2 c2 b3 c3
  cases ng <;> cases b1 <;> cases c1 <;> cases b2 <;> cases c2 <;> cases b3 <;> cases c3
  · exact quo_fffffff
  · exact quo_fffffft
  · exact quo_ffffftf
  · exact quo_ffffftt
  · exact quo_fffftff
  · exact quo_fffftft
  · exact quo_ffffttf
  · exact quo_ffffttt
  · exact quo_ffftfff
  · exact quo_ffftfft
  · exact quo_ffftftf
  · exact quo_ffftftt
  · exact quo_fffttff
  · exact quo_fffttft
  · exact quo_ffftttf
  · exact quo_ffftttt
  · exact quo_fftffff
  · exact quo_fftffft
  · exact quo_fftfftf
  · exact quo_fftfftt
  · exact quo_fftftff
  · exact quo_fftftft
  · exact quo_fftfttf
  · exact quo_fftfttt
  · exact quo_ffttfff
  · exact quo_ffttfft
  · exact quo_ffttftf
  · exact quo_ffttftt
  · exact quo_fftttff
  · exact quo_fftttft
  · exact quo_ffttttf
  · exact quo_ffttttt
  · exact quo_ftfffff
  · exact quo_ftfffft
  · exact quo_ftffftf
  · exact quo_ftffftt
  · exact quo_ftfftff
  · exact quo_ftfftft
  · exact quo_ftffttf
  · exact quo_ftffttt
  · exact quo_ftftfff
  · exact quo_ftftfft
  · exact quo_ftftftf
  · exact quo_ftftftt
  · exact quo_ftfttff
  · exact quo_ftfttft
  · exact quo_ftftttf
  · exact quo_ftftttt
  · exact quo_fttffff
  · exact quo_fttffft
  · exact quo_fttfftf
  · exact quo_fttfftt
  · exact quo_fttftff
  · exact quo_fttftft
  · exact quo_fttfttf
  · exact quo_fttfttt
  · exact quo_ftttfff
  · exact quo_ftttfft
  · exact quo_ftttftf
  · exact quo_ftttftt
  · exact quo_fttttff
  · exact quo_fttttft
  · exact quo_ftttttf
  · exact quo_ftttttt
  · exact quo_tffffff
  · exact quo_tffffft
  · exact quo_tfffftf
  · exact quo_tfffftt
  · exact quo_tffftff
  · exact quo_tffftft
  · exact quo_tfffttf
  · exact quo_tfffttt
  · exact quo_tfftfff
  · exact quo_tfftfft
  · exact quo_tfftftf
  · exact quo_tfftftt
  · exact quo_tffttff
  · exact quo_tffttft
  · exact quo_tfftttf
  · exact quo_tfftttt
  · exact quo_tftffff
  · exact quo_tftffft
  · exact quo_tftfftf
  · exact quo_tftfftt
  · exact quo_tftftff
  · exact quo_tftftft
  · exact quo_tftfttf
  · exact quo_tftfttt
  · exact quo_tfttfff
  · exact quo_tfttfft
  · exact quo_tfttftf
  · exact quo_tfttftt
  · exact quo_tftttff
  · exact quo_tftttft
  · exact quo_tfttttf
  · exact quo_tfttttt
  · exact quo_ttfffff
  · exact quo_ttfffft
  · exact quo_ttffftf
  · exact quo_ttffftt
  · exact quo_ttfftff
  · exact quo_ttfftft
  · exact quo_ttffttf
  · exact quo_ttffttt
  · exact quo_ttftfff
  · exact quo_ttftfft
  · exact quo_ttftftf
  · exact quo_ttftftt
  · exact quo_ttfttff
  · exact quo_ttfttft
  · exact quo_ttftttf
  · exact quo_ttftttt
  · exact quo_tttffff
  · exact quo_tttffft
  · exact quo_tttfftf
  · exact quo_tttfftt
  · exact quo_tttftff
  · exact quo_tttftft
  · exact quo_tttfttf
  · exact quo_tttfttt
  · exact quo_ttttfff
  · exact quo_ttttfft
  · exact quo_ttttftf
  · exact quo_ttttftt
  · exact quo_tttttff
  · exact quo_tttttft
  · exact quo_ttttttf
  · exact quo_ttttttt
theorem pk_mn (a b : Int) : wv (pk (decide (b < a)) (nz b) (nz a)) = wz (mnI a b) := by
  unfold mnI
  by_cases h : b < a
  · rw [decide_eq_true h, if_pos h]; rfl
  · rw [decide_eq_false h, if_neg h]; rfl
theorem pk_mx (a b : Int) : wv (pk (decide (a < b)) (nz b) (nz a)) = wz (mxI a b) := by
  unfold mxI
  by_cases h : a < b
  · rw [decide_eq_true h, if_pos h]; rfl
  · rw [decide_eq_false h, if_neg h]; rfl
theorem pk_mn' (a b : Int) : pk (decide (b < a)) (nz b) (nz a) = nz (mnI a b) := by
  unfold mnI
  by_cases h : b < a
  · rw [decide_eq_true h, if_pos h]; rfl
  · rw [decide_eq_false h, if_neg h]; rfl
theorem pk_mx' (a b : Int) : pk (decide (a < b)) (nz b) (nz a) = nz (mxI a b) := by
  unfold mxI
  by_cases h : a < b
  · rw [decide_eq_true h, if_pos h]; rfl
  · rw [decide_eq_false h, if_neg h]; rfl
theorem one_R {x : Int} (hx : isI x) : inR (x * 1073741824) ∧ x * 1073741824 ≠ lst := by
  unfold isI at hx; unfold inR lst; omega
theorem mnI_R {a b : Int} (h1 : inR a) (h2 : inR b) : inR (mnI a b) := mnI_p h1 h2
theorem mxI_R {a b : Int} (h1 : inR a) (h2 : inR b) : inR (mxI a b) := by unfold mxI; split <;> assumption
theorem dquot_v (x y : IV) : PureX Tryz.prog 43 #[ivv x, ivv y] (rt (ivv (quotV x y))) := by
  have hf := rfine_v2 1003 x y
  cases hk : okV x && okV y
  · rw [hk] at hf
    rw [show quotV x y = bdV from if_neg (fun h => by rw [h.1, h.2.1] at hk; cases hk)]
    exact runB_pure mix (dqu_f _ _ _ _ _ _) ⟨hf, trivial⟩ rfl rfl
  rw [hk] at hf
  rw [Bool.and_eq_true] at hk
  obtain ⟨hx, hy⟩ := hk
  by_cases h0 : y.1 ≤ 0 ∧ 0 ≤ y.2.1
  · rw [show quotV x y = bdV from if_neg (fun h => h.2.2 h0)]
    exact runB_pure mix (dqu_z _ _ _ _ _ _) ⟨hf, decide_eq_true h0.1, decide_eq_true h0.2, trivial⟩ rfl rfl
  rw [show quotV x y = mkV (qlo x y) (qhi x y) from if_pos ⟨hx, hy, h0⟩]
  have kx := okV_iff.1 hx
  have ky := okV_iff.1 hy
  have i1 := ok_isI hx (Int.le_refl _) kx.2.2.1
  have i2 := ok_isI hx kx.2.2.1 (Int.le_refl _)
  have j1 := ok_isI hy (Int.le_refl _) ky.2.2.1
  have j2 := ok_isI hy ky.2.2.1 (Int.le_refl _)
  have n1 : y.1 ≠ 0 := by omega
  have n2 : y.2.1 ≠ 0 := by omega
  have lj : ∀ {z : Int}, isI z → z ≠ lst := fun h => by unfold isI at h; unfold lst; omega
  have key : ∀ {u v : Int}, isI u → isI v → v ≠ 0 → (PureX Tryz.prog 85 #[wz (u * 1073741824), wz v] (rt (tp [wz (flI (u * 1073741824) v), ii 0]))) ∧ (PureX Tryz.prog 86 #[wz (u * 1073741824), wz v] (rt (tp [wz (ceI (u * 1073741824) v), ii 0]))) ∧ inR (flI (u * 1073741824) v) ∧ inR (ceI (u * 1073741824) v) := by
    intro u v hu hv hv0
    obtain ⟨r1, r2⟩ := one_R hu
    have fi := flI_in r1 r2 hv0
    exact ⟨dFloor_z plain_ok r1 (isI_R hv) r2 (lj hv) hv0, dCeil_z plain_ok r1 (isI_R hv) r2 (lj hv) hv0 fi, fi, ceI_in r1 r2 hv0⟩
  obtain ⟨F0, C0, f0, c0⟩ := key i1 j1 n1
  obtain ⟨F1, C1, f1, c1⟩ := key i1 j2 n2
  obtain ⟨F2, C2, f2, c2⟩ := key i2 j1 n1
  obtain ⟨F3, C3, f3, c3⟩ := key i2 j2 n2
  unfold qlo qhi mn4I mx4I
  generalize flI (x.1 * 1073741824) y.1 = u0 at *
  generalize flI (x.1 * 1073741824) y.2.1 = u1 at *
  generalize flI (x.2.1 * 1073741824) y.1 = u2 at *
  generalize flI (x.2.1 * 1073741824) y.2.1 = u3 at *
  generalize ceI (x.1 * 1073741824) y.1 = v0 at *
  generalize ceI (x.1 * 1073741824) y.2.1 = v1 at *
  generalize ceI (x.2.1 * 1073741824) y.1 = v2 at *
  generalize ceI (x.2.1 * 1073741824) y.2.1 = v3 at *
  have m1 := mnI_R f0 f1
  have m2 := mnI_R m1 f2
  have m3 := mnI_R m2 f3
  have M1 := mxI_R c0 c1
  have M2 := mxI_R M1 c2
  have M3 := mxI_R M2 c3
  have r := quo_all (decide (y.1 ≤ 0)) (decide (u1 < u0)) (decide (v0 < v1)) (decide (u2 < mnI u0 u1)) (decide (mxI v0 v1 < v2)) (decide (u3 < mnI (mnI u0 u1) u2)) (decide (mxI (mxI v0 v1) v2 < v3))
    x.1 x.2.1 x.2.2 y.1 y.2.1 y.2.2
    (nz (x.1 * 1073741824)) (nz y.1) (nz u0) (nz (x.1 * 1073741824)) (nz y.1) (nz v0)
    (nz (x.1 * 1073741824)) (nz y.2.1) (nz u1) (nz (x.1 * 1073741824)) (nz y.2.1) (nz v1)
    (nz (x.2.1 * 1073741824)) (nz y.1) (nz u2) (nz (x.2.1 * 1073741824)) (nz y.1) (nz v2)
    (nz (x.2.1 * 1073741824)) (nz y.2.1) (nz u3) (nz (x.2.1 * 1073741824)) (nz y.2.1) (nz v3)
    (u1 - u0).sign (v1 - v0).sign (u2 - mnI u0 u1).sign (v2 - mxI v0 v1).sign (u3 - mnI (mnI u0 u1) u2).sign (v3 - mxI (mxI v0 v1) v2).sign
    (mkV (mnI (mnI (mnI u0 u1) u2) u3) (mxI (mxI (mxI v0 v1) v2) v3))
  rw [pk_mn', pk_mn', pk_mn', pk_mx', pk_mx', pk_mx'] at r
  have sg : AllP (sgQ (decide (y.1 ≤ 0)) y.1 y.2.1) := by
    by_cases hs : y.1 ≤ 0
    · rw [decide_eq_true hs]
      exact ⟨decide_eq_true hs, decide_eq_false (fun h => h0 ⟨hs, h⟩), trivial⟩
    · rw [decide_eq_false hs]
      exact ⟨decide_eq_false hs, trivial⟩
  have o := fun {z : Int} (h : isI z) => rof_z h.1 h.2
  exact runB_pure mix r ⟨hf, (allP_append _ _).2 ⟨sg, ones_v i1, o j1, F0, ones_v i1, o j1, C0,
    ones_v i1, o j2, F1, ones_v i1, o j2, C1, rcmp_z f1 f0, sg_lt, rcmp_z c1 c0, sg_gt,
    ones_v i2, o j1, F2, ones_v i2, o j1, C2, rcmp_z f2 m1, sg_lt, rcmp_z c2 M1, sg_gt,
    ones_v i2, o j2, F3, ones_v i2, o j2, C3, rcmp_z f3 m2, sg_lt, rcmp_z c3 M2, sg_gt, made_v m3 M3, trivial⟩⟩ rfl rfl

end Go.Proofs.YtlioffkonfkflaaGreat

/- The document's inverse, square, root, cube, sign of an interval; the law that tells them. -/
namespace Go.Proofs.YtlioffkonfkflaaGreat
open Go Go.RowKit
set_option linter.unusedSimpArgs false
set_option linter.unusedVariables false
set_option maxRecDepth 100000

section
variable (l h : Int) (p : Bool) (a b c d e g x y z w : Nat) (o1 o2 : Bool) (u v r : IV)
theorem din_raw  : runB Tryz.prog 45 #[iv l h p] [] [] [(15, rt (ivv u)), (43, rt (ivv r))] [] =
    some (rt (ivv r), [], [PureX Tryz.prog 15 #[ii 1] (rt (ivv u)), PureX Tryz.prog 43 #[ivv u, iv l h p] (rt (ivv r))]) := by kernel_rfl
theorem dsq_f  : runB Tryz.prog 47 #[iv l h p] [] [] [] [(13, rt (bb false), [(1002, oiv [(l, h, p)])])] =
    some (rt (iv 0 0 true), [], [CallsV Tryz.prog (.func 13) #[sl 1002 1] [(1002, oiv [(l, h, p)])] (rt (bb false)) [(1002, oiv [(l, h, p)])]]) := by kernel_rfl
theorem dsq_t  : runB Tryz.prog 47 #[iv l h p] [] [] [(84, rt (wv a)), (84, rt (wv b)), (83, rt (tp [wv x, bb o1])), (84, rt (wv c)), (84, rt (wv d)), (83, rt (tp [wv y, bb o2])), (84, rt (wv e)), (85, rt (tp [wv z, ii 0])), (84, rt (wv g)), (86, rt (tp [wv w, ii 0])), (96, rt (ivv r))] [(13, rt (bb true), [(1002, oiv [(l, h, p)])])] =
    some (rt (ivv r), [], [CallsV Tryz.prog (.func 13) #[sl 1002 1] [(1002, oiv [(l, h, p)])] (rt (bb true)) [(1002, oiv [(l, h, p)])], PureX Tryz.prog 84 #[ii (mxI (mxI l (IntKind.i64.wrap (0 - h))) 0)] (rt (wv a)), PureX Tryz.prog 84 #[ii (mxI (mxI l (IntKind.i64.wrap (0 - h))) 0)] (rt (wv b)), PureX Tryz.prog 83 #[wv a, wv b] (rt (tp [wv x, bb o1])), PureX Tryz.prog 84 #[ii (mxI h (IntKind.i64.wrap (0 - l)))] (rt (wv c)), PureX Tryz.prog 84 #[ii (mxI h (IntKind.i64.wrap (0 - l)))] (rt (wv d)), PureX Tryz.prog 83 #[wv c, wv d] (rt (tp [wv y, bb o2])), PureX Tryz.prog 84 #[ii 1073741824] (rt (wv e)), PureX Tryz.prog 85 #[wv x, wv e] (rt (tp [wv z, ii 0])), PureX Tryz.prog 84 #[ii 1073741824] (rt (wv g)), PureX Tryz.prog 86 #[wv y, wv g] (rt (tp [wv w, ii 0])), PureX Tryz.prog 96 #[wv z, wv w, ii 0, ii 0] (rt (ivv r))]) := by kernel_rfl
theorem dro_f  : runB Tryz.prog 49 #[iv l h p] [] [] [] [(13, rt (bb false), [(1002, oiv [(l, h, p)])])] =
    some (rt (iv 0 0 true), [], [CallsV Tryz.prog (.func 13) #[sl 1002 1] [(1002, oiv [(l, h, p)])] (rt (bb false)) [(1002, oiv [(l, h, p)])]]) := by kernel_rfl
theorem dro_n  : runB Tryz.prog 49 #[iv l h p] [] [n, n, n, t, n, n] [] [(13, rt (bb true), [(1002, oiv [(l, h, p)])])] =
    some (rt (iv 0 0 true), [], [CallsV Tryz.prog (.func 13) #[sl 1002 1] [(1002, oiv [(l, h, p)])] (rt (bb true)) [(1002, oiv [(l, h, p)])], decide (l < 0) = true]) := by kernel_rfl
theorem dro_t  : runB Tryz.prog 49 #[iv l h p] [] [n, n, n, f] [(94, rt (wv x)), (105, rt (tp [wv y, ii 0])), (94, rt (wv z)), (106, rt (tp [wv w, ii 0])), (96, rt (ivv r))] [(13, rt (bb true), [(1002, oiv [(l, h, p)])])] =
    some (rt (ivv r), [], [CallsV Tryz.prog (.func 13) #[sl 1002 1] [(1002, oiv [(l, h, p)])] (rt (bb true)) [(1002, oiv [(l, h, p)])], decide (l < 0) = false, PureX Tryz.prog 94 #[ii l] (rt (wv x)), PureX Tryz.prog 105 #[wv x] (rt (tp [wv y, ii 0])), PureX Tryz.prog 94 #[ii h] (rt (wv z)), PureX Tryz.prog 106 #[wv z] (rt (tp [wv w, ii 0])), PureX Tryz.prog 96 #[wv y, wv w, ii 0, ii 0] (rt (ivv r))]) := by kernel_rfl
theorem dcu_f  : runB Tryz.prog 51 #[iv l h p] [] [] [] [(13, rt (bb false), [(1002, oiv [(l, h, p)])])] =
    some (rt (iv 0 0 true), [], [CallsV Tryz.prog (.func 13) #[sl 1002 1] [(1002, oiv [(l, h, p)])] (rt (bb false)) [(1002, oiv [(l, h, p)])]]) := by kernel_rfl
theorem dcu_n  : runB Tryz.prog 51 #[iv l h p] [] [n, n, n, t] [] [(13, rt (bb true), [(1002, oiv [(l, h, p)])])] =
    some (rt (iv 0 0 true), [], [CallsV Tryz.prog (.func 13) #[sl 1002 1] [(1002, oiv [(l, h, p)])] (rt (bb true)) [(1002, oiv [(l, h, p)])], decide (l ≤ 0) = true]) := by kernel_rfl
theorem dcu_t  : runB Tryz.prog 51 #[iv l h p] [] [n, n, n, f] [(49, rt (ivv u)), (31, rt (ivv v)), (45, rt (ivv r))] [(13, rt (bb true), [(1002, oiv [(l, h, p)])])] =
    some (rt (ivv r), [], [CallsV Tryz.prog (.func 13) #[sl 1002 1] [(1002, oiv [(l, h, p)])] (rt (bb true)) [(1002, oiv [(l, h, p)])], decide (l ≤ 0) = false, PureX Tryz.prog 49 #[iv l h p] (rt (ivv u)), PureX Tryz.prog 31 #[iv l h p, ivv u] (rt (ivv v)), PureX Tryz.prog 45 #[ivv v] (rt (ivv r))]) := by kernel_rfl
theorem dsi_f  : runB Tryz.prog 41 #[iv l h p] [] [] [] [(13, rt (bb false), [(1001, oiv [(l, h, p)])])] =
    some (rt (tp [ii 0, bb false]), [], [CallsV Tryz.prog (.func 13) #[sl 1001 1] [(1001, oiv [(l, h, p)])] (rt (bb false)) [(1001, oiv [(l, h, p)])]]) := by kernel_rfl
theorem dsi_1  : runB Tryz.prog 41 #[iv l h p] [] [n, t, n] [] [(13, rt (bb true), [(1001, oiv [(l, h, p)])])] =
    some (rt (tp [ii 1, bb true]), [], [CallsV Tryz.prog (.func 13) #[sl 1001 1] [(1001, oiv [(l, h, p)])] (rt (bb true)) [(1001, oiv [(l, h, p)])], decide (0 < l) = true]) := by kernel_rfl
theorem dsi_2  : runB Tryz.prog 41 #[iv l h p] [] [n, f, t, n] [] [(13, rt (bb true), [(1001, oiv [(l, h, p)])])] =
    some (rt (tp [ii (-1), bb true]), [], [CallsV Tryz.prog (.func 13) #[sl 1001 1] [(1001, oiv [(l, h, p)])] (rt (bb true)) [(1001, oiv [(l, h, p)])], decide (0 < l) = false, decide (h < 0) = true]) := by kernel_rfl
theorem dsi_3  : runB Tryz.prog 41 #[iv l h p] [] [n, f, f, t, n] [] [(13, rt (bb true), [(1001, oiv [(l, h, p)])])] =
    some (rt (tp [ii 0, bb (h == 0)]), [], [CallsV Tryz.prog (.func 13) #[sl 1001 1] [(1001, oiv [(l, h, p)])] (rt (bb true)) [(1001, oiv [(l, h, p)])], decide (0 < l) = false, decide (h < 0) = false, (l == 0) = true]) := by kernel_rfl
theorem dsi_4  : runB Tryz.prog 41 #[iv l h p] [] [n, f, f, f, n] [] [(13, rt (bb true), [(1001, oiv [(l, h, p)])])] =
    some (rt (tp [ii 0, bb false]), [], [CallsV Tryz.prog (.func 13) #[sl 1001 1] [(1001, oiv [(l, h, p)])] (rt (bb true)) [(1001, oiv [(l, h, p)])], decide (0 < l) = false, decide (h < 0) = false, (l == 0) = false]) := by kernel_rfl
end
theorem l5_raw (x y r0 r1 r2 r3 r4 : IV) (m : Int) (o : Bool) : runB Tryz.prog 5 #[ivv x, ivv y] [] [t, n, n, n, n, t, n, n, n, n, t, n, n, n, n, t, n, n, n, n, t, n, n, t, n, n, t] [(40, rt (tp [ii m, bb o])), (41, rt (tp [ii m, bb o])), (42, rt (ivv r0)), (43, rt (ivv r0)), (44, rt (ivv r1)), (45, rt (ivv r1)), (46, rt (ivv r2)), (47, rt (ivv r2)), (48, rt (ivv r3)), (49, rt (ivv r3)), (50, rt (ivv r4)), (51, rt (ivv r4)), (52, rt (bb true))] [] =
    some (rt (bb true), [], [PureX Tryz.prog 40 #[ivv x] (rt (tp [ii m, bb o])), PureX Tryz.prog 41 #[ivv x] (rt (tp [ii m, bb o])), PureX Tryz.prog 42 #[ivv x, ivv y] (rt (ivv r0)), PureX Tryz.prog 43 #[ivv x, ivv y] (rt (ivv r0)), ((r0.1 == r0.1) && ((r0.2.1 == r0.2.1) && ((r0.2.2 == r0.2.2) && true))) = true, PureX Tryz.prog 44 #[ivv x] (rt (ivv r1)), PureX Tryz.prog 45 #[ivv x] (rt (ivv r1)), ((r1.1 == r1.1) && ((r1.2.1 == r1.2.1) && ((r1.2.2 == r1.2.2) && true))) = true, PureX Tryz.prog 46 #[ivv x] (rt (ivv r2)), PureX Tryz.prog 47 #[ivv x] (rt (ivv r2)), ((r2.1 == r2.1) && ((r2.2.1 == r2.2.1) && ((r2.2.2 == r2.2.2) && true))) = true, PureX Tryz.prog 48 #[ivv x] (rt (ivv r3)), PureX Tryz.prog 49 #[ivv x] (rt (ivv r3)), ((r3.1 == r3.1) && ((r3.2.1 == r3.2.1) && ((r3.2.2 == r3.2.2) && true))) = true, PureX Tryz.prog 50 #[ivv x] (rt (ivv r4)), PureX Tryz.prog 51 #[ivv x] (rt (ivv r4)), ((r4.1 == r4.1) && ((r4.2.1 == r4.2.1) && ((r4.2.2 == r4.2.2) && true))) = true, (m == m) = true, (o == o) = true, PureX Tryz.prog 52 #[] (rt (bb true))]) := by kernel_rfl
theorem dinv_v (x : IV) : PureX Tryz.prog 45 #[ivv x] (rt (ivv (quotV (1073741824, 1073741824, false) x))) :=
  runB_pure mix (din_raw _ _ _ (1073741824, 1073741824, false) _) ⟨runB_pure mix rof_1 trivial rfl rfl, dquot_v _ _, trivial⟩ rfl rfl
theorem dsquare_v (x : IV) : PureX Tryz.prog 47 #[ivv x] (rt (ivv (squareV x))) := by
  have hf := rfine_v1 1002 x
  cases hk : okV x
  · rw [hk] at hf
    rw [show squareV x = bdV from if_neg (by rw [hk]; decide)]
    exact runB_pure mix (dsq_f _ _ _) ⟨hf, trivial⟩ rfl rfl
  rw [hk] at hf
  rw [square_ends hk]
  have a := okV_iff.1 hk
  have nf := near_far hk (Int.le_refl _) a.2.2.1
  have e1 : mxI (mxI x.1 (IntKind.i64.wrap (0 - x.2.1))) 0 = nearI x := by
    unfold nearI
    rw [wrapI (by omega), Int.zero_sub]
  have e2 : mxI x.2.1 (IntKind.i64.wrap (0 - x.1)) = farI x := by
    unfold farI
    rw [wrapI (by omega), Int.zero_sub]
  have r := dsq_t x.1 x.2.1 x.2.2 (nz (nearI x)) (nz (nearI x)) (nz (farI x)) (nz (farI x)) (nz 1073741824) (nz 1073741824) (nz (nearI x * nearI x)) (nz (farI x * farI x)) (nz (flI (nearI x * nearI x) 1073741824)) (nz (ceI (farI x * farI x) 1073741824)) (decide (¬ inR (nearI x * nearI x))) (decide (¬ inR (farI x * farI x))) (mkV (flI (nearI x * nearI x) 1073741824) (ceI (farI x * farI x) 1073741824))
  rw [e1, e2] at r
  have i1 : isI (nearI x) := by unfold isI; omega
  have i2 : isI (farI x) := by unfold isI; omega
  have r1 := mul_R i1 i1
  have r2 := mul_R i2 i2
  have g1 : 0 ≤ nearI x * nearI x := Int.mul_nonneg nf.1 nf.1
  have g2 : 0 ≤ farI x * farI x := Int.mul_nonneg (by omega) (by omega)
  have q1 : nearI x * nearI x ≠ lst := by unfold lst; omega
  have q2 : farI x * farI x ≠ lst := by unfold lst; omega
  have qo : (1073741824 : Int) ≠ lst := by unfold lst; decide
  have O := rof_z isI_One.1 isI_One.2
  have fr := flI_in r2 q2 (show (1073741824 : Int) ≠ 0 by decide)
  exact runB_pure mix r ⟨hf, rof_z i1.1 i1.2, rof_z i1.1 i1.2, rmul_z (isI_R i1) (isI_R i1), rof_z i2.1 i2.2, rof_z i2.1 i2.2, rmul_z (isI_R i2) (isI_R i2), O, dFloor_z plain_ok r1 (isI_R isI_One) q1 qo (by decide), O, dCeil_z plain_ok r2 (isI_R isI_One) q2 qo (by decide) fr, made_v (flI_in r1 q1 (by decide)) (ceI_in r2 q2 (by decide)), trivial⟩ rfl rfl
theorem droot_v (x : IV) : PureX Tryz.prog 49 #[ivv x] (rt (ivv (rootV x))) := by
  have hf := rfine_v1 1002 x
  cases hk : okV x
  · rw [hk] at hf
    rw [root_bad (fun h => by rw [hk] at h; cases h.1)]
    exact runB_pure mix (dro_f _ _ _) ⟨hf, trivial⟩ rfl rfl
  rw [hk] at hf
  by_cases h0 : 0 ≤ x.1
  · have a := okV_iff.1 hk
    have i1 := ok_isI hk (Int.le_refl _) a.2.2.1
    have i2 := ok_isI hk a.2.2.1 (Int.le_refl _)
    have e1 : x.1 * 1073741824 = ((x.1 * 1073741824).toNat : Int) := by omega
    have e2 : x.2.1 * 1073741824 = ((x.2.1 * 1073741824).toNat : Int) := by omega
    have o1 := ones_v i1
    have o2 := ones_v i2
    rw [e1] at o1
    rw [e2] at o2
    have b1 : (x.1 * 1073741824).toNat < 57896044618658097711785492504343953926634992332820282019728792003956564819968 := by omega
    have b2 : (x.2.1 * 1073741824).toNat < 57896044618658097711785492504343953926634992332820282019728792003956564819968 := by omega
    have u1 := isq_in b1
    have u2 := isq_in b2
    have u3 := (upq_ok b2).2.1
    rw [show rootV x = mkV (isq (x.1 * 1073741824).toNat) (upq (x.2.1 * 1073741824).toNat) from if_pos ⟨hk, h0⟩]
    exact runB_pure mix (dro_t _ _ _ _ _ _ _ _) ⟨hf, decide_eq_false (by omega), o1, dfl_z b1, o2, dup_v b2, made_v (inN (by omega)) (inN (by omega)), trivial⟩ rfl rfl
  · rw [root_bad (fun h => h0 h.2)]
    exact runB_pure mix (dro_n _ _ _) ⟨hf, decide_eq_true (by omega), trivial⟩ rfl rfl
theorem cube_no {x : IV} (h : ¬ (okV x = true ∧ 0 < x.1)) : cubeV x = bdV := by
  unfold cubeV
  refine quot_no (fun hq => ?_)
  obtain ⟨-, h2, h3⟩ := hq
  by_cases hx : okV x = true ∧ okV (rootV x) = true
  · have h0 : ¬ (0 < x.1) := fun hh => h ⟨hx.1, hh⟩
    by_cases hr : okV x = true ∧ 0 ≤ x.1
    · have a := okV_iff.1 hx.1
      have hx1 : x.1 = 0 := by omega
      have re := root_ends hx.1 hr.2
      have r0 : (rootV x).1 = 0 := by
        rw [re.1]
        show ((isq (x.1 * 1073741824).toNat : Nat) : Int) = 0
        rw [hx1]
        have := (isq_ok (x := 0) (by decide)).1
        have h4 : isq 0 * isq 0 = 0 := by omega
        have h5 : isq 0 = 0 := by
          rcases Nat.mul_eq_zero.1 h4 with h5 | h5 <;> exact h5
        show ((isq 0 : Nat) : Int) = 0
        rw [h5]; rfl
      rw [mulV_ok hx.1 hx.2] at h2 h3
      have m := mn4_le (a := x.1 * (rootV x).1) (b := x.2.1 * (rootV x).1) (c := x.1 * (rootV x).2.1) (d := x.2.1 * (rootV x).2.1)
      have M := le_mx4 (a := x.1 * (rootV x).1) (b := x.2.1 * (rootV x).1) (c := x.1 * (rootV x).2.1) (d := x.2.1 * (rootV x).2.1)
      generalize mn4I (x.1 * (rootV x).1) (x.2.1 * (rootV x).1) (x.1 * (rootV x).2.1) (x.2.1 * (rootV x).2.1) = mn at *
      generalize mx4I (x.1 * (rootV x).1) (x.2.1 * (rootV x).1) (x.1 * (rootV x).2.1) (x.2.1 * (rootV x).2.1) = mx at *
      rw [hx1, Int.zero_mul] at m M
      have f1 := flI_b (x := mn) (y := 1073741824) (by decide)
      have c1 := ceI_b (x := mx) (y := 1073741824) (by decide)
      unfold outV mkV at h2 h3
      split at h2
      · rename_i hk
        rw [if_pos hk] at h3
        have k := okI_iff.1 hk
        have en : ∀ {z : Int}, -1152921504606846976 ≤ endI z → endI z ≤ 1152921504606846976 → endI z = z := fun {z} h1 h2 => by
          unfold endI at *
          split <;> simp_all
        rw [en k.2.1 (by omega), en (by omega) k.2.2.2] at h3
        refine h3 ⟨?_, ?_⟩
        · show flI mn 1073741824 ≤ 0
          omega
        · show 0 ≤ ceI mx 1073741824
          omega
      · cases h2
    · rw [root_bad hr] at hx
      cases hx.2
  · rw [dmul_no hx] at h2
    cases h2
theorem dcube_v (x : IV) : PureX Tryz.prog 51 #[ivv x] (rt (ivv (cubeV x))) := by
  have hf := rfine_v1 1002 x
  cases hk : okV x
  · rw [hk] at hf
    rw [cube_no (fun h => by rw [hk] at h; cases h.1)]
    exact runB_pure mix (dcu_f _ _ _) ⟨hf, trivial⟩ rfl rfl
  rw [hk] at hf
  by_cases h0 : 0 < x.1
  · exact runB_pure mix (dcu_t _ _ _ _ _ _) ⟨hf, decide_eq_false (by omega), droot_v x, dmul_v plain_ok _ _, dinv_v _, trivial⟩ rfl rfl
  · rw [cube_no (fun h => h0 h.2)]
    exact runB_pure mix (dcu_n _ _ _) ⟨hf, decide_eq_true (by omega), trivial⟩ rfl rfl
theorem dsign_v (x : IV) : PureX Tryz.prog 41 #[ivv x] (rt (tp [ii (signV x).1, bb (signV x).2])) := by
  have hf := rfine_v1 1001 x
  unfold signV
  cases hk : okV x
  · rw [hk] at hf
    rw [if_neg (by decide)]
    exact runB_pure mix (dsi_f _ _ _) ⟨hf, trivial⟩ rfl rfl
  rw [hk] at hf
  rw [if_pos rfl]
  by_cases h1 : 0 < x.1
  · rw [if_pos h1]
    exact runB_pure mix (dsi_1 _ _ _) ⟨hf, decide_eq_true h1, trivial⟩ rfl rfl
  rw [if_neg h1]
  by_cases h2 : x.2.1 < 0
  · rw [if_pos h2]
    exact runB_pure mix (dsi_2 _ _ _) ⟨hf, decide_eq_false h1, decide_eq_true h2, trivial⟩ rfl rfl
  rw [if_neg h2]
  by_cases h3 : x.1 = 0
  · have e : (x.1 == x.2.1) = (x.2.1 == 0) := by
      rw [h3]
      by_cases h4 : x.2.1 = 0
      · rw [h4]
      · rw [beq_eq_false_iff_ne.2 h4, beq_eq_false_iff_ne.2 (fun h => h4 h.symm)]
    rw [e]
    exact runB_pure mix (dsi_3 _ _ _) ⟨hf, decide_eq_false h1, decide_eq_false h2, beq_iff_eq.2 h3, trivial⟩ rfl rfl
  · have e : (x.1 == x.2.1) = false := beq_eq_false_iff_ne.2 (by omega)
    rw [e]
    exact runB_pure mix (dsi_4 _ _ _) ⟨hf, decide_eq_false h1, decide_eq_false h2, beq_eq_false_iff_ne.2 h3, trivial⟩ rfl rfl
theorem eqq (x : IV) : ((x.1 == x.1) && ((x.2.1 == x.2.1) && ((x.2.2 == x.2.2) && true))) = true := by simp
theorem tells6_walk (x y : IV) : PureX Tryz.prog 5 #[ivv x, ivv y] (rt (bb true)) :=
  runB_pure mix (l5_raw x y _ _ _ _ _ _ _) ⟨isign_v x, dsign_v x, quot_v x y, dquot_v x y, eqq _, inv_v x, dinv_v x, eqq _, square_v x, dsquare_v x, eqq _, root_v x, droot_v x, eqq _, cube_v x, dcube_v x, eqq _, beq_self_eq_true _, beq_self_eq_true _, wakes6_c, trivial⟩ rfl rfl

end Go.Proofs.YtlioffkonfkflaaGreat
