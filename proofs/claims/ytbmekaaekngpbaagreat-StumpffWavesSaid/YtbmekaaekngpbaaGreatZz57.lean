/- Texts of the seat, joined. -/
import Derived.Test.YtbmekaaekngpbaaGreatZz48
import Derived.Test.YtbmekaaekngpbaaGreatZz56
/- The laws of ones and of parts, walked. -/
namespace Go.Proofs.YtbmekaaekngpbaaGreat
open Go Go.RowKit
set_option linter.unusedSimpArgs false
set_option linter.unusedVariables false
set_option maxRecDepth 100000

/-- The real series of each number of an interval is held. -/
theorem cS_Hd {k : Nat} (hk : k ≤ 3) {a : IV} (h : holdsV nuV a = true) {x : Rat} (h1 : (a.1 : Rat) ≤ x) (h2 : x ≤ (a.2.1 : Rat)) : Hd (cS k a) (uS k x 14) := by
  have h' := nuV_iff.1 h
  obtain ⟨m1, m2, m3, m4, m5, m6⟩ := midV_in h'.1
  have e := eS_Hd hk (p := midV a) (by omega) (by omega)
  have c := (cS_ok hk h).2 _ e.1
  have r1 : ((a.2.1 - midV a : Int) : Rat) ≤ (rchV a : Rat) := Rat.intCast_le_intCast.2 m5
  have r2 : ((midV a - a.1 : Int) : Rat) ≤ (rchV a : Rat) := Rat.intCast_le_intCast.2 m6
  rw [Rat.intCast_sub] at r1 r2
  have l1 : (-17179869184 : Rat) ≤ (a.1 : Rat) := Rat.intCast_le_intCast.2 h'.2.1
  have l2 : (a.2.1 : Rat) ≤ 17179869184 := Rat.intCast_le_intCast.2 h'.2.2
  have l3 : (a.1 : Rat) ≤ (midV a : Rat) := Rat.intCast_le_intCast.2 m1
  have l4 : (midV a : Rat) ≤ (a.2.1 : Rat) := Rat.intCast_le_intCast.2 m2
  have f := uS_far hk (x := x) (y := (midV a : Rat)) (D := (rchV a : Rat)) (by grind) (by grind) (by grind) (by grind) (by grind) (by grind)
  have g := c ((uS k x 14 - uS k (midV a) 14) / 4) (by grind) (by grind)
  have e2 : uS k (midV a) 14 + 4 * ((uS k x 14 - uS k (midV a) 14) / 4) = uS k x 14 := by grind
  rw [e2] at g
  exact g
theorem cS_mid {k : Nat} (hk : k ≤ 3) {a : IV} (h : holdsV nuV a = true) : Hd (cS k a) (uS k (midV a) 14) ∧ Hd (cS k a) (uS k (midV a) 15) := by
  have h' := nuV_iff.1 h
  obtain ⟨m1, m2, m3, m4, m5, m6⟩ := midV_in h'.1
  have e := eS_Hd hk (p := midV a) (by omega) (by omega)
  have r0 : (0 : Rat) ≤ (rchV a : Rat) := by exact_mod_cast m4
  have c1 := (cS_ok hk h).2 _ e.1 0 (by grind) r0
  have c2 := (cS_ok hk h).2 _ e.2 0 (by grind) r0
  rw [show ∀ v : Rat, v + 4 * 0 = v by intro v; grind] at c1 c2
  exact ⟨c1, c2⟩
theorem Inn_of {a : IV} (h : holdsV nuV a = true) : Inn a 17179869184 := by
  have h' := nuV_iff.1 h
  exact ⟨h'.1, h'.2.1, h'.2.2⟩
theorem holds_one {x : IV} (hx : okV x = true) (h : Hd x 1073741824) : holdsV x o8 = true := by
  unfold Hd at h
  rw [holdsV_iff]
  have e : (1073741824 : Rat) = ((1073741824 : Int) : Rat) := rfl
  rw [e] at h
  exact ⟨hx, by decide, Rat.intCast_le_intCast.1 h.1, Rat.intCast_le_intCast.1 h.2⟩
theorem ones_hold {k : Nat} (hk : k ≤ 1) {a : IV} (h : holdsV nuV a = true) : holdsV (addV (cS k a) (mulV a (cS (k + 2) a))) o8 = true := by
  have h' := nuV_iff.1 h
  obtain ⟨m1, m2, m3, m4, m5, m6⟩ := midV_in h'.1
  have i0 := (cS_ok (k := k) (by omega) h).1
  have i2 := (cS_ok (k := k + 2) (by omega) h).1
  have mi := (mul_Inn (Inn_of h) i2 (D := 4398046511104) (by decide) (by decide)).1
  have ai := (add_Inn i0 mi (by decide)).1
  have v0 := (cS_mid (k := k) (by omega) h).2
  have v2 := (cS_mid (k := k + 2) (by omega) h).1
  have va : Hd a (midV a : Rat) := ⟨Rat.intCast_le_intCast.2 m1, Rat.intCast_le_intCast.2 m2⟩
  have m := mul_Hd h'.1 i2.1 (ok_not mi.1) va v2
  have s := add_Hd i0.1 mi.1 (ok_not ai.1) v0 m
  rw [uS_two hk] at s
  exact holds_one ai.1 s
theorem l4_0 (p r q : Int) : runB Tryz.prog 4 #[ii p, ii r] [] [t, n, n, n, n, n, n] [(18, rt (ii q)), (17, rt (bb true))] [] = some (rt (bb true), [], [PureX Tryz.prog 18 #[ii p, ii 17179869184] (rt (ii q)), decide (r < 0) = true, PureX Tryz.prog 17 #[] (rt (bb true))]) := by kernel_rfl
theorem l4_1 (p r q : Int) : runB Tryz.prog 4 #[ii p, ii r] [] [f, n, t, n, n, n, n] [(18, rt (ii q)), (17, rt (bb true))] [] = some (rt (bb true), [], [PureX Tryz.prog 18 #[ii p, ii 17179869184] (rt (ii q)), decide (r < 0) = false, decide (1073741824 < r) = true, PureX Tryz.prog 17 #[] (rt (bb true))]) := by kernel_rfl
theorem l4_2 (p r q : Int) : runB Tryz.prog 4 #[ii p, ii r] [] [f, n, f, n, t, n, n] [(18, rt (ii q)), (17, rt (bb true))] [] = some (rt (bb true), [], [PureX Tryz.prog 18 #[ii p, ii 17179869184] (rt (ii q)), decide (r < 0) = false, decide (1073741824 < r) = false, decide (q < Int.neg 16106127360) = true, PureX Tryz.prog 17 #[] (rt (bb true))]) := by kernel_rfl
theorem l4_3 (p r q : Int) : runB Tryz.prog 4 #[ii p, ii r] [] [f, n, f, n, f, n, t] [(18, rt (ii q)), (17, rt (bb true))] [] = some (rt (bb true), [], [PureX Tryz.prog 18 #[ii p, ii 17179869184] (rt (ii q)), decide (r < 0) = false, decide (1073741824 < r) = false, decide (q < Int.neg 16106127360) = false, decide (16106127360 < q) = true, PureX Tryz.prog 17 #[] (rt (bb true))]) := by kernel_rfl
theorem l4_raw (p r q : Int) (o x y c0 c1 c2 c3 d0 d1 d2 d3 m1 m2 m3 m4 s1 s2 s3 s4 : IV) : runB Tryz.prog 4 #[ii p, ii r] [] [f, n, f, n, f, n, f, n, n, n, n, n, n, n, n, n, n, n, n, n, n, n] [(18, rt (ii q)), (19, rt (ivv o)), (20, rt (ivv x)), (21, rt (ivv y)), (15, rt (a4 c0 c1 c2 c3)), (24, rt (ivv m1)), (23, rt (ivv s1)), (24, rt (ivv m2)), (23, rt (ivv s2)), (25, rt (bb true)), (25, rt (bb true)), (15, rt (a4 d0 d1 d2 d3)), (24, rt (ivv m3)), (23, rt (ivv s3)), (24, rt (ivv m4)), (23, rt (ivv s4)), (25, rt (bb true)), (25, rt (bb true)), (17, rt (bb true))] [(22, rt (bb true), [(1004, oiv [c0, c1, c2, c3])]), (22, rt (bb true), [(1009, oiv [d0, d1, d2, d3])])] =
    some (rt (bb true), [], [PureX Tryz.prog 18 #[ii p, ii 17179869184] (rt (ii q)), decide (r < 0) = false, decide (1073741824 < r) = false, decide (q < Int.neg 16106127360) = false, decide (16106127360 < q) = false, PureX Tryz.prog 19 #[ii 1] (rt (ivv o)), PureX Tryz.prog 20 #[ii q] (rt (ivv x)), PureX Tryz.prog 21 #[ii (IntKind.i64.wrap (q - r)), ii (IntKind.i64.wrap (q + r))] (rt (ivv y)), PureX Tryz.prog 15 #[ivv x] (rt (a4 c0 c1 c2 c3)), CallsV Tryz.prog (.func 22) #[sl 1004 4] [(1004, oiv [c0, c1, c2, c3])] (rt (bb true)) [(1004, oiv [c0, c1, c2, c3])], PureX Tryz.prog 24 #[ivv x, ivv c2] (rt (ivv m1)), PureX Tryz.prog 23 #[ivv c0, ivv m1] (rt (ivv s1)), PureX Tryz.prog 24 #[ivv x, ivv c3] (rt (ivv m2)), PureX Tryz.prog 23 #[ivv c1, ivv m2] (rt (ivv s2)), PureX Tryz.prog 25 #[ivv s1, ivv o] (rt (bb true)), PureX Tryz.prog 25 #[ivv s2, ivv o] (rt (bb true)), PureX Tryz.prog 15 #[ivv y] (rt (a4 d0 d1 d2 d3)), CallsV Tryz.prog (.func 22) #[sl 1009 4] [(1009, oiv [d0, d1, d2, d3])] (rt (bb true)) [(1009, oiv [d0, d1, d2, d3])], PureX Tryz.prog 24 #[ivv y, ivv d2] (rt (ivv m3)), PureX Tryz.prog 23 #[ivv d0, ivv m3] (rt (ivv s3)), PureX Tryz.prog 24 #[ivv y, ivv d3] (rt (ivv m4)), PureX Tryz.prog 23 #[ivv d1, ivv m4] (rt (ivv s4)), PureX Tryz.prog 25 #[ivv s3, ivv o] (rt (bb true)), PureX Tryz.prog 25 #[ivv s4, ivv o] (rt (bb true)), PureX Tryz.prog 17 #[] (rt (bb true))]) := by kernel_rfl
theorem ones_side {a : IV} (h : holdsV nuV a = true) (B : Nat) :
    CallsV Tryz.prog (.func 22) #[sl B 4] [(B, oiv [cS 0 a, cS 1 a, cS 2 a, cS 3 a])] (rt (bb true)) [(B, oiv [cS 0 a, cS 1 a, cS 2 a, cS 3 a])] ∧
    PureX Tryz.prog 25 #[ivv (addV (cS 0 a) (mulV a (cS 2 a))), ivv o8] (rt (bb true)) ∧ PureX Tryz.prog 25 #[ivv (addV (cS 1 a) (mulV a (cS 3 a))), ivv o8] (rt (bb true)) := by
  have f := rfine_v4 B (cS 0 a) (cS 1 a) (cS 2 a) (cS 3 a)
  rw [(cS_ok (k := 0) (by decide) h).1.1, (cS_ok (k := 1) (by decide) h).1.1, (cS_ok (k := 2) (by decide) h).1.1, (cS_ok (k := 3) (by decide) h).1.1] at f
  have h1 := drholds_v (addV (cS 0 a) (mulV a (cS 2 a))) o8
  have h2 := drholds_v (addV (cS 1 a) (mulV a (cS 3 a))) o8
  rw [ones_hold (k := 0) (by decide) h] at h1
  rw [ones_hold (k := 1) (by decide) h] at h2
  exact ⟨f, h1, h2⟩
theorem make_in {l h : Int} (h1 : -17179869184 ≤ l) (h2 : l ≤ h) (h3 : h ≤ 17179869184) : mkV (mnI l h) (mxI l h) = (l, h, false) ∧ holdsV nuV (l, h, false) = true := by
  have e1 : mnI l h = l := by unfold mnI; split <;> omega
  have e2 : mxI l h = h := by unfold mxI; split <;> omega
  rw [e1, e2]
  exact ⟨mkV_ok (by omega) h2 (by omega), nuV_iff.2 ⟨okV_iff.2 ⟨rfl, by show _ ≤ l; omega, h2, by show h ≤ _; omega⟩, h1, h3⟩⟩
theorem ones8_walk (p r : Int) : PureX Tryz.prog 4 #[ii p, ii r] (rt (bb true)) := by
  have hq := in16_v p
  have iq := in16_in p
  have en : Int.neg 16106127360 = -16106127360 := rfl
  generalize qin16 p = q at *
  by_cases t1 : r < 0
  · exact runB_pure mix (l4_0 p r q) ⟨hq, decide_eq_true t1, wakes8_c, trivial⟩ rfl rfl
  by_cases t2 : 1073741824 < r
  · exact runB_pure mix (l4_1 p r q) ⟨hq, decide_eq_false t1, decide_eq_true t2, wakes8_c, trivial⟩ rfl rfl
  by_cases t3 : q < -16106127360
  · exact runB_pure mix (l4_2 p r q) ⟨hq, decide_eq_false t1, decide_eq_false t2, decide_eq_true (by rw [en]; exact t3), wakes8_c, trivial⟩ rfl rfl
  by_cases t4 : 16106127360 < q
  · exact runB_pure mix (l4_3 p r q) ⟨hq, decide_eq_false t1, decide_eq_false t2, decide_eq_false (by rw [en]; exact t3), decide_eq_true t4, wakes8_c, trivial⟩ rfl rfl
  have hp := rpoint_v q
  have hm := rmake_v (IntKind.i64.wrap (q - r)) (IntKind.i64.wrap (q + r))
  have m := make_in (l := q - r) (h := q + r) (by omega) (by omega) (by omega)
  have px : holdsV nuV (mkV q q) = true := pt_nu.2 (by omega)
  have e1 : IntKind.i64.wrap (q - r) = q - r := by rw [wrapI (by omega)]
  have e2 : IntKind.i64.wrap (q + r) = q + r := by rw [wrapI (by omega)]
  have F := l4_raw p r q o8 (mkV q q) (q - r, q + r, false) (cS 0 (mkV q q)) (cS 1 (mkV q q)) (cS 2 (mkV q q)) (cS 3 (mkV q q)) (cS 0 (q - r, q + r, false)) (cS 1 (q - r, q + r, false)) (cS 2 (q - r, q + r, false)) (cS 3 (q - r, q + r, false)) (mulV (mkV q q) (cS 2 (mkV q q))) (mulV (mkV q q) (cS 3 (mkV q q))) (mulV (q - r, q + r, false) (cS 2 (q - r, q + r, false))) (mulV (q - r, q + r, false) (cS 3 (q - r, q + r, false))) (addV (cS 0 (mkV q q)) (mulV (mkV q q) (cS 2 (mkV q q)))) (addV (cS 1 (mkV q q)) (mulV (mkV q q) (cS 3 (mkV q q)))) (addV (cS 0 (q - r, q + r, false)) (mulV (q - r, q + r, false) (cS 2 (q - r, q + r, false)))) (addV (cS 1 (q - r, q + r, false)) (mulV (q - r, q + r, false) (cS 3 (q - r, q + r, false))))
  rw [e1, e2] at hm F
  rw [m.1] at hm
  have s1 := ones_side px 1004
  have s2 := ones_side m.2 1009
  exact runB_pure mix F ⟨hq, decide_eq_false t1, decide_eq_false t2, decide_eq_false (by rw [en]; exact t3), decide_eq_false t4, rof1_v, hp, hm, all_v _, s1.1, dmul_v plain_ok _ _, radd_v _ _, dmul_v plain_ok _ _, radd_v _ _, s1.2.1, s1.2.2, all_v _, s2.1, dmul_v plain_ok _ _, radd_v _ _, dmul_v plain_ok _ _, radd_v _ _, s2.2.1, s2.2.2, wakes8_c, trivial⟩ rfl rfl
end Go.Proofs.YtbmekaaekngpbaaGreat
