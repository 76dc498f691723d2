/- Texts of the seat, joined. -/
import Derived.Test.YtbmekaaekngpbaaGreatZz48
import Derived.Test.YtbmekaaekngpbaaGreatZz55
import Derived.Test.YtbmekaaekngpbaaGreatZz57
/- The laws of four times a point, and of sine and cosine, walked. -/
namespace Go.Proofs.YtbmekaaekngpbaaGreat
open Go Go.RowKit
set_option linter.unusedSimpArgs false
set_option linter.unusedVariables false
set_option maxRecDepth 100000

theorem l6_8 (p q : Int) (x y a b s s2 o c d e g : IV) : runB Tryz.prog 6 #[ii p] [] [] [(18, rt (ii q)), (20, rt (ivv x)), (20, rt (ivv y)), (13, rt (ivv a)), (13, rt (ivv b)), (26, rt (ivv s)), (23, rt (ivv s2)), (19, rt (ivv o)), (30, rt (ivv c)), (24, rt (ivv d)), (13, rt (ivv e)), (27, rt (bb true)), (13, rt (ivv g)), (27, rt (bb true)), (17, rt (bb true))] [(22, rt (bb true), [(1007, oiv [a, b, c, d])])] =
    some (rt (bb true), [], [PureX Tryz.prog 18 #[ii p, ii 4294967296] (rt (ii q)), PureX Tryz.prog 20 #[ii q] (rt (ivv x)), PureX Tryz.prog 20 #[ii (IntKind.i64.wrap (4 * q))] (rt (ivv y)), PureX Tryz.prog 13 #[ii 0, ivv x] (rt (ivv a)), PureX Tryz.prog 13 #[ii 1, ivv x] (rt (ivv b)), PureX Tryz.prog 26 #[ivv a] (rt (ivv s)), PureX Tryz.prog 23 #[ivv s, ivv s] (rt (ivv s2)), PureX Tryz.prog 19 #[ii 1] (rt (ivv o)), PureX Tryz.prog 30 #[ivv s2, ivv o] (rt (ivv c)), PureX Tryz.prog 24 #[ivv a, ivv b] (rt (ivv d)), CallsV Tryz.prog (.func 22) #[sl 1007 4] [(1007, oiv [a, b, c, d])] (rt (bb true)) [(1007, oiv [a, b, c, d])], PureX Tryz.prog 13 #[ii 0, ivv y] (rt (ivv e)), PureX Tryz.prog 27 #[ivv c, ivv e] (rt (bb true)), PureX Tryz.prog 13 #[ii 1, ivv y] (rt (ivv g)), PureX Tryz.prog 27 #[ivv d, ivv g] (rt (bb true)), PureX Tryz.prog 17 #[] (rt (bb true))]) := by kernel_rfl
theorem l5_no (p q : Int) (x s : IV) : runB Tryz.prog 5 #[ii p] [] [t] [(18, rt (ii q)), (20, rt (ivv x)), (26, rt (ivv s)), (17, rt (bb true))] [] = some (rt (bb true), [], [PureX Tryz.prog 18 #[ii p, ii 4294967296] (rt (ii q)), PureX Tryz.prog 20 #[ii q] (rt (ivv x)), PureX Tryz.prog 26 #[ivv x] (rt (ivv s)), decide (17179869184 < s.2.1) = true, PureX Tryz.prog 17 #[] (rt (bb true))]) := by kernel_rfl
theorem l5_ok (p q : Int) (x s a c b d e : IV) : runB Tryz.prog 5 #[ii p] [] [f, n, n, n, n, n, n, n, n, n] [(18, rt (ii q)), (20, rt (ivv x)), (26, rt (ivv s)), (13, rt (ivv a)), (13, rt (ivv c)), (24, rt (ivv b)), (28, rt (ivv d)), (27, rt (bb true)), (29, rt (ivv e)), (27, rt (bb true)), (17, rt (bb true))] [(22, rt (bb true), [(1004, oiv [a, b])])] =
    some (rt (bb true), [], [PureX Tryz.prog 18 #[ii p, ii 4294967296] (rt (ii q)), PureX Tryz.prog 20 #[ii q] (rt (ivv x)), PureX Tryz.prog 26 #[ivv x] (rt (ivv s)), decide (17179869184 < s.2.1) = false, PureX Tryz.prog 13 #[ii 0, ivv s] (rt (ivv a)), PureX Tryz.prog 13 #[ii 1, ivv s] (rt (ivv c)), PureX Tryz.prog 24 #[ivv x, ivv c] (rt (ivv b)), CallsV Tryz.prog (.func 22) #[sl 1004 2] [(1004, oiv [a, b])] (rt (bb true)) [(1004, oiv [a, b])], PureX Tryz.prog 28 #[ivv x] (rt (ivv d)), PureX Tryz.prog 27 #[ivv a, ivv d] (rt (bb true)), PureX Tryz.prog 29 #[ivv x] (rt (ivv e)), PureX Tryz.prog 27 #[ivv b, ivv e] (rt (bb true)), PureX Tryz.prog 17 #[] (rt (bb true))]) := by kernel_rfl
theorem sub_Hd {x y : IV} {v w : Rat} (hx : okV x = true) (hy : okV y = true) (hb : (subV x y).2.2 = false) (hv : Hd x v) (hw : Hd y w) : Hd (subV x y) (v - w) := by
  rw [subV_ok hx hy] at hb ⊢
  rw [(mkV_bad hb).2.2.2]
  unfold Hd at *
  simp only [Rat.intCast_sub]
  grind
theorem sub_Inn8 {x y : IV} {B C : Int} (hx : Inn x B) (hy : Inn y C) (h : B + C ≤ 1152921504606846976) : Inn (subV x y) (B + C) := by
  have ax := okV_iff.1 hx.1
  have ay := okV_iff.1 hy.1
  obtain ⟨x0, x1, x2⟩ := hx
  obtain ⟨y0, y1, y2⟩ := hy
  have e : subV x y = (x.1 - y.2.1, x.2.1 - y.1, false) := by
    rw [subV_ok x0 y0]
    exact mkV_ok (by omega) (by omega) (by omega)
  rw [e]
  exact ⟨okV_iff.2 ⟨rfl, by show _ ≤ x.1 - y.2.1; omega, by show x.1 - y.2.1 ≤ x.2.1 - y.1; omega, by show x.2.1 - y.1 ≤ _; omega⟩, by show _ ≤ x.1 - y.2.1; omega, by show x.2.1 - y.1 ≤ _; omega⟩
theorem close_meet {x y : IV} {v w : Rat} (h1 : Hd x v) (h2 : Hd y w) (a1 : -(1 / 2) ≤ v - w) (a2 : v - w ≤ 1 / 2) : x.1 ≤ y.2.1 ∧ y.1 ≤ x.2.1 := by
  unfold Hd at *
  exact ⟨lt_one (by grind), lt_one (by grind)⟩
theorem near_meet {x y : IV} {v w : Rat} (h1 : Hd x v) (h2 : Hn y w) (a1 : -(1 / 2) ≤ v - w) (a2 : v - w ≤ 1 / 2) : x.1 ≤ y.2.1 ∧ y.1 ≤ x.2.1 := by
  unfold Hd at *
  unfold Hn at *
  exact ⟨lt_one (by grind), lt_one (by grind)⟩
theorem pt_Hd8 {k : Nat} (hk : k ≤ 3) {z : Int} (hz : -17179869184 ≤ z ∧ z ≤ 17179869184) : Inn (cS k (mkV z z)) 274877906944 ∧ Hd (cS k (mkV z z)) (uS k z 14) := by
  have hp := pt_nu.2 hz
  refine ⟨(cS_ok hk hp).1, ?_⟩
  have e := (pt_Inn hz.1 hz.2).1
  exact cS_Hd hk hp (x := (z : Rat)) (by rw [e]; exact Rat.le_refl) (by rw [e]; exact Rat.le_refl)
theorem o8_Hd : Inn o8 1073741824 ∧ Hd o8 1073741824 := ⟨⟨by decide, by decide, by decide⟩, Rat.le_refl (a := 1073741824), Rat.le_refl (a := 1073741824)⟩
theorem four8_walk (p : Int) : PureX Tryz.prog 6 #[ii p] (rt (bb true)) := by
  have hq := in4_v p
  have iq := in4_in p
  generalize qin4 p = q at *
  have e4 : IntKind.i64.wrap (4 * q) = 4 * q := by rw [wrapI (by omega)]
  have hy := rpoint_v (4 * q)
  have a := pt_Hd8 (k := 0) (by decide) (z := q) (by omega)
  have b := pt_Hd8 (k := 1) (by decide) (z := q) (by omega)
  have e := pt_Hd8 (k := 0) (by decide) (z := 4 * q) (by omega)
  have g := pt_Hd8 (k := 1) (by decide) (z := 4 * q) (by omega)
  have s := square_Hd a.1 (by decide) a.2
  have s2 := add_Inn s.2 s.2 (by decide)
  have s2v := add_Hd s.2.1 s.2.1 (ok_not s2.1.1) s.1 s.1
  have c := sub_Inn8 s2.1 o8_Hd.1 (by decide)
  have cv := sub_Hd s2.1.1 o8_Hd.1.1 (ok_not c.1) s2v o8_Hd.2
  have d := (mul_Inn a.1 b.1 (D := 70368744177664) (by decide) (by decide)).1
  have dv := mul_Hd a.1.1 b.1.1 (ok_not d.1) a.2 b.2
  have f := uS_four (x := q) iq.1 iq.2
  have m1 := close_meet cv e.2 (by grind) (by grind)
  have m2 := close_meet dv g.2 (by grind) (by grind)
  have fn := rfine_v4 1007 (cS 0 (mkV q q)) (cS 1 (mkV q q)) (subV (addV (squareV (cS 0 (mkV q q))) (squareV (cS 0 (mkV q q)))) o8) (mulV (cS 0 (mkV q q)) (cS 1 (mkV q q)))
  rw [a.1.1, b.1.1, c.1, d.1] at fn
  have F := l6_8 p q (mkV q q) (mkV (4 * q) (4 * q)) (cS 0 (mkV q q)) (cS 1 (mkV q q)) (squareV (cS 0 (mkV q q))) (addV (squareV (cS 0 (mkV q q))) (squareV (cS 0 (mkV q q)))) o8 (subV (addV (squareV (cS 0 (mkV q q))) (squareV (cS 0 (mkV q q)))) o8) (mulV (cS 0 (mkV q q)) (cS 1 (mkV q q))) (cS 0 (mkV (4 * q) (4 * q))) (cS 1 (mkV (4 * q) (4 * q)))
  rw [e4] at F
  exact runB_pure mix F ⟨hq, rpoint_v q, hy, c_v 0 _, c_v 1 _, dsquare_v _, radd_v _ _, rof1_v, rsub_v _ _, dmul_v plain_ok _ _, fn, c_v 0 _, meets_v c.1 e.1.1 m1.1 m1.2, c_v 1 _, meets_v d.1 g.1.1 m2.1 m2.2, wakes8_c, trivial⟩ rfl rfl
theorem square_nn {x : IV} (hx : okV x = true) (h : okV (squareV x) = true) : 0 ≤ (squareV x).1 := by
  have k := okV_iff.1 hx
  have a := near_sq hx (Int.le_refl _) k.2.2.1
  have d := (le_fl (x := nearI x * nearI x) (y := 1073741824) (z := 0) (by decide)).2 (by omega)
  rw [square_ends hx] at h ⊢
  rw [(mkV_bad (ok_not h)).2.2.2]
  exact d
theorem waves8_walk (p : Int) : PureX Tryz.prog 5 #[ii p] (rt (bb true)) := by
  have hq := in4_v p
  have iq := in4_in p
  generalize qin4 p = q at *
  have ep : mkV q q = (q, q, false) := mkV_ok (by omega) (by omega) (by omega)
  have ix : Inn (mkV q q) 4294967296 := by
    rw [ep]
    exact ⟨okV_iff.2 ⟨rfl, by show _ ≤ q; omega, Int.le_refl q, by show q ≤ _; omega⟩, iq.1, iq.2⟩
  have vx : Hd (mkV q q) (q : Rat) := by rw [ep]; exact pt_Hd q
  have s := square_Hd ix (by decide) vx
  have s0 := square_nn ix.1 s.2.1
  have hs := dsquare_v (mkV q q)
  by_cases t1 : 17179869184 < (squareV (mkV q q)).2.1
  · exact runB_pure mix (l5_no p q _ _) ⟨hq, rpoint_v q, hs, decide_eq_true t1, wakes8_c, trivial⟩ rfl rfl
  have hn : holdsV nuV (squareV (mkV q q)) = true := nuV_iff.2 ⟨s.2.1, by omega, by omega⟩
  have a := (cS_ok (k := 0) (by decide) hn).1
  have c := (cS_ok (k := 1) (by decide) hn).1
  have av := cS_Hd (k := 0) (by decide) hn s.1.1 s.1.2
  have cv := cS_Hd (k := 1) (by decide) hn s.1.1 s.1.2
  have b := (mul_Inn ix c (D := 1099511627776) (by decide) (by decide)).1
  have bv := mul_Hd ix.1 c.1 (ok_not b.1) vx cv
  have hw : holdsV allV (mkV q q) = true := hold_pt.2 iq
  have ws := waV_ok false hw
  have wc := waV_ok true hw
  have n1 := ws.2.2 q (by rw [ep]; exact Int.le_refl q) (by rw [ep]; exact Int.le_refl q)
  have n2 := wc.2.2 q (by rw [ep]; exact Int.le_refl q) (by rw [ep]; exact Int.le_refl q)
  rw [show fO false q = sO q from rfl] at n1
  rw [show fO true q = cO q from rfl] at n2
  have r1 := cos_near iq.1 iq.2
  have r2 := sin_near iq.1 iq.2
  have m1 := near_meet av n2 (by grind) (by grind)
  have m2 := near_meet bv n1 (by grind) (by grind)
  have fn := rfine_v2 1004 (cS 0 (squareV (mkV q q))) (mulV (mkV q q) (cS 1 (squareV (mkV q q))))
  rw [a.1, b.1] at fn
  exact runB_pure mix (l5_ok p q _ _ _ _ _ _ _) ⟨hq, rpoint_v q, hs, decide_eq_false t1, c_v 0 _, c_v 1 _, dmul_v plain_ok _ _, fn, rcos_v _, meets_v a.1 wc.1.1 m1.1 m1.2, rsin_v _, meets_v b.1 ws.1.1 m2.1 m2.2, wakes8_c, trivial⟩ rfl rfl
end Go.Proofs.YtbmekaaekngpbaaGreat
