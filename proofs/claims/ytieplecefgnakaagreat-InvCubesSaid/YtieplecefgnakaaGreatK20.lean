/- Texts of the seat, joined. -/
import Derived.Test.YtieplecefgnakaaGreatK17
/- The law of cubes. -/
namespace Go.Proofs.YtieplecefgnakaaGreat
open Go Go.RowKit
set_option linter.unusedSimpArgs false
set_option linter.unusedVariables false
set_option maxRecDepth 100000

section
variable (l h : Int) (p : Bool) (i x c1 c2 : Int) (a b c : Nat) (m n1 : Int)
theorem cb_no : runB Tryz.prog 8 #[iv l h p, ii i] [] [] [(51, rt (bb true))] [(12, rt (bb false), J1 1001 l h p)] =
    some (rt (bb true), [], [CallsV Tryz.prog (.func 12) #[sl 1001 1] (J1 1001 l h p) (rt (bb false)) (J1 1001 l h p), PureX Tryz.prog 51 #[] (rt (bb true))]) := by kernel_rfl
theorem cb_lo : runB Tryz.prog 8 #[iv l h p, ii i] [] [n, n, n, t] [(51, rt (bb true))] [(12, rt (bb true), J1 1001 l h p)] =
    some (rt (bb true), [], [CallsV Tryz.prog (.func 12) #[sl 1001 1] (J1 1001 l h p) (rt (bb true)) (J1 1001 l h p), decide (l < 1) = true, PureX Tryz.prog 51 #[] (rt (bb true))]) := by kernel_rfl
theorem cb_hi : runB Tryz.prog 8 #[iv l h p, ii i] [] [n, n, n, f, n, n, t] [(51, rt (bb true))] [(12, rt (bb true), J1 1001 l h p)] =
    some (rt (bb true), [], [CallsV Tryz.prog (.func 12) #[sl 1001 1] (J1 1001 l h p) (rt (bb true)) (J1 1001 l h p), decide (l < 1) = false, decide (1099511627776 < h) = true, PureX Tryz.prog 51 #[] (rt (bb true))]) := by kernel_rfl
theorem cb_bad : runB Tryz.prog 8 #[iv l h p, ii i] [] [n, n, n, f, n, n, f, n, t] [(49, rt (iv 0 0 true)), (51, rt (bb true))] [(12, rt (bb true), J1 1001 l h p)] =
    some (rt (bb true), [], [CallsV Tryz.prog (.func 12) #[sl 1001 1] (J1 1001 l h p) (rt (bb true)) (J1 1001 l h p), decide (l < 1) = false, decide (1099511627776 < h) = false, PureX Tryz.prog 49 #[iv l h p] (rt (iv 0 0 true)), decide (l < 4194304) = true, PureX Tryz.prog 51 #[] (rt (bb true))]) := by kernel_rfl
theorem cb_ok : runB Tryz.prog 8 #[iv l h p, ii i] [] [n, n, n, f, n, n, f, n, t, n, n, n, t, n, n, n, t] [(49, rt (iv c1 c2 false)), (52, rt (ii x)), (54, rt (ii m)), (54, rt (ii n1)), (51, rt (bb true))] [(12, rt (bb true), J1 1001 l h p), (53, rt (wv a), T5 1003 c1 c1 x x x), (53, rt (wv b), T5 1004 c2 c2 x x x), (53, rt (wv c), T5 1007 1073741824 1073741824 1073741824 1073741824 1073741824)] =
    some (rt (bb true), [], [CallsV Tryz.prog (.func 12) #[sl 1001 1] (J1 1001 l h p) (rt (bb true)) (J1 1001 l h p), decide (l < 1) = false, decide (1099511627776 < h) = false, PureX Tryz.prog 49 #[iv l h p] (rt (iv c1 c2 false)), PureX Tryz.prog 52 #[iv l h p, ii i] (rt (ii x)), CallsV Tryz.prog (.func 53) #[sl 1003 5] (T5 1003 c1 c1 x x x) (rt (wv a)) (T5 1003 c1 c1 x x x), CallsV Tryz.prog (.func 53) #[sl 1004 5] (T5 1004 c2 c2 x x x) (rt (wv b)) (T5 1004 c2 c2 x x x), CallsV Tryz.prog (.func 53) #[sl 1007 5] (T5 1007 1073741824 1073741824 1073741824 1073741824 1073741824) (rt (wv c)) (T5 1007 1073741824 1073741824 1073741824 1073741824 1073741824), decide (0 ≤ c1) = true, PureX Tryz.prog 54 #[wv a, wv c] (rt (ii m)), decide (m ≤ 0) = true, PureX Tryz.prog 54 #[wv c, wv b] (rt (ii n1)), decide (n1 ≤ 0) = true, PureX Tryz.prog 51 #[] (rt (bb true))]) := by kernel_rfl
end

theorem mul_nn {a b A B : Int} (ha : 0 ≤ a) (hb : 0 ≤ b) (h1 : a ≤ A) (h2 : b ≤ B) : 0 ≤ a * b ∧ a * b ≤ A * B := ⟨Int.mul_nonneg ha hb, Int.mul_le_mul h1 h2 hb (by omega)⟩
/-- Of numbers above 0, the product's ends. -/
theorem mul_pos_ends {x y : IV} (hx : okV x = true) (hy : okV y = true) (x0 : 0 ≤ x.1) (y0 : 0 ≤ y.1) :
    mulV x y = mkV (endI (flI (x.1 * y.1) 1073741824)) (endI (ceI (x.2.1 * y.2.1) 1073741824)) := by
  have k := okV_iff.1 hx
  have l := okV_iff.1 hy
  have a1 := (mul_nn x0 y0 k.2.2.1 (Int.le_refl _)).2
  have a2 := (mul_nn x0 y0 (Int.le_refl _) l.2.2.1).2
  have a3 := (mul_nn x0 y0 k.2.2.1 l.2.2.1).2
  have a4 := (mul_nn (a := x.2.1) (b := y.1) (by omega) y0 (Int.le_refl _) l.2.2.1).2
  have a5 := (mul_nn (a := x.1) (b := y.2.1) x0 (by omega) k.2.2.1 (Int.le_refl _)).2
  have e1 : mn4I (x.1 * y.1) (x.2.1 * y.1) (x.1 * y.2.1) (x.2.1 * y.2.1) = x.1 * y.1 :=
    Int.le_antisymm mn4_le.1 (le_mn4 (Int.le_refl _) a1 a2 a3)
  have e2 : mx4I (x.1 * y.1) (x.2.1 * y.1) (x.1 * y.2.1) (x.2.1 * y.2.1) = x.2.1 * y.2.1 :=
    Int.le_antisymm (mx4_le a3 a4 a5 (Int.le_refl _)) le_mx4.2.2.2
  rw [mulV_ok hx hy, e1, e2]
  rfl
theorem sq5 {r s d u : Int} (hr : 0 ≤ r) (hs : 0 ≤ s) (h : r ≤ s) : r * r ≤ s * s := Int.mul_le_mul h h hr hs
/-- The lower end, over all. -/
theorem cube_low {L M A R x : Int} (hL : 0 ≤ L) (hM : 0 ≤ M) (hR : 0 ≤ R) (hx : 0 ≤ x) (hxA : x ≤ A) (h1 : L * M ≤ 1073741824 * 1073741824) (h2 : A * R ≤ 1073741824 * M) (h3 : A * 1073741824 ≤ R * R) :
    L * L * x * x * x ≤ 1073741824 * 1073741824 * 1073741824 * 1073741824 * 1073741824 := by
  have hA : 0 ≤ A := by omega
  have c1 : L * (A * R) ≤ L * (1073741824 * M) := Int.mul_le_mul_of_nonneg_left h2 hL
  have c2 : L * (1073741824 * M) = 1073741824 * (L * M) := by rw [Int.mul_left_comm]
  have c3 : L * (A * R) ≤ 1237940039285380274899124224 := by omega
  have c4 : L * (A * R) * (L * (A * R)) ≤ 1237940039285380274899124224 * 1237940039285380274899124224 := Int.mul_le_mul c3 c3 (Int.mul_nonneg hL (Int.mul_nonneg hA hR)) (by decide)
  have c5 : L * L * A * A * (A * 1073741824) ≤ L * L * A * A * (R * R) := Int.mul_le_mul_of_nonneg_left h3 (Int.mul_nonneg (Int.mul_nonneg (Int.mul_nonneg hL hL) hA) hA)
  have c6 : L * L * A * A * (R * R) = L * (A * R) * (L * (A * R)) := by ac_rfl
  have c7 : L * L * A * A * (A * 1073741824) = L * L * A * A * A * 1073741824 := by ac_rfl
  have c8 : 1237940039285380274899124224 * 1237940039285380274899124224 = (1427247692705959881058285969449495136382746624 : Int) * 1073741824 := by decide
  have c9 : (1073741824 : Int) * 1073741824 * 1073741824 * 1073741824 * 1073741824 = 1427247692705959881058285969449495136382746624 := by decide
  have d1 : L * L * x ≤ L * L * A := Int.mul_le_mul_of_nonneg_left hxA (Int.mul_nonneg hL hL)
  have d0 : 0 ≤ L * L * x := Int.mul_nonneg (Int.mul_nonneg hL hL) hx
  have d2 := mul_nn d0 hx d1 hxA
  have d3 := mul_nn d2.1 hx d2.2 hxA
  rw [c9]
  generalize L * L * A * A * A = Z at *
  generalize L * L * x * x * x = Y at *
  omega
/-- The higher end, over all. -/
theorem cube_high {H M A R x : Int} (hH : 0 ≤ H) (hM : 0 ≤ M) (hR : 0 ≤ R) (hA : 0 ≤ A) (hxA : A ≤ x) (h1 : 1073741824 * 1073741824 ≤ H * M) (h2 : 1073741824 * M ≤ A * R) (h3 : R * R ≤ A * 1073741824) :
    1073741824 * 1073741824 * 1073741824 * 1073741824 * 1073741824 ≤ H * H * x * x * x := by
  have c1 : H * (1073741824 * M) ≤ H * (A * R) := Int.mul_le_mul_of_nonneg_left h2 hH
  have c2 : H * (1073741824 * M) = 1073741824 * (H * M) := by rw [Int.mul_left_comm]
  have c3 : 1237940039285380274899124224 ≤ H * (A * R) := by omega
  have c4 : 1237940039285380274899124224 * 1237940039285380274899124224 ≤ H * (A * R) * (H * (A * R)) := Int.mul_le_mul c3 c3 (by decide) (Int.mul_nonneg hH (Int.mul_nonneg hA hR))
  have c5 : H * H * A * A * (R * R) ≤ H * H * A * A * (A * 1073741824) := Int.mul_le_mul_of_nonneg_left h3 (Int.mul_nonneg (Int.mul_nonneg (Int.mul_nonneg hH hH) hA) hA)
  have c6 : H * H * A * A * (R * R) = H * (A * R) * (H * (A * R)) := by ac_rfl
  have c7 : H * H * A * A * (A * 1073741824) = H * H * A * A * A * 1073741824 := by ac_rfl
  have c8 : 1237940039285380274899124224 * 1237940039285380274899124224 = (1427247692705959881058285969449495136382746624 : Int) * 1073741824 := by decide
  have c9 : (1073741824 : Int) * 1073741824 * 1073741824 * 1073741824 * 1073741824 = 1427247692705959881058285969449495136382746624 := by decide
  have d1 : H * H * A ≤ H * H * x := Int.mul_le_mul_of_nonneg_left hxA (Int.mul_nonneg hH hH)
  have d0 : 0 ≤ H * H * A := Int.mul_nonneg (Int.mul_nonneg hH hH) hA
  have d2 := mul_nn d0 hA d1 hxA
  have d3 := mul_nn d2.1 hA d2.2 hxA
  rw [c9]
  generalize H * H * A * A * A = Z at *
  generalize H * H * x * x * x = Y at *
  omega

theorem endI_of {z : Int} (h : isI z) : endI z = z := if_pos h
theorem isq_one {x : Nat} {b : Nat} (hx : x < 57896044618658097711785492504343953926634992332820282019728792003956564819968) (h : b * b ≤ x) : b ≤ isq x := by
  have a := (isq_ok hx).2
  refine Nat.le_of_not_lt (fun hc => ?_)
  have := Nat.mul_le_mul (show isq x + 1 ≤ b by omega) (show isq x + 1 ≤ b by omega)
  omega
/-- The product with the root, of numbers from 1 to 2^40. -/
theorem cube_mid {x : IV} (hx : okV x = true) (h1 : 1 ≤ x.1) (h2 : x.2.1 ≤ 1099511627776) : ∃ M1 M2 R1 R2 : Int, mulV x (rootV x) = (M1, M2, false) ∧ okV (mulV x (rootV x)) = true ∧ 0 ≤ M1 ∧ M1 ≤ M2 ∧ 0 ≤ R1 ∧ 0 ≤ R2 ∧
    1073741824 * M1 ≤ x.1 * R1 ∧ x.2.1 * R2 ≤ 1073741824 * M2 ∧ R1 * R1 ≤ x.1 * 1073741824 ∧ x.2.1 * 1073741824 ≤ R2 * R2 ∧ (4194304 ≤ x.1 → 0 < M1) := by
  have k := okV_iff.1 hx
  obtain ⟨e, e1, e2, e3⟩ := root_ends hx (by omega)
  have rh := root_holds hx (by omega) (Int.le_refl _) k.2.2.1
  have rk := root_holds hx (by omega) k.2.2.1 (Int.le_refl _)
  have rp : 4194304 ≤ x.1 → (67108864 : Int) ≤ ((isq (x.1 * 1073741824).toNat : Nat) : Int) := fun h => by
    have := isq_one (x := (x.1 * 1073741824).toNat) (b := 67108864) (by omega) (by omega)
    omega
  rw [e] at rh rk
  simp only at rh rk
  have hr : okV (rootV x) = true := by rw [e]; exact okV_mk (by omega) (by omega) (by omega)
  have m := mul_pos_ends hx hr (by omega) (by rw [e]; simp only; omega)
  rw [e] at m hr ⊢
  simp only at m
  have b0 : 0 ≤ ((isq (x.1 * 1073741824).toNat : Nat) : Int) ∧ ((isq (x.1 * 1073741824).toNat : Nat) : Int) ≤ ((upq (x.2.1 * 1073741824).toNat : Nat) : Int) ∧ ((upq (x.2.1 * 1073741824).toNat : Nat) : Int) ≤ 35184372088833 := by omega
  generalize ((isq (x.1 * 1073741824).toNat : Nat) : Int) = R1 at *
  generalize ((upq (x.2.1 * 1073741824).toNat : Nat) : Int) = R2 at *
  have kr := okV_iff.1 hr
  simp only at kr
  have p1 := mul_nn (a := x.1) (b := R1) (A := x.2.1) (B := R2) (by omega) b0.1 k.2.2.1 b0.2.1
  have p2 := mul_nn (a := x.2.1) (b := R2) (A := 1099511627776) (B := 35184372088833) (by omega) (by omega) h2 b0.2.2
  have f1 := flI_b (x := x.1 * R1) (y := 1073741824) (by decide)
  have f2 := ceI_b (x := x.2.1 * R2) (y := 1073741824) (by decide)
  have f3 := fl_ce (x := x.1 * R1) (z := x.2.1 * R2) (y := 1073741824) (by decide) p1.2
  have f4 := (le_fl (x := x.1 * R1) (y := 1073741824) (z := 0) (by decide)).2 (by omega)
  have f5 := (ce_le (x := x.2.1 * R2) (y := 1073741824) (z := 1152921504606846976) (by decide)).2 (by omega)
  rw [endI_of (z := flI (x.1 * R1) 1073741824) (by unfold isI; omega), endI_of (z := ceI (x.2.1 * R2) 1073741824) (by unfold isI; omega), mkV_ok (by omega) f3 f5] at m
  refine ⟨_, _, R1, R2, m, by rw [m]; exact okV_mk (by omega) f3 f5, f4, f3, b0.1, by omega, f1.1, f2.1, rh.1, rk.2, fun h => ?_⟩
  have p3 := mul_nn (a := 4194304) (b := 67108864) (A := x.1) (B := R1) (by decide) (by decide) h (rp h)
  have f6 := (le_fl (x := x.1 * R1) (y := 1073741824) (z := 1) (by decide)).2 (by omega)
  omega
abbrev one1 : IV := (1073741824, 1073741824, false)
theorem cube_fine {x : IV} (hx : okV x = true) (h1 : 1 ≤ x.1) (h2 : x.2.1 ≤ 1099511627776) (hb : (cubeV x).2.2 = true) : x.1 < 4194304 := by
  obtain ⟨M1, M2, R1, R2, e, hm, m0, m1, _, _, _, _, _, _, hp⟩ := cube_mid hx h1 h2
  refine Int.lt_of_not_ge (fun hc => ?_)
  have hp := hp hc
  unfold cubeV at hb
  have q0 : ¬ ((mulV x (rootV x)).1 ≤ 0 ∧ 0 ≤ (mulV x (rootV x)).2.1) := by rw [e]; simp only; omega
  have l := qlo_qhi (a := one1) (by decide) hm q0
  have hq : quotV one1 (mulV x (rootV x)) = mkV (qlo one1 (mulV x (rootV x))) (qhi one1 (mulV x (rootV x))) := if_pos ⟨by decide, hm, q0⟩
  have g : ∀ z : Int, 0 < z → (0 : Int) ≤ flI (1073741824 * 1073741824) z ∧ ceI (1073741824 * 1073741824) z ≤ 1152921504606846976 := fun z hz =>
    ⟨(le_fl hz).2 (by omega), (ce_le hz).2 (by omega)⟩
  have g1 := g M1 hp
  have g2 := g M2 (by omega)
  have l1 : 0 ≤ qlo one1 (mulV x (rootV x)) := by rw [e]; exact le_mn4 g1.1 g2.1 g1.1 g2.1
  have l2 : qhi one1 (mulV x (rootV x)) ≤ 1152921504606846976 := by rw [e]; exact mx4_le g1.2 g2.2 g1.2 g2.2
  have hb2 : (quotV one1 (mulV x (rootV x))).2.2 = true := hb
  rw [hq, mkV_ok (by omega) l l2] at hb2
  simp at hb2
theorem cube_holds {x : IV} (hx : okV x = true) (h1 : 1 ≤ x.1) (h2 : x.2.1 ≤ 1099511627776) (hb : (cubeV x).2.2 = false) {z : Int} (z1 : x.1 ≤ z) (z2 : z ≤ x.2.1) :
    0 ≤ (cubeV x).1 ∧ (cubeV x).1 ≤ (cubeV x).2.1 ∧ (cubeV x).2.1 ≤ 1152921504606846976 ∧ (cubeV x).1 * (cubeV x).1 * z * z * z ≤ 1073741824 * 1073741824 * 1073741824 * 1073741824 * 1073741824 ∧ 1073741824 * 1073741824 * 1073741824 * 1073741824 * 1073741824 ≤ (cubeV x).2.1 * (cubeV x).2.1 * z * z * z := by
  obtain ⟨M1, M2, R1, R2, e, hm, m0, m1, r1, r2, s1, s2, t1, t2, _⟩ := cube_mid hx h1 h2
  have hb2 : (quotV one1 (mulV x (rootV x))).2.2 = false := hb
  obtain ⟨_, _, q0, ee, e1, e2, e3⟩ := quot_ends hb2
  have hc : cubeV x = (qlo one1 (mulV x (rootV x)), qhi one1 (mulV x (rootV x)), false) := ee
  rw [hc]
  simp only
  have p0 : 0 < M1 := by rw [e] at q0; simp only at q0; omega
  have y1 := (quot_holds hb2 (x := 1073741824) (y := M1) (Int.le_refl _) (Int.le_refl _) (by rw [e]; exact Int.le_refl _) (by rw [e]; exact m1)).1 p0
  have y2 := (quot_holds hb2 (x := 1073741824) (y := M2) (Int.le_refl _) (Int.le_refl _) (by rw [e]; exact m1) (by rw [e]; exact Int.le_refl _)).1 (by omega)
  have g : ∀ z : Int, 0 < z → (0 : Int) ≤ flI (1073741824 * 1073741824) z := fun z hz => (le_fl hz).2 (by omega)
  have l1 : 0 ≤ qlo one1 (mulV x (rootV x)) := by rw [e]; exact le_mn4 (g M1 p0) (g M2 (by omega)) (g M1 p0) (g M2 (by omega))
  exact ⟨l1, e2, e3, cube_low l1 (by omega) r2 (by omega) z2 y2.1 s2 t2, cube_high (by omega) m0 r1 (by omega) z1 y1.2 s1 t1⟩
theorem fives {c z : Int} (h0 : 0 ≤ c) (h1 : c ≤ 1152921504606846976) (k0 : 0 ≤ z) (k1 : z ≤ 1099511627776) : inR (c * c) ∧ inR (c * c * z) ∧ inR (c * c * z * z) ∧ inR (c * c * z * z * z) := by
  have a := mul_nn h0 h0 h1 h1
  have b := mul_nn a.1 k0 a.2 k1
  have d := mul_nn b.1 k0 b.2 k1
  have f := mul_nn d.1 k0 d.2 k1
  generalize c * c * z * z * z = v1 at *
  generalize c * c * z * z = v2 at *
  generalize c * c * z = v3 at *
  generalize c * c = v4 at *
  unfold inR
  omega
theorem cubes_walk (x : IV) (n : Int) (hn : isI n) : PureX Tryz.prog 8 #[ivv x, ii n] (rt (bb true)) := by
  have hf := rfine_v1 1001 x
  cases hk : okV x
  · rw [hk] at hf
    exact runB_pure mix (cb_no _ _ _ _) ⟨hf, wakes6_c, trivial⟩ rfl rfl
  rw [hk] at hf
  by_cases h1 : x.1 < 1
  · exact runB_pure mix (cb_lo _ _ _ _) ⟨hf, decide_eq_true h1, wakes6_c, trivial⟩ rfl rfl
  by_cases h2 : 1099511627776 < x.2.1
  · exact runB_pure mix (cb_hi _ _ _ _) ⟨hf, decide_eq_false h1, decide_eq_true h2, wakes6_c, trivial⟩ rfl rfl
  have c := cube_v x
  cases hb : (cubeV x).2.2
  · have hi := in_v hk hn
    obtain ⟨i1, i2⟩ := inZ_in hk n
    have hz := ok_isI hk i1 i2
    generalize inZ x n = z at hi i1 i2 hz
    obtain ⟨a1, a2, a3, a4, a5⟩ := cube_holds hk (by omega) (by omega) hb i1 i2
    rw [ivv_eq (ext3 rfl rfl hb)] at c
    have f1 := fives (z := z) a1 (by omega) (by omega) (by omega)
    have f2 := fives (c := (cubeV x).2.1) (z := z) (by omega) a3 (by omega) (by omega)
    have g1 : isI (cubeV x).1 := by unfold isI; omega
    have g2 : isI (cubeV x).2.1 := by unfold isI; omega
    have hO : isI 1073741824 := by unfold isI; omega
    have t1 := tim5 1003 g1 g1 hz hz hz f1.1 f1.2.1 f1.2.2.1
    have t2 := tim5 1004 g2 g2 hz hz hz f2.1 f2.2.1 f2.2.2.1
    have t3 := tim5 1007 hO hO hO hO hO (by unfold inR; omega) (by unfold inR; omega) (by unfold inR; omega)
    have o5 : inR (1073741824 * 1073741824 * 1073741824 * 1073741824 * 1073741824) := by unfold inR; omega
    have c1 := rcmp_z f1.2.2.2 o5
    have c2 := rcmp_z o5 f2.2.2.2
    exact runB_pure mix (cb_ok _ _ _ _ _ _ _ _ _ _ _ _) ⟨hf, decide_eq_false h1, decide_eq_false h2, c, hi, t1, t2, t3, decide_eq_true a1, c1, cmp_le a4, c2, cmp_le a5, wakes6_c, trivial⟩ rfl rfl
  · have hs := cube_fine hk (by omega) (by omega) hb
    rw [show cubeV x = bdV from quot_bd hb] at c
    exact runB_pure mix (cb_bad _ _ _ _) ⟨hf, decide_eq_false h1, decide_eq_false h2, c, decide_eq_true hs, wakes6_c, trivial⟩ rfl rfl


end Go.Proofs.YtieplecefgnakaaGreat
