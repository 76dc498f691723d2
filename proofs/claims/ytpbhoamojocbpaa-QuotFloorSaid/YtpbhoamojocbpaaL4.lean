/- QuotFloor, walked. -/
import Derived.Test.YtpbhoamojocbpaaL5
import Derived.Test.YtpbhoamojocbpaaF17
namespace Go.Proofs.Ytpbhoamojocbpaa
open Go Go.RowKit
set_option linter.unusedSimpArgs false
set_option linter.unusedVariables false

theorem radd_any (x p : Int) : ∃ o, PureX Try.prog 29 #[wz x, wz p] (rt (tp [wz (x + p), bb o])) := by
  have h := radd_x (nz x) (nz p)
  rw [(add_wv x p).1] at h
  exact ⟨_, h⟩
/-- The ceiling is the floor, or one above. -/
theorem ceil_floor {a b q c : Int} (h0 : b ≠ 0) (hq : OnSide (a - b * q) b) (hc : OnSide (b * c - a) b) : (a - b * q = 0 → c = q) ∧ (a - b * q ≠ 0 → c = q + 1) := by
  have e1 : b * (c - q) = b * c - b * q := Int.mul_sub ..
  have e2 : b * (c - q - 1) = b * c - b * q - b := by rw [Int.mul_sub, Int.mul_sub, Int.mul_one]
  have k1 := mul_big b (c - q)
  have k2 := mul_big b (c - q - 1)
  rw [e1] at k1
  rw [e2] at k2
  unfold OnSide at hq hc
  constructor
  · intro h
    have hz : b * (c - q) = 0 := by
      rw [e1]
      generalize b * c = C at *
      generalize b * q = Q at *
      clear e1 e2 k2
      omega
    rcases Int.mul_eq_zero.1 hz with h | h
    · exact absurd h h0
    · omega
  · intro h
    have hz : b * (c - q - 1) = 0 := by
      rw [e2]
      generalize b * c = C at *
      generalize b * q = Q at *
      clear e1 e2 k1
      omega
    rcases Int.mul_eq_zero.1 hz with h | h
    · exact absurd h h0
    · omega
set_option maxRecDepth 100000 in
theorem floor_walk {a b : Int} (ha : inR a) (hb : inR b) : PureX Try.prog 4 #[wz a, wz b] (rt (bb true)) := by
  by_cases c3 : b = 0
  · subst c3
    exact runA_pure mix (law4_zero (nz a)) ⟨flo_zero ha, rst_zero ha, cei_zero ha, wakes_c, trivial⟩ rfl rfl
  have e0 := eqv_false hb (y := 0) (by decide) c3
  have la := least_z ha
  have lb := least_z hb
  by_cases c1 : a = least
  · rw [decide_eq_true c1] at la
    have h := Or.inl (b := b = least) c1
    exact runA_pure mix (law4_over1 (nz a) (nz b)) ⟨flo_over ha hb c3 h, rst_over ha hb c3 h, cei_over ha hb c3 h, e0, la, wakes_c, trivial⟩ rfl rfl
  rw [decide_eq_false c1] at la
  by_cases c2 : b = least
  · rw [decide_eq_true c2] at lb
    have h := Or.inr (a := a = least) c2
    exact runA_pure mix (law4_over2 (nz a) (nz b)) ⟨flo_over ha hb c3 h, rst_over ha hb c3 h, cei_over ha hb c3 h, e0, la, lb, wakes_c, trivial⟩ rfl rfl
  rw [decide_eq_false c2] at lb
  have h1 := flo_z div_ok ha hb c3 c1 c2
  have h2 := rst_z ha hb c3 c1 c2
  have h3 := cei_z div_ok ha hb c3 c1 c2
  have iq := flI_in ha c1 c3
  have ic := ceI_in ha c1 c3
  have h4 := rmul_z iq hb
  have hs := flI_side (x := a) (y := b) c3
  have hcs := ceI_side (x := a) (y := b) c3
  obtain ⟨k0, k1⟩ := ceil_floor c3 hs hcs
  obtain ⟨R, hR⟩ : ∃ R, a - b * flI a b = R := ⟨_, rfl⟩
  rw [hR] at h2 hs k0 k1
  obtain ⟨o, h5⟩ := radd_any (flI a b * b) R
  rw [show flI a b * b + R = a by rw [← hR, Int.mul_comm b]; omega] at h5
  have h6 := rsub_z ic iq
  have iR : inR R := by unfold inR OnSide at *; omega
  have hv : (!(eqv (nz a) (nz a))) = false := by rw [eqv_true ha ha rfl]; rfl
  by_cases hz : R = 0
  · have hc := k0 hz
    rw [hc, Int.sub_self] at h6
    rw [hc] at h3
    have z1 := eqv_true iR (y := 0) (by decide) hz
    have z2 := eqv_true (x := 0) (by decide) iR hz.symm
    exact runA_pure mix (law4_r0 (nz a) (nz b) (nz (flI a b)) (nz R) (nz (flI a b)) (nz (flI a b * b)) (nz a) (nz 0) _ _ _) ⟨h1, h2, h3, e0, la, lb, h4, h5, h6, rfl, hv, z1, z2, wakes_c, trivial⟩ rfl rfl
  · have hc := k1 hz
    rw [hc, show flI a b + 1 - flI a b = 1 by omega] at h6
    rw [hc] at h3
    have z1 := eqv_false iR (y := 0) (by decide) hz
    have s1 := rsign_z iR
    have s2 := rsign_z hb
    have s3 := rcmp_z iR hb
    have o1 := lof_z (x := 1) (by decide)
    have z2 := eqv_true (x := 1) (y := 1) (by decide) (by decide) rfl
    have w1 : ((-1 : Int) == IntKind.i64.wrap (0 - 1)) = true := by decide
    have w2 : ((1 : Int) == IntKind.i64.wrap (0 - -1)) = true := by decide
    have hsg : (R.sign = 1 ∧ b.sign = 1 ∧ (R - b).sign = -1) ∨ (R.sign = -1 ∧ b.sign = -1 ∧ (R - b).sign = 1) := by
      unfold OnSide at hs
      rcases (show 0 < b ∨ b < 0 by omega) with h | h
      · exact .inl ⟨Int.sign_eq_one_of_pos (by omega), Int.sign_eq_one_of_pos h, Int.sign_eq_neg_one_of_neg (by omega)⟩
      · exact .inr ⟨Int.sign_eq_neg_one_of_neg (by omega), Int.sign_eq_neg_one_of_neg h, Int.sign_eq_one_of_pos (by omega)⟩
    rcases hsg with ⟨g1, g2, g3⟩ | ⟨g1, g2, g3⟩ <;> rw [g1] at s1 <;> rw [g2] at s2 <;> rw [g3] at s3
    · exact runA_pure mix (law4_r1 (nz a) (nz b) (nz (flI a b)) (nz R) (nz (flI a b + 1)) (nz (flI a b * b)) (nz a) (nz 1) _ _ _ 1 1 (-1) 1) ⟨h1, h2, h3, e0, la, lb, h4, h5, h6, rfl, hv, z1, o1, z2, s1, s2, rfl, s3, s2, w1, wakes_c, trivial⟩ rfl rfl
    · exact runA_pure mix (law4_r1 (nz a) (nz b) (nz (flI a b)) (nz R) (nz (flI a b + 1)) (nz (flI a b * b)) (nz a) (nz 1) _ _ _ (-1) (-1) 1 (-1)) ⟨h1, h2, h3, e0, la, lb, h4, h5, h6, rfl, hv, z1, o1, z2, s1, s2, rfl, s3, s2, w2, wakes_c, trivial⟩ rfl rfl

end Go.Proofs.Ytpbhoamojocbpaa
