/- Both sides of QuotTells, and its walk. -/
import Derived.Test.YtlioffkonfkflaaT5
import Derived.Test.YtlioffkonfkflaaT3
import Derived.Test.YtlioffkonfkflaaT2
namespace Go.Proofs.Ytlioffkonfkflaa
open Go Go.RowKit
set_option linter.unusedSimpArgs false
set_option linter.unusedVariables false
set_option maxRecDepth 100000

section
variable (a b c q r p s l m d g : Nat) (e f1 g1 h i k k2 x y z j w : Int) (u : Bool)
theorem dfo_1  : runB Try.prog 37 #[wv a, wv b] [] [f, t, n, n, n] [(85, rt (wv c))] [] =
    some (rt (tp [wv 0, wv 0, ii 20]), [], [eqv b 0 = false, PureX Try.prog 85 #[] (rt (wv c)), eqv a c = true]) := by kernel_rfl
theorem dfo_2  : runB Try.prog 37 #[wv a, wv b] [] [f, f, n, n, t] [(85, rt (wv c)), (85, rt (wv c))] [] =
    some (rt (tp [wv 0, wv 0, ii 20]), [], [eqv b 0 = false, PureX Try.prog 85 #[] (rt (wv c)), eqv a c = false, PureX Try.prog 85 #[] (rt (wv c)), eqv b c = true]) := by kernel_rfl
theorem dCe_o  : runB Try.prog 8 #[wv a, wv b] [] [] [(37, rt (tp [wv q, wv r, ii 20]))] [] =
    some (rt (tp [wv q, ii 20]), [], [PureX Try.prog 37 #[wv a, wv b] (rt (tp [wv q, wv r, ii 20]))]) := by kernel_rfl
theorem dRe_raw  : runB Try.prog 12 #[wv a, wv b] [] [] [(37, rt (tp [wv q, wv r, ii e]))] [] =
    some (rt (tp [wv r, ii e]), [], [PureX Try.prog 37 #[wv a, wv b] (rt (tp [wv q, wv r, ii e]))]) := by kernel_rfl
theorem dRi_2  : runB Try.prog 16 #[wv a, ii x] [] [] [(41, rt (wv q)), (14, rt (tp [wv b, ii 2]))] [] =
    some (rt (tp [wv b, ii 2]), [], [PureX Try.prog 41 #[] (rt (wv q)), PureX Try.prog 14 #[wv q, ii x] (rt (tp [wv b, ii 2]))]) := by kernel_rfl
theorem dRi_0  : runB Try.prog 16 #[wv a, ii x] [] [] [(41, rt (wv q)), (14, rt (tp [wv b, ii 0])), (6, rt (tp [wv r, ii e]))] [] =
    some (rt (tp [wv r, ii e]), [], [PureX Try.prog 41 #[] (rt (wv q)), PureX Try.prog 14 #[wv q, ii x] (rt (tp [wv b, ii 0])), PureX Try.prog 6 #[wv a, wv b] (rt (tp [wv r, ii e]))]) := by kernel_rfl
theorem dIn_o  : runB Try.prog 18 #[ii x, ii y, ii z] [] [] [(60, rt (wv a)), (60, rt (wv b)), (59, rt (tp [wv c, bb u])), (60, rt (wv d)), (10, rt (tp [wv g, ii 0])), (61, rt (tp [ii j, bb false]))] [] =
    some (rt (tp [ii 0, ii 20]), [], [PureX Try.prog 60 #[ii x] (rt (wv a)), PureX Try.prog 60 #[ii y] (rt (wv b)), PureX Try.prog 59 #[wv a, wv b] (rt (tp [wv c, bb u])), PureX Try.prog 60 #[ii z] (rt (wv d)), PureX Try.prog 10 #[wv c, wv d] (rt (tp [wv g, ii 0])), PureX Try.prog 61 #[wv g] (rt (tp [ii j, bb false]))]) := by kernel_rfl
theorem dIn_0  : runB Try.prog 18 #[ii x, ii y, ii z] [] [] [(60, rt (wv a)), (60, rt (wv b)), (59, rt (tp [wv c, bb u])), (60, rt (wv d)), (10, rt (tp [wv g, ii 30]))] [] =
    some (rt (tp [ii 0, ii 30]), [], [PureX Try.prog 60 #[ii x] (rt (wv a)), PureX Try.prog 60 #[ii y] (rt (wv b)), PureX Try.prog 59 #[wv a, wv b] (rt (tp [wv c, bb u])), PureX Try.prog 60 #[ii z] (rt (wv d)), PureX Try.prog 10 #[wv c, wv d] (rt (tp [wv g, ii 30]))]) := by kernel_rfl
theorem l3_raw  : runB Try.prog 3 #[wv a, wv b, ii x, ii y, ii z] [] [f, n, n, f, n, n, f, n, n, f, f, n, n, f, n, n, f, n, n, f, t, n, n, t, n, n, t, n, n, t, n, n, t, n, n, t] [(5, rt (tp [wv p, ii e])), (6, rt (tp [wv p, ii e])), (7, rt (tp [wv r, ii f1])), (8, rt (tp [wv r, ii f1])), (9, rt (tp [wv q, ii g1])), (10, rt (tp [wv q, ii g1])), (11, rt (tp [wv s, ii h])), (12, rt (tp [wv s, ii h])), (13, rt (tp [wv l, ii i])), (14, rt (tp [wv l, ii i])), (15, rt (tp [wv m, ii k])), (16, rt (tp [wv m, ii k])), (17, rt (tp [ii j, ii k2])), (18, rt (tp [ii j, ii k2])), (19, rt (bb true))] [] =
    some (rt (bb true), [], [PureX Try.prog 5 #[wv a, wv b] (rt (tp [wv p, ii e])), PureX Try.prog 6 #[wv a, wv b] (rt (tp [wv p, ii e])), PureX Try.prog 7 #[wv a, wv b] (rt (tp [wv r, ii f1])), PureX Try.prog 8 #[wv a, wv b] (rt (tp [wv r, ii f1])), (!(eqv p p)) = false, (e != e) = false, (!(eqv r r)) = false, (f1 != f1) = false, PureX Try.prog 9 #[wv a, wv b] (rt (tp [wv q, ii g1])), PureX Try.prog 10 #[wv a, wv b] (rt (tp [wv q, ii g1])), PureX Try.prog 11 #[wv a, wv b] (rt (tp [wv s, ii h])), PureX Try.prog 12 #[wv a, wv b] (rt (tp [wv s, ii h])), (!(eqv q q)) = false, (g1 != g1) = false, (!(eqv s s)) = false, (h != h) = false, PureX Try.prog 13 #[wv a, ii x] (rt (tp [wv l, ii i])), PureX Try.prog 14 #[wv a, ii x] (rt (tp [wv l, ii i])), PureX Try.prog 15 #[wv a, ii x] (rt (tp [wv m, ii k])), PureX Try.prog 16 #[wv a, ii x] (rt (tp [wv m, ii k])), PureX Try.prog 17 #[ii x, ii y, ii z] (rt (tp [ii j, ii k2])), PureX Try.prog 18 #[ii x, ii y, ii z] (rt (tp [ii j, ii k2])), eqv l l = true, (i == i) = true, eqv m m = true, (k == k) = true, (j == j) = true, (k2 == k2) = true, PureX Try.prog 19 #[] (rt (bb true))]) := by kernel_rfl
end
theorem floor_o {a b : Int} (ha : inR a) (hb : inR b) (h0 : b ≠ 0) (h : a = lst ∨ b = lst) : PureX Try.prog 37 #[wz a, wz b] (rt (tp [wz 0, wz 0, ii 20])) := by
  have hl : inR lst := by unfold inR lst; omega
  by_cases h1 : a = lst
  · exact runB_pure mix (dfo_1 (nz a) (nz b) _) ⟨eqz0 hb h0, dlst_z, by rw [eqv_z ha hl, decide_eq_true h1], trivial⟩ rfl rfl
  · exact runB_pure mix (dfo_2 (nz a) (nz b) _) ⟨eqz0 hb h0, dlst_z, eqz ha hl h1, dlst_z, by rw [eqv_z hb hl, decide_eq_true (by omega)], trivial⟩ rfl rfl
/-- Quotients and rests: the same on both sides. -/
theorem both_q {a b : Int} (ha : inR a) (hb : inR b) : ∃ p r q s e : Int, (PureX Try.prog 5 #[wz a, wz b] (rt (tp [wz p, ii e]))) ∧ (PureX Try.prog 6 #[wz a, wz b] (rt (tp [wz p, ii e]))) ∧ (PureX Try.prog 7 #[wz a, wz b] (rt (tp [wz r, ii e]))) ∧ (PureX Try.prog 8 #[wz a, wz b] (rt (tp [wz r, ii e]))) ∧ (PureX Try.prog 9 #[wz a, wz b] (rt (tp [wz q, ii e]))) ∧ (PureX Try.prog 10 #[wz a, wz b] (rt (tp [wz q, ii e]))) ∧ (PureX Try.prog 11 #[wz a, wz b] (rt (tp [wz s, ii e]))) ∧ (PureX Try.prog 12 #[wz a, wz b] (rt (tp [wz s, ii e]))) := by
  by_cases h0 : b = 0
  · subst h0
    have f := floor_0 (a := a)
    exact ⟨0, 0, 0, 0, 30, flo_zero ha, dFloor_0, cei_zero ha, dCeil_0, nea_zero ha, runB_pure mix (dne_e30 (nz a) (nz 0) (nz 0) (nz 0)) ⟨f, trivial⟩ rfl rfl, rst_zero ha, runB_pure mix (dRe_raw (nz a) (nz 0) (nz 0) (nz 0) 30) ⟨f, trivial⟩ rfl rfl⟩
  by_cases h1 : a = lst ∨ b = lst
  · have f := floor_o ha hb h0 h1
    exact ⟨0, 0, 0, 0, 20, flo_over ha hb h0 h1, runB_pure mix (dFl_raw _ _ _ _ _) ⟨f, trivial⟩ rfl rfl, cei_over ha hb h0 h1, runB_pure mix (dCe_o _ _ _ _) ⟨f, trivial⟩ rfl rfl, nea_over ha hb h0 h1, runB_pure mix (dne_e20 _ _ _ _) ⟨f, trivial⟩ rfl rfl, rst_over ha hb h0 h1, runB_pure mix (dRe_raw _ _ _ _ _) ⟨f, trivial⟩ rfl rfl⟩
  have la : a ≠ lst := fun h => h1 (.inl h)
  have lb : b ≠ lst := fun h => h1 (.inr h)
  exact ⟨_, _, _, _, 0, flo_z div_ok ha hb h0 la lb, dFloor_z plain_ok ha hb la lb h0, cei_z div_ok ha hb h0 la lb, dCeil_z plain_ok ha hb la lb h0 (flI_in ha la h0), nea_z div_ok ha hb h0 la lb, dNear_z ha hb la lb h0, rst_z ha hb h0 la lb, runB_pure mix (dRe_raw _ _ _ _ _) ⟨floor_z plain_ok ha hb la lb h0, trivial⟩ rfl rfl⟩
theorem two_b {x : Nat} (hx : x ≤ 254) : 0 < 2 ^ x ∧ 2 ^ x < 57896044618658097711785492504343953926634992332820282019728792003956564819968 := by
  refine ⟨Nat.pos_of_ne_zero (by simp), Nat.lt_of_le_of_lt (Nat.pow_le_pow_right (by decide) hx) (by decide)⟩
/-- Left and Right: the same on both sides. -/
theorem both_s {a x : Int} (ha : inR a) : ∃ l m i k : Int, (PureX Try.prog 13 #[wz a, ii x] (rt (tp [wz l, ii i]))) ∧ (PureX Try.prog 14 #[wz a, ii x] (rt (tp [wz l, ii i]))) ∧ (PureX Try.prog 15 #[wz a, ii x] (rt (tp [wz m, ii k]))) ∧ (PureX Try.prog 16 #[wz a, ii x] (rt (tp [wz m, ii k]))) := by
  by_cases hx : x < 0 ∨ 254 < x
  · have p := pow_bad hx
    exact ⟨0, 0, 2, 2, lft_pan p, dleft_bad hx, runA_pure mix (right_arg (nz a) x 2) ⟨p, trivial⟩ rfl rfl, runB_pure mix (dRi_2 _ _ _ _) ⟨done_z, dleft_bad hx, trivial⟩ rfl rfl⟩
  obtain ⟨n, rfl⟩ := Int.eq_ofNat_of_zero_le (show 0 ≤ x by omega)
  have hn : n ≤ 254 := by omega
  have p := pow_v (k := n) (by omega)
  obtain ⟨p0, pB⟩ := two_b hn
  have pR := inN pB
  have cast : ((2 ^ n : Nat) : Int) = (2 : Int) ^ n := by simp
  have L : ∃ l i : Int, (PureX Try.prog 13 #[wz a, ii (n : Int)] (rt (tp [wz l, ii i]))) ∧ (PureX Try.prog 14 #[wz a, ii (n : Int)] (rt (tp [wz l, ii i]))) := by
    have d := dleft_z ha hn
    by_cases ho : inR (a * 2 ^ n)
    · rw [if_pos ho, if_pos ho] at d
      have q := left_z ha pR p (by rw [cast]; exact ho)
      rw [cast] at q
      exact ⟨_, _, q, d⟩
    · rw [if_neg ho, if_neg ho] at d
      have mu := mul_z ha pR
      rw [cast, decide_eq_true ho] at mu
      exact ⟨0, 20, runA_pure mix (left_over _ _ _ _) ⟨p, mu, trivial⟩ rfl rfl, d⟩
  obtain ⟨l, i, L1, L2⟩ := L
  have d1 := dleft_z (a := 1) (by decide) hn
  rw [Int.one_mul, ← cast, if_pos pR, if_pos pR] at d1
  have hb0 : ((2 ^ n : Nat) : Int) ≠ 0 := by omega
  have hbl := (nat_in pB).2
  generalize ((2 ^ n : Nat) : Int) = P at *
  by_cases hal : a = lst
  · have dv := divide_over ha pR hb0 (.inl hal)
    exact ⟨l, 0, i, 20, L1, L2, runA_pure mix (right_pan _ _ _ _) ⟨p, dv, trivial⟩ rfl rfl, runB_pure mix (dRi_0 _ _ _ _ _ _) ⟨done_z, d1, runB_pure mix (dFl_raw _ _ _ _ _) ⟨floor_o ha pR hb0 (.inl hal), trivial⟩ rfl rfl, trivial⟩ rfl rfl⟩
  · exact ⟨l, _, i, 0, L1, L2, right_z ha pR p hb0 hal hbl, runB_pure mix (dRi_0 _ _ _ _ _ _) ⟨done_z, d1, dFloor_z plain_ok ha pR hal hbl hb0, trivial⟩ rfl rfl⟩
/-- Ints: the same on both sides. -/
theorem both_i {x y z : Int} (hx : isI x) (hy : isI y) (hz : isI z) : ∃ j k : Int, (PureX Try.prog 17 #[ii x, ii y, ii z] (rt (tp [ii j, ii k]))) ∧ (PureX Try.prog 18 #[ii x, ii y, ii z] (rt (tp [ii j, ii k]))) := by
  have ox := rof_z hx.1 hx.2
  have oy := rof_z hy.1 hy.2
  have oz := rof_z hz.1 hz.2
  have mu := rmul_z (isI_in hx) (isI_in hy)
  obtain ⟨pR, pl⟩ := ii_in hx hy
  by_cases h0 : z = 0
  · subst h0
    have nd : PureX Try.prog 10 #[wz (x * y), wz 0] (rt (tp [wz 0, ii 30])) := runB_pure mix (dne_e30 _ _ _ _) ⟨floor_0, trivial⟩ rfl rfl
    exact ⟨0, 30, ints_zero hx hy, runB_pure mix (dIn_0 _ _ _ _ _ _ _ _ _) ⟨ox, oy, mu, oz, nd, trivial⟩ rfl rfl⟩
  have zl := isI_ne hz
  have nn := nea_z div_ok pR (isI_in hz) h0 pl zl
  have nd := dNear_z pR (isI_in hz) pl zl h0
  have P := ints_z hx hy hz h0
  by_cases hi : isI (neI (x * y) z)
  · rw [if_pos hi, if_pos hi] at P
    exact ⟨_, _, P, runB_pure mix (din_ok x y z _ _ _ _ _ _ _) ⟨ox, oy, mu, oz, nd, dint_ok hi, trivial⟩ rfl rfl⟩
  · rw [if_neg hi, if_neg hi] at P
    exact ⟨_, _, P, runB_pure mix (dIn_o _ _ _ _ _ _ _ _ _ _) ⟨ox, oy, mu, oz, nd, dint_no (neI_in pR pl h0) hi, trivial⟩ rfl rfl⟩
theorem tells3_walk {a b x y z : Int} (ha : inR a) (hb : inR b) (hx : isI x) (hy : isI y) (hz : isI z) : PureX Try.prog 3 #[wz a, wz b, ii x, ii y, ii z] (rt (bb true)) := by
  obtain ⟨p, r, q, s, e, f1, f2, f3, f4, f5, f6, f7, f8⟩ := both_q ha hb
  obtain ⟨l, m, i, k, g1, g2, g3, g4⟩ := both_s (x := x) ha
  obtain ⟨j, k2, h1, h2⟩ := both_i hx hy hz
  have sf := eqv_self
  have bn : ∀ x : Int, (x != x) = false := fun x => by simp
  have cn : ∀ x : Int, (x == x) = true := fun x => by simp
  have nn : ∀ w : Nat, (!(eqv w w)) = false := fun w => by rw [sf]; rfl
  exact runB_pure mix (l3_raw (nz a) (nz b) (nz q) (nz r) (nz p) (nz s) (nz l) (nz m) e e e e i k k2 x y z j) ⟨f1, f2, f3, f4, nn _, bn _, nn _, bn _, f5, f6, f7, f8, nn _, bn _, nn _, bn _, g1, g2, g3, g4, h1, h2, sf _, cn _, sf _, cn _, cn _, cn _, wakes_c, trivial⟩ rfl rfl

end Go.Proofs.Ytlioffkonfkflaa
