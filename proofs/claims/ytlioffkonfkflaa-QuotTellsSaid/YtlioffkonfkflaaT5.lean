/- The document's nearest quotients. -/
import Derived.Test.YtlioffkonfkflaaT1
namespace Go.Proofs.Ytlioffkonfkflaa
open Go Go.RowKit
set_option linter.unusedSimpArgs false
set_option linter.unusedVariables false
set_option maxRecDepth 100000

theorem near_of {a b q N : Int} (hs : OnSide (a - b * q) b) (hn : Nearest a b N) :
    N = if ((if b < 0 then -(a - b * q) else a - b * q) - (if b < 0 then -(b - (a - b * q)) else b - (a - b * q)) > 0 ∨ (if b < 0 then -(a - b * q) else a - b * q) = (if b < 0 then -(b - (a - b * q)) else b - (a - b * q)) ∧ 0 ≤ q) then q + 1 else q := by
  unfold OnSide at hs
  unfold Nearest at hn
  obtain ⟨k, rfl⟩ : ∃ k, N = q + k := ⟨N - q, by omega⟩
  rw [Int.mul_add] at hn
  have hk : k = 0 ∨ k = 1 := by
    rcases (show k ≤ -1 ∨ k = 0 ∨ k = 1 ∨ 2 ≤ k by omega) with h | h | h | h
    · rcases Int.lt_or_le 0 b with hb | hb
      · have : b * k ≤ b * -1 := Int.mul_le_mul_of_nonneg_left h (by omega)
        omega
      · have : b * -1 ≤ b * k := Int.mul_le_mul_of_nonpos_left hb h
        omega
    · exact .inl h
    · exact .inr h
    · rcases Int.lt_or_le 0 b with hb | hb
      · have : b * 2 ≤ b * k := Int.mul_le_mul_of_nonneg_left h (by omega)
        omega
      · have : b * k ≤ b * 2 := Int.mul_le_mul_of_nonpos_left hb h
        omega
  have hq : (0 < b → (0 ≤ q → 0 ≤ b * q) ∧ (q < 0 → b * q ≤ -b)) ∧ (b < 0 → (0 ≤ q → b * q ≤ 0) ∧ (q < 0 → -b ≤ b * q)) := by
    refine ⟨fun hb => ⟨fun h => Int.mul_nonneg (by omega) h, fun h => ?_⟩, fun hb => ⟨fun h => ?_, fun h => ?_⟩⟩
    · have : b * q ≤ b * -1 := Int.mul_le_mul_of_nonneg_left (by omega) (by omega)
      omega
    · have : b * q ≤ b * 0 := Int.mul_le_mul_of_nonpos_left (by omega) h
      omega
    · have : b * -1 ≤ b * q := Int.mul_le_mul_of_nonpos_left (by omega) (by omega)
      omega
  generalize b * q = P at *
  rcases hk with rfl | rfl
  · rw [Int.mul_zero] at hn
    rw [Int.add_zero, if_neg]
    rcases Int.lt_or_le b 0 with hb | hb
    · rw [if_pos hb, if_pos hb]; omega
    · rw [if_neg (by omega), if_neg (by omega)]; omega
  · rw [Int.mul_one] at hn
    rw [if_pos]
    rcases Int.lt_or_le b 0 with hb | hb
    · rw [if_pos hb, if_pos hb]; omega
    · rw [if_neg (by omega), if_neg (by omega)]; omega
theorem dne_0p (s k v : Int) (a b c d e g h i o : Nat) : runB Try.prog 10 #[wv a, wv b] [] [n, f, t, n, n, n, n] [(37, rt (tp [wv c, wv d, ii 0])), (44, rt (wv e)), (45, rt (ii s)), (47, rt (ii k)), (41, rt (wv o)), (40, rt (wv g))] [] =
    some (rt (tp [wv g, ii 0]), [], [PureX Try.prog 37 #[wv a, wv b] (rt (tp [wv c, wv d, ii 0])), PureX Try.prog 44 #[wv b, wv d] (rt (wv e)), PureX Try.prog 45 #[wv b] (rt (ii s)), decide (s < 0) = false, PureX Try.prog 47 #[wv d, wv e] (rt (ii k)), decide (0 < k) = true, PureX Try.prog 41 #[] (rt (wv o)), PureX Try.prog 40 #[wv c, wv o] (rt (wv g))]) := by kernel_rfl
theorem dne_0m (s k v : Int) (a b c d e g h i o : Nat) : runB Try.prog 10 #[wv a, wv b] [] [n, f, f, n, n, f, n, n, n, n] [(37, rt (tp [wv c, wv d, ii 0])), (44, rt (wv e)), (45, rt (ii s)), (47, rt (ii k))] [] =
    some (rt (tp [wv c, ii 0]), [], [PureX Try.prog 37 #[wv a, wv b] (rt (tp [wv c, wv d, ii 0])), PureX Try.prog 44 #[wv b, wv d] (rt (wv e)), PureX Try.prog 45 #[wv b] (rt (ii s)), decide (s < 0) = false, PureX Try.prog 47 #[wv d, wv e] (rt (ii k)), decide (0 < k) = false, (k == 0) = false]) := by kernel_rfl
theorem dne_0zp (s k v : Int) (a b c d e g h i o : Nat) : runB Try.prog 10 #[wv a, wv b] [] [n, f, f, n, n, t, n, n, n, t] [(37, rt (tp [wv c, wv d, ii 0])), (44, rt (wv e)), (45, rt (ii s)), (47, rt (ii k)), (45, rt (ii v)), (41, rt (wv o)), (40, rt (wv g))] [] =
    some (rt (tp [wv g, ii 0]), [], [PureX Try.prog 37 #[wv a, wv b] (rt (tp [wv c, wv d, ii 0])), PureX Try.prog 44 #[wv b, wv d] (rt (wv e)), PureX Try.prog 45 #[wv b] (rt (ii s)), decide (s < 0) = false, PureX Try.prog 47 #[wv d, wv e] (rt (ii k)), decide (0 < k) = false, (k == 0) = true, PureX Try.prog 45 #[wv c] (rt (ii v)), decide (0 ≤ v) = true, PureX Try.prog 41 #[] (rt (wv o)), PureX Try.prog 40 #[wv c, wv o] (rt (wv g))]) := by kernel_rfl
theorem dne_0zm (s k v : Int) (a b c d e g h i o : Nat) : runB Try.prog 10 #[wv a, wv b] [] [n, f, f, n, n, t, n, n, n, f] [(37, rt (tp [wv c, wv d, ii 0])), (44, rt (wv e)), (45, rt (ii s)), (47, rt (ii k)), (45, rt (ii v))] [] =
    some (rt (tp [wv c, ii 0]), [], [PureX Try.prog 37 #[wv a, wv b] (rt (tp [wv c, wv d, ii 0])), PureX Try.prog 44 #[wv b, wv d] (rt (wv e)), PureX Try.prog 45 #[wv b] (rt (ii s)), decide (s < 0) = false, PureX Try.prog 47 #[wv d, wv e] (rt (ii k)), decide (0 < k) = false, (k == 0) = true, PureX Try.prog 45 #[wv c] (rt (ii v)), decide (0 ≤ v) = false]) := by kernel_rfl
theorem dne_1p (s k v : Int) (a b c d e g h i o : Nat) : runB Try.prog 10 #[wv a, wv b] [] [n, t, t, n, n, n, n] [(37, rt (tp [wv c, wv d, ii 0])), (44, rt (wv e)), (45, rt (ii s)), (46, rt (wv h)), (46, rt (wv i)), (47, rt (ii k)), (41, rt (wv o)), (40, rt (wv g))] [] =
    some (rt (tp [wv g, ii 0]), [], [PureX Try.prog 37 #[wv a, wv b] (rt (tp [wv c, wv d, ii 0])), PureX Try.prog 44 #[wv b, wv d] (rt (wv e)), PureX Try.prog 45 #[wv b] (rt (ii s)), decide (s < 0) = true, PureX Try.prog 46 #[wv d] (rt (wv h)), PureX Try.prog 46 #[wv e] (rt (wv i)), PureX Try.prog 47 #[wv h, wv i] (rt (ii k)), decide (0 < k) = true, PureX Try.prog 41 #[] (rt (wv o)), PureX Try.prog 40 #[wv c, wv o] (rt (wv g))]) := by kernel_rfl
theorem dne_1m (s k v : Int) (a b c d e g h i o : Nat) : runB Try.prog 10 #[wv a, wv b] [] [n, t, f, n, n, f, n, n, n, n] [(37, rt (tp [wv c, wv d, ii 0])), (44, rt (wv e)), (45, rt (ii s)), (46, rt (wv h)), (46, rt (wv i)), (47, rt (ii k))] [] =
    some (rt (tp [wv c, ii 0]), [], [PureX Try.prog 37 #[wv a, wv b] (rt (tp [wv c, wv d, ii 0])), PureX Try.prog 44 #[wv b, wv d] (rt (wv e)), PureX Try.prog 45 #[wv b] (rt (ii s)), decide (s < 0) = true, PureX Try.prog 46 #[wv d] (rt (wv h)), PureX Try.prog 46 #[wv e] (rt (wv i)), PureX Try.prog 47 #[wv h, wv i] (rt (ii k)), decide (0 < k) = false, (k == 0) = false]) := by kernel_rfl
theorem dne_1zp (s k v : Int) (a b c d e g h i o : Nat) : runB Try.prog 10 #[wv a, wv b] [] [n, t, f, n, n, t, n, n, n, t] [(37, rt (tp [wv c, wv d, ii 0])), (44, rt (wv e)), (45, rt (ii s)), (46, rt (wv h)), (46, rt (wv i)), (47, rt (ii k)), (45, rt (ii v)), (41, rt (wv o)), (40, rt (wv g))] [] =
    some (rt (tp [wv g, ii 0]), [], [PureX Try.prog 37 #[wv a, wv b] (rt (tp [wv c, wv d, ii 0])), PureX Try.prog 44 #[wv b, wv d] (rt (wv e)), PureX Try.prog 45 #[wv b] (rt (ii s)), decide (s < 0) = true, PureX Try.prog 46 #[wv d] (rt (wv h)), PureX Try.prog 46 #[wv e] (rt (wv i)), PureX Try.prog 47 #[wv h, wv i] (rt (ii k)), decide (0 < k) = false, (k == 0) = true, PureX Try.prog 45 #[wv c] (rt (ii v)), decide (0 ≤ v) = true, PureX Try.prog 41 #[] (rt (wv o)), PureX Try.prog 40 #[wv c, wv o] (rt (wv g))]) := by kernel_rfl
theorem dne_1zm (s k v : Int) (a b c d e g h i o : Nat) : runB Try.prog 10 #[wv a, wv b] [] [n, t, f, n, n, t, n, n, n, f] [(37, rt (tp [wv c, wv d, ii 0])), (44, rt (wv e)), (45, rt (ii s)), (46, rt (wv h)), (46, rt (wv i)), (47, rt (ii k)), (45, rt (ii v))] [] =
    some (rt (tp [wv c, ii 0]), [], [PureX Try.prog 37 #[wv a, wv b] (rt (tp [wv c, wv d, ii 0])), PureX Try.prog 44 #[wv b, wv d] (rt (wv e)), PureX Try.prog 45 #[wv b] (rt (ii s)), decide (s < 0) = true, PureX Try.prog 46 #[wv d] (rt (wv h)), PureX Try.prog 46 #[wv e] (rt (wv i)), PureX Try.prog 47 #[wv h, wv i] (rt (ii k)), decide (0 < k) = false, (k == 0) = true, PureX Try.prog 45 #[wv c] (rt (ii v)), decide (0 ≤ v) = false]) := by kernel_rfl
theorem dne_e20 (a b c d : Nat) : runB Try.prog 10 #[wv a, wv b] [] [] [(37, rt (tp [wv c, wv d, ii 20]))] [] =
    some (rt (tp [wv c, ii 20]), [], [PureX Try.prog 37 #[wv a, wv b] (rt (tp [wv c, wv d, ii 20]))]) := by kernel_rfl
theorem dne_e30 (a b c d : Nat) : runB Try.prog 10 #[wv a, wv b] [] [] [(37, rt (tp [wv c, wv d, ii 30]))] [] =
    some (rt (tp [wv c, ii 30]), [], [PureX Try.prog 37 #[wv a, wv b] (rt (tp [wv c, wv d, ii 30]))]) := by kernel_rfl
theorem dNear_z {a b : Int} (ha : inR a) (hb : inR b) (hl : a ≠ lst) (hm : b ≠ lst) (h0 : b ≠ 0) : PureX Try.prog 10 #[wz a, wz b] (rt (tp [wz (neI a b), ii 0])) := by
  have sd := flI_side (x := a) h0
  have hn := near_of sd (neI_near h0)
  have hf := floor_z plain_ok ha hb hl hm h0
  have hq : inR (flI a b) := flI_in ha hl h0
  rw [hn]
  clear hn
  generalize flI a b = q at *
  generalize a - b * q = r at *
  have hr : inR r ∧ inR (b - r) ∧ inR (-r) ∧ inR (-(b - r)) := by
    unfold OnSide at sd
    unfold inR at *
    unfold lst at hm
    omega
  have h1 := dsub_z hb hr.1
  have h2 := rsign_z hb
  have hsq := rsign_z hq
  rcases Int.lt_or_le b 0 with hlt | hlt
  · simp only [if_pos hlt]
    have hs : decide (b.sign < 0) = true := decide_eq_true (by rw [Int.sign_eq_neg_one_of_neg hlt]; decide)
    have h3 := dneg_z hr.1
    have h4 := dneg_z hr.2.1
    have h5 := rcmp_z hr.2.2.1 hr.2.2.2
    ·
      rcases Int.lt_trichotomy (-r - (-(b - r))) 0 with hk | hk | hk
      · have e1 : (-r - (-(b - r))).sign = -1 := Int.sign_eq_neg_one_of_neg hk
        rw [e1] at h5
        rw [if_neg (by omega)]
        exact runB_pure mix (dne_1m _ _ 0 (nz a) (nz b) (nz q) (nz r) (nz (b - r)) (nz (q + 1)) (nz (-r)) (nz (-(b - r))) (nz 1)) ⟨hf, h1, h2, hs, h3, h4, h5, by decide, by decide, trivial⟩ rfl rfl
      · have e1 : (-r - (-(b - r))).sign = 0 := by rw [hk]; rfl
        rw [e1] at h5
        by_cases hq0 : 0 ≤ q
        · rw [if_pos (by omega)]
          exact runB_pure mix (dne_1zp _ _ _ (nz a) (nz b) (nz q) (nz r) (nz (b - r)) (nz (q + 1)) (nz (-r)) (nz (-(b - r))) (nz 1)) ⟨hf, h1, h2, hs, h3, h4, h5, by decide, by decide, hsq, decide_eq_true (sign_nn hq0), done_z, dadd_z hq (by decide), trivial⟩ rfl rfl
        · rw [if_neg (by omega)]
          exact runB_pure mix (dne_1zm _ _ _ (nz a) (nz b) (nz q) (nz r) (nz (b - r)) (nz (q + 1)) (nz (-r)) (nz (-(b - r))) (nz 1)) ⟨hf, h1, h2, hs, h3, h4, h5, by decide, by decide, hsq, decide_eq_false (by rw [Int.sign_eq_neg_one_of_neg (by omega)]; decide), trivial⟩ rfl rfl
      · have e1 : (-r - (-(b - r))).sign = 1 := Int.sign_eq_one_of_pos hk
        rw [e1] at h5
        rw [if_pos (by omega)]
        exact runB_pure mix (dne_1p _ _ 0 (nz a) (nz b) (nz q) (nz r) (nz (b - r)) (nz (q + 1)) (nz (-r)) (nz (-(b - r))) (nz 1)) ⟨hf, h1, h2, hs, h3, h4, h5, by decide, done_z, dadd_z hq (by decide), trivial⟩ rfl rfl
  · simp only [if_neg (Int.not_lt.2 hlt)]
    have hs : decide (b.sign < 0) = false := decide_eq_false (by have := sign_nn hlt; omega)
    have h5 := rcmp_z hr.1 hr.2.1
    ·
      rcases Int.lt_trichotomy (r - (b - r)) 0 with hk | hk | hk
      · have e1 : (r - (b - r)).sign = -1 := Int.sign_eq_neg_one_of_neg hk
        rw [e1] at h5
        rw [if_neg (by omega)]
        exact runB_pure mix (dne_0m _ _ 0 (nz a) (nz b) (nz q) (nz r) (nz (b - r)) (nz (q + 1)) (nz (-r)) (nz (-(b - r))) (nz 1)) ⟨hf, h1, h2, hs, h5, by decide, by decide, trivial⟩ rfl rfl
      · have e1 : (r - (b - r)).sign = 0 := by rw [hk]; rfl
        rw [e1] at h5
        by_cases hq0 : 0 ≤ q
        · rw [if_pos (by omega)]
          exact runB_pure mix (dne_0zp _ _ _ (nz a) (nz b) (nz q) (nz r) (nz (b - r)) (nz (q + 1)) (nz (-r)) (nz (-(b - r))) (nz 1)) ⟨hf, h1, h2, hs, h5, by decide, by decide, hsq, decide_eq_true (sign_nn hq0), done_z, dadd_z hq (by decide), trivial⟩ rfl rfl
        · rw [if_neg (by omega)]
          exact runB_pure mix (dne_0zm _ _ _ (nz a) (nz b) (nz q) (nz r) (nz (b - r)) (nz (q + 1)) (nz (-r)) (nz (-(b - r))) (nz 1)) ⟨hf, h1, h2, hs, h5, by decide, by decide, hsq, decide_eq_false (by rw [Int.sign_eq_neg_one_of_neg (by omega)]; decide), trivial⟩ rfl rfl
      · have e1 : (r - (b - r)).sign = 1 := Int.sign_eq_one_of_pos hk
        rw [e1] at h5
        rw [if_pos (by omega)]
        exact runB_pure mix (dne_0p _ _ 0 (nz a) (nz b) (nz q) (nz r) (nz (b - r)) (nz (q + 1)) (nz (-r)) (nz (-(b - r))) (nz 1)) ⟨hf, h1, h2, hs, h5, by decide, done_z, dadd_z hq (by decide), trivial⟩ rfl rfl
theorem din_ok (x y z m : Int) (a b c d g : Nat) (o : Bool) : runB Try.prog 18 #[ii x, ii y, ii z] [] [] [(60, rt (wv a)), (60, rt (wv b)), (59, rt (tp [wv c, bb o])), (60, rt (wv d)), (10, rt (tp [wv g, ii 0])), (61, rt (tp [ii m, bb true]))] [] =
    some (rt (tp [ii m, ii 0]), [], [PureX Try.prog 60 #[ii x] (rt (wv a)), PureX Try.prog 60 #[ii y] (rt (wv b)), PureX Try.prog 59 #[wv a, wv b] (rt (tp [wv c, bb o])), PureX Try.prog 60 #[ii z] (rt (wv d)), PureX Try.prog 10 #[wv c, wv d] (rt (tp [wv g, ii 0])), PureX Try.prog 61 #[wv g] (rt (tp [ii m, bb true]))]) := by kernel_rfl

end Go.Proofs.Ytlioffkonfkflaa
