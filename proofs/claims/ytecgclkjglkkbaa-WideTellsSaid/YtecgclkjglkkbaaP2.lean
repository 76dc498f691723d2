/- Plain mathematics: sums, differences, products, order, as of whole numbers. -/
import Derived.Test.YtecgclkjglkkbaaP1
namespace Go.Proofs.Ytecgclkjglkkbaa
open Go Go.RowKit
set_option linter.unusedSimpArgs false
set_option linter.unusedVariables false

theorem sval_def {a : Nat → Nat} (h : Wds a) : (57896044618658097711785492504343953926634992332820282019728792003956564819968 ≤ val a ∧ lowB a = true ∧ sval a = (val a : Int) - 115792089237316195423570985008687907853269984665640564039457584007913129639936) ∨ (val a < 57896044618658097711785492504343953926634992332820282019728792003956564819968 ∧ lowB a = false ∧ sval a = (val a : Int)) := by
  have hl := lowB_val h
  unfold sval
  by_cases hh : 57896044618658097711785492504343953926634992332820282019728792003956564819968 ≤ val a
  · left
    have : lowB a = true := by rw [hl]; simpa using hh
    exact ⟨hh, this, by rw [if_pos this]⟩
  · right
    have : lowB a = false := by rw [hl]; simpa using hh
    exact ⟨by omega, this, by rw [this]; rfl⟩

theorem sval_in {a : Nat → Nat} (h : Wds a) : -57896044618658097711785492504343953926634992332820282019728792003956564819968 ≤ sval a ∧ sval a < 57896044618658097711785492504343953926634992332820282019728792003956564819968 := by
  have := val_lt h
  rcases sval_def h with ⟨h1, _, h3⟩ | ⟨h1, _, h3⟩ <;> rw [h3] <;> omega

theorem val_sval {a : Nat → Nat} (h : Wds a) : (val a : Int) = sval a % 115792089237316195423570985008687907853269984665640564039457584007913129639936 := by
  have := val_lt h
  rcases sval_def h with ⟨h1, _, h3⟩ | ⟨h1, _, h3⟩ <;> rw [h3] <;> omega

theorem low_sval {a : Nat → Nat} (h : Wds a) : lowB a = decide (sval a < 0) := by
  have := val_lt h
  rcases sval_def h with ⟨h1, h2, h3⟩ | ⟨h1, h2, h3⟩
  · rw [h2, h3]; symm; rw [decide_eq_true_eq]; omega
  · rw [h2, h3]; symm; rw [decide_eq_false_iff_not]; omega

/-- A number told by its rest. -/
theorem sval_of {r : Nat → Nat} {z : Int} (h : Wds r) (hv : (val r : Int) = z % 115792089237316195423570985008687907853269984665640564039457584007913129639936) (h1 : -57896044618658097711785492504343953926634992332820282019728792003956564819968 ≤ z) (h2 : z < 57896044618658097711785492504343953926634992332820282019728792003956564819968) : sval r = z := by
  have := val_lt h
  rcases sval_def h with ⟨k1, _, k3⟩ | ⟨k1, _, k3⟩ <;> rw [k3] <;> omega

theorem eqB_sval {a b : Nat → Nat} (ha : Wds a) (hb : Wds b) : eqB a b = decide (sval a = sval b) := by
  rw [eqB_val ha hb]
  have h1 := val_sval ha
  have h2 := val_sval hb
  have h3 := sval_in ha
  have h4 := sval_in hb
  rw [decide_eq_decide]
  constructor
  · intro h; omega
  · intro h; omega

theorem zr_sval : sval Zr = 0 := rfl

def overZ (z : Int) : Bool := decide (z < -57896044618658097711785492504343953926634992332820282019728792003956564819968 ∨ 57896044618658097711785492504343953926634992332820282019728792003956564819968 ≤ z)

theorem addR_z {a b : Nat → Nat} (ha : Wds a) (hb : Wds b) : (val (addR a b) : Int) = (sval a + sval b) % 115792089237316195423570985008687907853269984665640564039457584007913129639936 := by
  rw [addR_val ha hb]
  have h1 := val_sval ha
  have h2 := val_sval hb
  omega
theorem subR_z {a b : Nat → Nat} (ha : Wds a) (hb : Wds b) : (val (subR a b) : Int) = (sval a - sval b) % 115792089237316195423570985008687907853269984665640564039457584007913129639936 := by
  rw [subR_val ha hb]
  have h1 := val_sval ha
  have h2 := val_sval hb
  have h3 := val_lt hb
  have h4 := val_lt ha
  omega
theorem negR_z {a : Nat → Nat} (ha : Wds a) : (val (negR a) : Int) = (- sval a) % 115792089237316195423570985008687907853269984665640564039457584007913129639936 := by
  have := subR_z zr_words ha
  rw [zr_sval, Int.zero_sub] at this
  exact this

theorem ne_bool (p q : Prop) [Decidable p] [Decidable q] : (decide p != decide q) = decide (¬ (p ↔ q)) := by
  by_cases hp : p <;> by_cases hq : q <;> simp [hp, hq]
theorem eq_bool (p q : Prop) [Decidable p] [Decidable q] : (decide p == decide q) = decide (p ↔ q) := by
  by_cases hp : p <;> by_cases hq : q <;> simp [hp, hq]

theorem sval_cases {r : Nat → Nat} {z : Int} (h : Wds r) (hv : (val r : Int) = z % 115792089237316195423570985008687907853269984665640564039457584007913129639936) (h1 : -115792089237316195423570985008687907853269984665640564039457584007913129639936 ≤ z) (h2 : z < 115792089237316195423570985008687907853269984665640564039457584007913129639936) :
    (-57896044618658097711785492504343953926634992332820282019728792003956564819968 ≤ z ∧ z < 57896044618658097711785492504343953926634992332820282019728792003956564819968 ∧ sval r = z) ∨ (z < -57896044618658097711785492504343953926634992332820282019728792003956564819968 ∧ sval r = z + 115792089237316195423570985008687907853269984665640564039457584007913129639936) ∨ (57896044618658097711785492504343953926634992332820282019728792003956564819968 ≤ z ∧ sval r = z - 115792089237316195423570985008687907853269984665640564039457584007913129639936) := by
  have := val_lt h
  rcases sval_def h with ⟨k1, _, k3⟩ | ⟨k1, _, k3⟩ <;> rw [k3] <;> omega

theorem addO_z {a b : Nat → Nat} (ha : Wds a) (hb : Wds b) : addO a b = overZ (sval a + sval b) := by
  have hr := addR_words a b
  have hz := addR_z ha hb
  have i1 := sval_in ha
  have i2 := sval_in hb
  have hc := sval_cases hr hz (by omega) (by omega)
  unfold addO overZ
  rw [low_sval ha, low_sval hb, low_sval hr, eq_bool, ne_bool, ← Bool.decide_and, decide_eq_decide]
  omega
theorem subO_z {a b : Nat → Nat} (ha : Wds a) (hb : Wds b) : subO a b = overZ (sval a - sval b) := by
  have hr := subR_words a b
  have hz := subR_z ha hb
  have i1 := sval_in ha
  have i2 := sval_in hb
  have hc := sval_cases hr hz (by omega) (by omega)
  unfold subO overZ
  rw [low_sval ha, low_sval hb, low_sval hr, ne_bool, ne_bool, ← Bool.decide_and, decide_eq_decide]
  omega
theorem negO_z {a : Nat → Nat} (ha : Wds a) : negO a = overZ (- sval a) := by
  have := subO_z zr_words ha
  rw [zr_sval, Int.zero_sub] at this
  exact this

def sgn (z : Int) : Int := if z = 0 then 0 else if z < 0 then -1 else 1
theorem signI_z {a : Nat → Nat} (ha : Wds a) : signI a = sgn (sval a) := by
  unfold signI sgn
  rw [eqB_sval ha zr_words, low_sval ha, zr_sval]
  simp only [decide_eq_true_eq]

def cmpZ (x y : Int) : Int := if x < y then -1 else if y < x then 1 else 0

theorem cmp_val {a b : Nat → Nat} (ha : Wds a) (hb : Wds b) : cmpSt a b (List.finRange 4) = cmpZ (val a) (val b) := by
  have h0 := ha 0; have h1 := ha 1; have h2 := ha 2; have h3 := ha 3
  have g0 := hb 0; have g1 := hb 1; have g2 := hb 2; have g3 := hb 3
  unfold cmpSt
  rw [fin4]
  simp only [List.foldl_cons, List.foldl_nil, cmpStep, cmpI, cmpZ]
  unfold val
  generalize a 0 = a0 at *; generalize a 1 = a1 at *; generalize a 2 = a2 at *; generalize a 3 = a3 at *
  generalize b 0 = b0 at *; generalize b 1 = b1 at *; generalize b 2 = b2 at *; generalize b 3 = b3 at *
  by_cases e3 : a3 = b3
  · rw [if_pos e3]
    subst e3
    by_cases e2 : a2 = b2
    · rw [if_pos e2]
      subst e2
      by_cases e1 : a1 = b1
      · rw [if_pos e1]
        subst e1
        by_cases e0 : a0 = b0
        · rw [if_pos e0]
          subst e0
          rw [if_neg (by omega), if_neg (by omega)]
        · rw [if_neg e0]
          by_cases l : a0 < b0
          · rw [if_pos l, if_pos (by omega)]
          · rw [if_neg l, if_pos (by omega), if_neg (by omega), if_pos (by omega)]
      · rw [if_neg e1]
        by_cases l : a1 < b1
        · rw [if_pos l, if_pos (by omega)]
        · rw [if_neg l, if_pos (by omega), if_neg (by omega), if_pos (by omega)]
    · rw [if_neg e2]
      by_cases l : a2 < b2
      · rw [if_pos l, if_pos (by omega)]
      · rw [if_neg l, if_pos (by omega), if_neg (by omega), if_pos (by omega)]
  · rw [if_neg e3]
    by_cases l : a3 < b3
    · rw [if_pos l, if_pos (by omega)]
    · rw [if_neg l, if_pos (by omega), if_neg (by omega), if_pos (by omega)]

theorem liftR_val {a : Nat → Nat} (ha : Wds a) : (val (liftR a) : Int) = sval a + 57896044618658097711785492504343953926634992332820282019728792003956564819968 := by
  have h0 := ha 0; have h1 := ha 1; have h2 := ha 2; have h3 := ha 3
  have hd := sval_def ha
  have e0 : liftR a 0 = a 0 := by simp [liftR, upd]
  have e1 : liftR a 1 = a 1 := by simp [liftR, upd]
  have e2 : liftR a 2 = a 2 := by simp [liftR, upd]
  have e3 : liftR a 3 = liftW (a 3) := by simp [liftR, upd]
  have e4 : (9223372036854775808 ≤ a 3 ∧ liftW (a 3) = a 3 - 9223372036854775808) ∨ (a 3 < 9223372036854775808 ∧ liftW (a 3) = a 3 + 9223372036854775808) := by
    unfold liftW
    split
    · exact .inl ⟨by assumption, rfl⟩
    · exact .inr ⟨by omega, rfl⟩
  have ev : val (liftR a) = a 0 + a 1 * 18446744073709551616 + a 2 * 340282366920938463463374607431768211456 + liftW (a 3) * 6277101735386680763835789423207666416102355444464034512896 := by unfold val; rw [e0, e1, e2, e3]
  have ew : val a = a 0 + a 1 * 18446744073709551616 + a 2 * 340282366920938463463374607431768211456 + a 3 * 6277101735386680763835789423207666416102355444464034512896 := rfl
  omega

theorem cmpR_z {a b : Nat → Nat} (ha : Wds a) (hb : Wds b) : cmpR a b = cmpZ (sval a) (sval b) := by
  unfold cmpR
  rw [cmp_val (liftR_words a ha) (liftR_words b hb), liftR_val ha, liftR_val hb]
  unfold cmpZ
  by_cases h1 : sval a < sval b
  · rw [if_pos h1, if_pos (by omega)]
  · rw [if_neg h1, if_neg (by omega)]
    by_cases h2 : sval b < sval a
    · rw [if_pos h2, if_pos (by omega)]
    · rw [if_neg h2, if_neg (by omega)]

theorem ofR_sval {n : Int} (h1 : -9223372036854775808 ≤ n) (h2 : n ≤ 9223372036854775807) : sval (ofR n) = n := by
  refine sval_of (ofR_words n) ?_ (by omega) (by omega)
  have e0 : ofR n 0 = (n % 18446744073709551616).toNat := rfl
  by_cases hn : n < 0
  · have e1 : ofR n 1 = 18446744073709551615 := by simp [ofR, hn]
    have e2 : ofR n 2 = 18446744073709551615 := by simp [ofR, hn]
    have e3 : ofR n 3 = 18446744073709551615 := by simp [ofR, hn]
    unfold val
    rw [e0, e1, e2, e3]
    omega
  · have e1 : ofR n 1 = 0 := by simp [ofR, hn]
    have e2 : ofR n 2 = 0 := by simp [ofR, hn]
    have e3 : ofR n 3 = 0 := by simp [ofR, hn]
    unfold val
    rw [e0, e1, e2, e3]
    omega

theorem intB_z {a : Nat → Nat} (ha : Wds a) (h : intB a = true) : intI a = sval a ∧ -9223372036854775808 ≤ sval a ∧ sval a ≤ 9223372036854775807 := by
  have hi := intW_in (ha 0)
  have h2 := h
  unfold intB at h2
  rw [eqB_sval (ofR_words _) ha, ofR_sval hi.1 hi.2] at h2
  have h3 : intW (a 0) = sval a := by simpa using h2
  unfold intI
  rw [h, if_pos rfl, ← h3]
  exact ⟨rfl, hi⟩

theorem sizeR_z {a : Nat → Nat} (ha : Wds a) : (val (sizeR a) : Int) = if sval a < 0 then - sval a else sval a := by
  rw [sizeR_val ha]
  have := val_lt ha
  rcases sval_def ha with ⟨k1, k2, k3⟩ | ⟨k1, k2, k3⟩
  · rw [k2, if_pos rfl, k3, if_pos (by omega)]; omega
  · rw [k2, if_neg (by simp), k3, if_neg (by omega)]

theorem mul_parts {a b : Nat → Nat} (ha : Wds a) (hb : Wds b) :
    ∃ p : Int, 0 ≤ p ∧ (val (mulLo a b) : Int) = p % 115792089237316195423570985008687907853269984665640564039457584007913129639936 ∧ (val (hiR (mulLo a b)) : Int) = p / 115792089237316195423570985008687907853269984665640564039457584007913129639936 ∧
      ((lowB a == lowB b) = true ∧ sval a * sval b = p ∨ (lowB a == lowB b) = false ∧ sval a * sval b = -p) := by
  have ho : (val (mulLo a b) : Int) + val (hiR (mulLo a b)) * 115792089237316195423570985008687907853269984665640564039457584007913129639936 = val (sizeR a) * val (sizeR b) := by
    have h := out_val (sizeR a) (sizeR b)
    rw [← Int.natCast_mul, ← h]
    rw [Int.natCast_add, Int.natCast_mul]
    rfl
  have hl := val_lt (mulLo_words a b ha hb)
  have sa := sizeR_z ha
  have sb := sizeR_z hb
  rw [sa, sb] at ho
  rw [low_sval ha, low_sval hb, eq_bool]
  by_cases h1 : sval a < 0
  · by_cases h2 : sval b < 0
    · rw [if_pos h1, if_pos h2, Int.neg_mul_neg] at ho
      have := Int.mul_nonneg_of_nonpos_of_nonpos (Int.le_of_lt h1) (Int.le_of_lt h2)
      refine ⟨sval a * sval b, this, by omega, by omega, .inl ⟨by simp [h1, h2], rfl⟩⟩
    · rw [if_pos h1, if_neg h2, Int.neg_mul] at ho
      have := Int.mul_nonneg (a := - sval a) (b := sval b) (by omega) (by omega)
      rw [Int.neg_mul] at this
      refine ⟨-(sval a * sval b), this, by omega, by omega, .inr ⟨by simp [h1, h2], by omega⟩⟩
  · by_cases h2 : sval b < 0
    · rw [if_neg h1, if_pos h2, Int.mul_neg] at ho
      have := Int.mul_nonneg (a := sval a) (b := - sval b) (by omega) (by omega)
      rw [Int.mul_neg] at this
      refine ⟨-(sval a * sval b), this, by omega, by omega, .inr ⟨by simp [h1, h2], by omega⟩⟩
    · rw [if_neg h1, if_neg h2] at ho
      have := Int.mul_nonneg (a := sval a) (b := sval b) (by omega) (by omega)
      refine ⟨sval a * sval b, this, by omega, by omega, .inl ⟨by simp [h1, h2], rfl⟩⟩

theorem hiR_words {r : Nat → Nat} (h : Wds r) : Wds (hiR r) := fun i => h (i + 4)

theorem mulR_z {a b : Nat → Nat} (ha : Wds a) (hb : Wds b) : (val (mulR a b) : Int) = (sval a * sval b) % 115792089237316195423570985008687907853269984665640564039457584007913129639936 := by
  obtain ⟨p, hp, h1, h2, h3⟩ := mul_parts ha hb
  have hl := val_lt (mulLo_words a b ha hb)
  unfold mulR
  rcases h3 with ⟨h3, h4⟩ | ⟨h3, h4⟩
  · rw [if_pos h3, h4, h1]
  · rw [if_neg (by rw [h3]; simp), h4, negR_val (mulLo_words a b ha hb)]
    omega

theorem mulO_z {a b : Nat → Nat} (ha : Wds a) (hb : Wds b) : mulO a b = overZ (sval a * sval b) := by
  obtain ⟨p, hp, h1, h2, h3⟩ := mul_parts ha hb
  have hlw := mulLo_words a b ha hb
  have hl := val_lt hlw
  have hdl := sval_def hlw
  unfold mulO
  rw [eqB_val (hiR_words hlw) zr_words, zr_val]
  rcases h3 with ⟨h3, h4⟩ | ⟨h3, h4⟩
  · rw [h3, h4, if_pos rfl]
    by_cases hz : val (hiR (mulLo a b)) = 0
    · rw [if_pos (by simpa using hz), lowB_val hlw]
      unfold overZ
      rw [decide_eq_decide]
      omega
    · rw [if_neg (by simpa using hz)]
      unfold overZ
      symm
      simp only [decide_eq_true_eq]
      omega
  · rw [h3, h4]
    simp only [Bool.false_eq_true, if_false]
    by_cases hz : val (hiR (mulLo a b)) = 0
    · rw [if_pos (by simpa using hz), signI_z (negR_words _)]
      have hn := negR_val hlw
      have hd := sval_def (negR_words (mulLo a b))
      unfold overZ sgn
      rw [decide_eq_decide]
      by_cases h0 : sval (negR (mulLo a b)) = 0
      · rw [if_pos h0]; omega
      · rw [if_neg h0]
        by_cases h5 : sval (negR (mulLo a b)) < 0
        · rw [if_pos h5]; omega
        · rw [if_neg h5]; omega
    · rw [if_neg (by simpa using hz)]
      unfold overZ
      symm
      simp only [decide_eq_true_eq]
      omega

end Go.Proofs.Ytecgclkjglkkbaa
