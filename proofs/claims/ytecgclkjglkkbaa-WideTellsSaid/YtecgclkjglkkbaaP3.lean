/- Plain mathematics: rests by 2^256. -/
import Derived.Test.YtecgclkjglkkbaaP2
namespace Go.Proofs.Ytecgclkjglkkbaa
open Go Go.RowKit
set_option linter.unusedSimpArgs false
set_option linter.unusedVariables false

theorem cong_self {a : Nat → Nat} (ha : Wds a) : (val a : Int) = sval a % 115792089237316195423570985008687907853269984665640564039457584007913129639936 := val_sval ha
theorem cong_add {a b : Nat → Nat} {x y : Int} (ha : Wds a) (hb : Wds b) (h1 : (val a : Int) = x % 115792089237316195423570985008687907853269984665640564039457584007913129639936) (h2 : (val b : Int) = y % 115792089237316195423570985008687907853269984665640564039457584007913129639936) : (val (addR a b) : Int) = (x + y) % 115792089237316195423570985008687907853269984665640564039457584007913129639936 := by
  rw [addR_z ha hb]
  have := val_sval ha
  have := val_sval hb
  omega
theorem cong_sub {a b : Nat → Nat} {x y : Int} (ha : Wds a) (hb : Wds b) (h1 : (val a : Int) = x % 115792089237316195423570985008687907853269984665640564039457584007913129639936) (h2 : (val b : Int) = y % 115792089237316195423570985008687907853269984665640564039457584007913129639936) : (val (subR a b) : Int) = (x - y) % 115792089237316195423570985008687907853269984665640564039457584007913129639936 := by
  rw [subR_z ha hb]
  have := val_sval ha
  have := val_sval hb
  omega
theorem cong_neg {a : Nat → Nat} {x : Int} (ha : Wds a) (h1 : (val a : Int) = x % 115792089237316195423570985008687907853269984665640564039457584007913129639936) : (val (negR a) : Int) = (-x) % 115792089237316195423570985008687907853269984665640564039457584007913129639936 := by
  rw [negR_z ha]
  have := val_sval ha
  omega
theorem cong_mul {a b : Nat → Nat} {x y : Int} (ha : Wds a) (hb : Wds b) (h1 : (val a : Int) = x % 115792089237316195423570985008687907853269984665640564039457584007913129639936) (h2 : (val b : Int) = y % 115792089237316195423570985008687907853269984665640564039457584007913129639936) : (val (mulR a b) : Int) = (x * y) % 115792089237316195423570985008687907853269984665640564039457584007913129639936 := by
  rw [mulR_z ha hb, Int.mul_emod, ← val_sval ha, ← val_sval hb, h1, h2, ← Int.mul_emod]
theorem cong_eq {a b : Nat → Nat} {x y : Int} (ha : Wds a) (hb : Wds b) (h1 : (val a : Int) = x % 115792089237316195423570985008687907853269984665640564039457584007913129639936) (h2 : (val b : Int) = y % 115792089237316195423570985008687907853269984665640564039457584007913129639936) (h : x = y) : eqB a b = true := by
  rw [eqB_val ha hb]
  simp only [decide_eq_true_eq]
  subst h
  omega

theorem over_false {z : Int} (h : overZ z = false) : -57896044618658097711785492504343953926634992332820282019728792003956564819968 ≤ z ∧ z < 57896044618658097711785492504343953926634992332820282019728792003956564819968 := by
  unfold overZ at h
  rw [decide_eq_false_iff_not] at h
  omega
theorem over_of {z : Int} (h1 : -57896044618658097711785492504343953926634992332820282019728792003956564819968 ≤ z) (h2 : z < 57896044618658097711785492504343953926634992332820282019728792003956564819968) : overZ z = false := by
  unfold overZ
  rw [decide_eq_false_iff_not]
  omega

theorem sq_diff (x y : Int) : (x + y) * (x - y) = x * x - y * y := by
  rw [Int.mul_sub, Int.add_mul, Int.add_mul, Int.mul_comm y x]
  omega
theorem sq_nonneg (x : Int) : 0 ≤ x * x := by
  by_cases h : 0 ≤ x
  · exact Int.mul_nonneg h h
  · exact Int.mul_nonneg_of_nonpos_of_nonpos (by omega) (by omega)
theorem sq_cmp {x y : Int} (hx : 0 ≤ x) (hy : 0 ≤ y) : cmpZ (x * x) (y * y) = cmpZ x y := by
  unfold cmpZ
  by_cases h1 : x < y
  · have : x * x < y * y := by
      have h2 := Int.mul_le_mul_of_nonneg_left (Int.le_of_lt h1) hx
      have h3 := Int.mul_lt_mul_of_pos_right h1 (show 0 < y by omega)
      omega
    rw [if_pos h1, if_pos this]
  · by_cases h2 : y < x
    · have : y * y < x * x := by
        have h2' := Int.mul_le_mul_of_nonneg_left (Int.le_of_lt h2) hy
        have h3 := Int.mul_lt_mul_of_pos_right h2 (show 0 < x by omega)
        omega
      rw [if_neg h1, if_pos h2, if_neg (by omega), if_pos this]
    · have : x = y := by omega
      subst this
      simp

theorem sgn_neg (z : Int) : decide (sgn z < 0) = decide (z < 0) := by
  unfold sgn
  rw [decide_eq_decide]
  split
  · omega
  · split <;> omega
theorem sgn_nonneg (z : Int) : decide (0 ≤ sgn z) = decide (0 ≤ z) := by
  unfold sgn
  rw [decide_eq_decide]
  split
  · omega
  · split <;> omega

end Go.Proofs.Ytecgclkjglkkbaa
