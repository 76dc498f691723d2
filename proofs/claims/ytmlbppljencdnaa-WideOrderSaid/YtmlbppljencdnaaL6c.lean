/- WideOrder answers true at every input. -/
import Derived.Test.YtmlbppljencdnaaL6b
namespace Go.Proofs.Ytmlbppljencdnaa
open Go Go.RowKit Go.Shelf

theorem cmpZ_in (x y : Int) : -1 ≤ cmpZ x y ∧ cmpZ x y ≤ 1 := by
  unfold cmpZ
  split
  · omega
  · split <;> omega
theorem cmpZ_swap (x y : Int) : cmpZ y x = - cmpZ x y := by
  unfold cmpZ
  by_cases h1 : x < y
  · have h2 : ¬ y < x := by omega
    simp [h1, h2]
  · by_cases h2 : y < x
    · simp [h1, h2]
    · simp [h1, h2]
theorem cmpZ_zero (x y : Int) : (cmpZ x y == 0) = decide (x = y) := by
  unfold cmpZ
  by_cases h1 : x < y
  · rw [if_pos h1]
    symm
    rw [show ((-1 : Int) == 0) = false from rfl, decide_eq_false_iff_not]
    omega
  · rw [if_neg h1]
    by_cases h2 : y < x
    · rw [if_pos h2]
      symm
      rw [show ((1 : Int) == 0) = false from rfl, decide_eq_false_iff_not]
      omega
    · rw [if_neg h2]
      symm
      rw [show ((0 : Int) == 0) = true from rfl, decide_eq_true_eq]
      omega
theorem cmpZ_le (x y : Int) : decide (cmpZ x y ≤ 0) = decide (x ≤ y) := by
  unfold cmpZ
  rw [decide_eq_decide]
  split
  · omega
  · split <;> omega
theorem cmpZ_pos (x y : Int) : decide (0 < cmpZ x y) = decide (y < x) := by
  unfold cmpZ
  rw [decide_eq_decide]
  split
  · omega
  · split <;> omega
theorem cmpZ_neg (x y : Int) : cmpZ (-x) (-y) = - cmpZ x y := by
  rw [← cmpZ_swap]
  unfold cmpZ
  by_cases h1 : y < x
  · rw [if_pos h1, if_pos (by omega)]
  · rw [if_neg h1, if_neg (by omega)]
    by_cases h2 : x < y
    · rw [if_pos h2, if_pos (by omega)]
    · rw [if_neg h2, if_neg (by omega)]
theorem cmpZ_sgn (x : Int) : cmpZ x 0 = sgn x := by
  unfold cmpZ sgn
  by_cases h1 : x < 0
  · rw [if_pos h1, if_neg (by omega), if_pos h1]
  · rw [if_neg h1]
    by_cases h2 : 0 < x
    · rw [if_pos h2, if_neg (by omega), if_neg h1]
    · rw [if_neg h2, if_pos (by omega)]

theorem order_walk (a b c : Nat → Nat) (ha : Wds a) (hb : Wds b) (hc : Wds c) (w : World) :
    Calls Try.prog 6 #[.agg #[.int .u64 (a 0), .int .u64 (a 1), .int .u64 (a 2), .int .u64 (a 3)], .agg #[.int .u64 (b 0), .int .u64 (b 1), .int .u64 (b 2), .int .u64 (b 3)], .agg #[.int .u64 (c 0), .int .u64 (c 1), .int .u64 (c 2), .int .u64 (c 3)]] w fun e w' => e = .returned (.bool true) ∧ Below w.heap.size w w' := by
  have vx := negR_words a
  have vy := negR_words b
  have vz := ofR_words 0
  have zn := cmpR_z ha hb
  have hi := cmpZ_in (sval a) (sval b)
  rw [← zn] at hi
  have hm : cmpR b a = - cmpR a b := by rw [cmpR_z hb ha, zn, cmpZ_swap]
  have hcz : cmpR a (ofR 0) = signI a := by rw [cmpR_z ha vz, ofR_sval (by omega) (by omega), signI_z ha, cmpZ_sgn]
  have hze : (cmpR a b == 0) = eqB a b := by rw [zn, cmpZ_zero, eqB_sval ha hb]
  have hl1 : decide (cmpR a b < -1) = false := by rw [decide_eq_false_iff_not]; omega
  have hl2 : decide (1 < cmpR a b) = false := by rw [decide_eq_false_iff_not]; omega
  have hcx : negO a = false → negO b = false → cmpR (negR a) (negR b) = - cmpR a b := by
    intro h1 h2
    rw [negO_z ha] at h1
    rw [negO_z hb] at h2
    have k1 := over_false h1
    have k2 := over_false h2
    rw [cmpR_z vx vy, sval_of vx (negR_z ha) k1.1 k1.2, sval_of vy (negR_z hb) k2.1 k2.2, cmpZ_neg, zn]
  cases hg1 : decide (cmpR a b ≤ 0) with
  | false =>
    cases ho1 : negO a with
    | true => exact or_00 a b c _ _ _ _ _ _ _ _ _ ha hb hc vx vy vz rfl hm rfl rfl rfl rfl rfl rfl hcz rfl hi.1 hi.2 hze hl1 hl2 hg1 ho1 rfl w
    | false =>
      cases ho2 : negO b with
      | true => exact or_01 a b c _ _ _ _ false _ _ _ _ ha hb hc vx vy vz rfl hm rfl rfl rfl rfl rfl rfl hcz rfl hi.1 hi.2 hze hl1 hl2 hg1 ho1 ho2 w
      | false => exact or_02 a b c _ _ _ _ false _ _ _ _ ha hb hc vx vy vz rfl hm rfl rfl rfl rfl rfl rfl hcz rfl hi.1 hi.2 hze hl1 hl2 hg1 ho1 ho2 (hcx ho1 ho2) w
  | true =>
    cases hg2 : decide (cmpR b c ≤ 0) with
    | false =>
      cases ho1 : negO a with
      | true => exact or_10 a b c _ _ _ _ _ _ _ _ _ ha hb hc vx vy vz rfl hm rfl rfl rfl rfl rfl rfl hcz rfl hi.1 hi.2 hze hl1 hl2 hg1 hg2 ho1 rfl w
      | false =>
        cases ho2 : negO b with
        | true => exact or_11 a b c _ _ _ _ false _ _ _ _ ha hb hc vx vy vz rfl hm rfl rfl rfl rfl rfl rfl hcz rfl hi.1 hi.2 hze hl1 hl2 hg1 hg2 ho1 ho2 w
        | false => exact or_12 a b c _ _ _ _ false _ _ _ _ ha hb hc vx vy vz rfl hm rfl rfl rfl rfl rfl rfl hcz rfl hi.1 hi.2 hze hl1 hl2 hg1 hg2 ho1 ho2 (hcx ho1 ho2) w
    | true =>
      have hg3 : decide (0 < cmpR a c) = false := by
        have k1 := hg1
        have k2 := hg2
        rw [zn, cmpZ_le, decide_eq_true_eq] at k1
        rw [cmpR_z hb hc, cmpZ_le, decide_eq_true_eq] at k2
        rw [cmpR_z ha hc, cmpZ_pos, decide_eq_false_iff_not]
        omega
      cases ho1 : negO a with
      | true => exact or_20 a b c _ _ _ _ _ _ _ _ _ ha hb hc vx vy vz rfl hm rfl rfl rfl rfl rfl rfl hcz rfl hi.1 hi.2 hze hl1 hl2 hg1 hg2 hg3 ho1 rfl w
      | false =>
        cases ho2 : negO b with
        | true => exact or_21 a b c _ _ _ _ false _ _ _ _ ha hb hc vx vy vz rfl hm rfl rfl rfl rfl rfl rfl hcz rfl hi.1 hi.2 hze hl1 hl2 hg1 hg2 hg3 ho1 ho2 w
        | false => exact or_22 a b c _ _ _ _ false _ _ _ _ ha hb hc vx vy vz rfl hm rfl rfl rfl rfl rfl rfl hcz rfl hi.1 hi.2 hze hl1 hl2 hg1 hg2 hg3 ho1 ho2 (hcx ho1 ho2) w

end Go.Proofs.Ytmlbppljencdnaa
