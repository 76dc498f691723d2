/- Texts of the seat, joined. -/
import Derived.Test.YtcmfgabhgodlaaaDoorZz17
/- What follows of pulls, by whole numbers. -/
namespace Go.Proofs.YtcmfgabhgodlaaaDoor
open Go Go.RowKit
set_option linter.unusedSimpArgs false
set_option linter.unusedVariables false
set_option maxRecDepth 100000

/-- A root is nought just of nought. -/
theorem isq_zero {q : Nat} (hq : q < 57896044618658097711785492504343953926634992332820282019728792003956564819968) : isq q = 0 ↔ q = 0 := by
  have h := isq_ok hq
  constructor
  · intro h0
    rw [h0] at h
    omega
  · intro h0
    rw [h0, Nat.le_zero] at h
    have := h.1
    rcases Nat.eq_zero_or_pos (isq q) with h1 | h1
    · exact h1
    · rw [h0] at h1 ⊢
      have := Nat.mul_pos h1 h1
      omega
theorem isq_mono {p q : Nat} (hpq : p ≤ q) (hq : q < 57896044618658097711785492504343953926634992332820282019728792003956564819968) : isq p ≤ isq q := by
  refine Nat.le_of_not_lt (fun hc => ?_)
  have h1 := isq_ok (Nat.lt_of_le_of_lt hpq hq)
  have h2 := isq_ok hq
  have := Nat.mul_le_mul (show isq q + 1 ≤ isq p from hc) (show isq q + 1 ≤ isq p from hc)
  omega
theorem plA_lt {n d g m x s : Int} (h : okA n d g m x s) (hs : 0 < s) (hx : x * x ≤ s) : plA n g m x / plB d s < 57896044618658097711785492504343953926634992332820282019728792003956564819968 :=
  Nat.lt_of_le_of_lt (Nat.div_le_self _ _) (Nat.lt_of_le_of_lt (pl_facts h hs hx).2.1 (by decide))
/-- The square of the double. -/
def dbl2 (n g m : Int) : Int := 2 * n * g * m * (2 * n * g * m)
theorem plA_eq (n g m x : Int) : plA n g m x = (dbl2 n g m * (x * x)).natAbs := by
  unfold plA dbl2
  rw [Int.mul_assoc (2 * n * g * m * (2 * n * g * m)) x x]
theorem dbl2_nonneg (n g m : Int) : 0 ≤ dbl2 n g m := by
  unfold dbl2
  rcases Int.le_total 0 (2 * n * g * m) with h | h
  · exact Int.mul_nonneg h h
  · exact Int.mul_nonneg_of_nonpos_of_nonpos h h
theorem sq_nonneg (x : Int) : 0 ≤ x * x := by
  rcases Int.le_total 0 x with h | h
  · exact Int.mul_nonneg h h
  · exact Int.mul_nonneg_of_nonpos_of_nonpos h h
theorem plA_cast (n g m x : Int) : (plA n g m x : Int) = dbl2 n g m * (x * x) := by
  rw [plA_eq]
  exact Int.natAbs_of_nonneg (Int.mul_nonneg (dbl2_nonneg n g m) (sq_nonneg x))
theorem plH_nil {n d g m x s : Int} (h : plA n g m x = 0) : plH n d g m x s = 0 := by
  unfold plH
  rw [h, Nat.zero_div, (isq_zero (q := 0) (by decide)).2 rfl]
theorem dbl2_negn (n g m : Int) : dbl2 (-n) g m = dbl2 n g m := by
  unfold dbl2
  grind
theorem plA_negn (n g m x : Int) : plA (-n) g m x = plA n g m x := by rw [plA_eq, plA_eq, dbl2_negn]
theorem plA_negx (n g m x : Int) : plA n g m (-x) = plA n g m x := by rw [plA_eq, plA_eq, Int.neg_mul_neg]
theorem plA_x0 (n g m : Int) : plA n g m 0 = 0 := by rw [plA_eq]; simp
theorem plA_n0 (g m x : Int) : plA 0 g m x = 0 := by rw [plA_eq]; unfold dbl2; simp
theorem plK_nil {n d g m x s : Int} (h : plH n d g m x s = 0) : plK n d g m x s = 0 := by
  unfold plK
  rw [h]
  split <;> rfl
/-- Turned about. -/
theorem plK_negx (n d g m x s : Int) : plK n d g m (-x) s = -plK n d g m x s := by
  have eh : plH n d g m (-x) s = plH n d g m x s := by unfold plH; rw [plA_negx]
  by_cases hx : x = 0
  · subst hx
    have h0 : plH n d g m 0 s = 0 := plH_nil (plA_x0 n g m)
    rw [plK_nil h0, plK_nil (by rw [eh]; exact h0)]; rfl
  · unfold plK
    rw [eh]
    generalize (plH n d g m x s : Int) = q
    by_cases h1 : n < 0 <;> by_cases h2 : x < 0
    · rw [decide_eq_true h1, decide_eq_true h2, decide_eq_false (show ¬ -x < 0 by omega)]; simp
    · rw [decide_eq_true h1, decide_eq_false h2, decide_eq_true (show -x < 0 by omega)]; simp
    · rw [decide_eq_false h1, decide_eq_true h2, decide_eq_false (show ¬ -x < 0 by omega)]; simp
    · rw [decide_eq_false h1, decide_eq_false h2, decide_eq_true (show -x < 0 by omega)]; simp
theorem plK_negn (n d g m x s : Int) : plK (-n) d g m x s = -plK n d g m x s := by
  have eh : plH (-n) d g m x s = plH n d g m x s := by unfold plH; rw [plA_negn]
  by_cases hn : n = 0
  · subst hn
    have h0 : plH 0 d g m x s = 0 := plH_nil (plA_n0 g m x)
    rw [plK_nil h0, plK_nil (by rw [eh]; exact h0)]; rfl
  · unfold plK
    rw [eh]
    generalize (plH n d g m x s : Int) = q
    by_cases h1 : n < 0 <;> by_cases h2 : x < 0
    · rw [decide_eq_true h1, decide_eq_true h2, decide_eq_false (show ¬ -n < 0 by omega)]; simp
    · rw [decide_eq_true h1, decide_eq_false h2, decide_eq_false (show ¬ -n < 0 by omega)]; simp
    · rw [decide_eq_false h1, decide_eq_true h2, decide_eq_true (show -n < 0 by omega)]; simp
    · rw [decide_eq_false h1, decide_eq_false h2, decide_eq_true (show -n < 0 by omega)]; simp
/-- Which side. -/
theorem plK_abs (n d g m x s : Int) : plK n d g m x s = plH n d g m x s ∨ plK n d g m x s = -(plH n d g m x s : Int) := by
  unfold plK
  split
  · exact .inl rfl
  · exact .inr rfl
theorem plK_natAbs (n d g m x s : Int) : (plK n d g m x s).natAbs = plH n d g m x s := by
  rcases plK_abs n d g m x s with h | h <;> rw [h] <;> omega
/-- The nearest, by squares. -/
theorem plH_near {n d g m x s : Int} (h : okA n d g m x s) (hs : 0 < s) (hx : x * x ≤ s) :
    (0 < plH n d g m x s → (2 * plH n d g m x s - 1) * (2 * plH n d g m x s - 1) * plB d s ≤ plA n g m x) ∧ plA n g m x < (2 * plH n d g m x s + 1) * (2 * plH n d g m x s + 1) * plB d s := by
  have hb := (pl_facts h hs hx).2.2.2.1
  have hq := isq_ok (plA_lt h hs hx)
  have hm := Nat.div_add_mod (plA n g m x) (plB d s)
  have hr := Nat.mod_lt (plA n g m x) hb
  unfold plH
  generalize plA n g m x = A at *
  generalize plB d s = B at *
  generalize A / B = q at *
  generalize isq q = r at *
  constructor
  · intro h0
    have h1 : 2 * ((r + 1) / 2) - 1 ≤ r := by omega
    have h2 := Nat.mul_le_mul h1 h1
    have h3 : (2 * ((r + 1) / 2) - 1) * (2 * ((r + 1) / 2) - 1) * B ≤ q * B := Nat.mul_le_mul_right _ (Nat.le_trans h2 hq.1)
    rw [Nat.mul_comm q B] at h3
    omega
  · have h1 : r + 1 ≤ 2 * ((r + 1) / 2) + 1 := by omega
    have h2 := Nat.mul_le_mul h1 h1
    have h3 : (q + 1) * B ≤ (2 * ((r + 1) / 2) + 1) * (2 * ((r + 1) / 2) + 1) * B := Nat.mul_le_mul_right _ (by omega)
    rw [Nat.mul_comm (q + 1) B, Nat.mul_succ] at h3
    omega
theorem plH_zero {n d g m x s : Int} (h : okA n d g m x s) (hs : 0 < s) (hx : x * x ≤ s) : plH n d g m x s = 0 ↔ plA n g m x < plB d s := by
  have hb := (pl_facts h hs hx).2.2.2.1
  have h1 := isq_zero (plA_lt h hs hx)
  have h2 : plH n d g m x s = 0 ↔ isq (plA n g m x / plB d s) = 0 := by unfold plH; omega
  rw [h2, h1, Nat.div_eq_zero_iff]
  omega
theorem plK_zero {n d g m x s : Int} : plK n d g m x s = 0 ↔ plH n d g m x s = 0 := by
  have := plK_natAbs n d g m x s
  omega
/-- Its sign. -/
theorem plK_sign {n d g m x s : Int} (h : plK n d g m x s ≠ 0) : n ≠ 0 ∧ x ≠ 0 ∧ (decide (0 < plK n d g m x s) = (decide (0 < n) == decide (0 < x))) := by
  have hh : plH n d g m x s ≠ 0 := fun e => h (plK_nil e)
  have hn : n ≠ 0 := fun e => by subst e; exact hh (plH_nil (plA_n0 g m x))
  have hx : x ≠ 0 := fun e => by subst e; exact hh (plH_nil (plA_x0 n g m))
  refine ⟨hn, hx, ?_⟩
  unfold plK at h ⊢
  generalize plH n d g m x s = q at hh h ⊢
  by_cases h1 : n < 0 <;> by_cases h2 : x < 0
  · rw [decide_eq_true h1, decide_eq_true h2, decide_eq_false (show ¬ 0 < n by omega), decide_eq_false (show ¬ 0 < x by omega), if_pos (by rfl)]; simp; omega
  · rw [decide_eq_true h1, decide_eq_false h2, decide_eq_false (show ¬ 0 < n by omega), decide_eq_true (show 0 < x by omega), if_neg (by decide)]; simp
  · rw [decide_eq_false h1, decide_eq_true h2, decide_eq_true (show 0 < n by omega), decide_eq_false (show ¬ 0 < x by omega), if_neg (by decide)]; simp
  · rw [decide_eq_false h1, decide_eq_false h2, decide_eq_true (show 0 < n by omega), decide_eq_true (show 0 < x by omega), if_pos (by rfl)]; simp; omega
theorem plK_le {n d g m x s : Int} (h : okA n d g m x s) (hs : 0 < s) (hx : x * x ≤ s) : (plK n d g m x s).natAbs ≤ 2251799813685248 := by
  rw [plK_natAbs]; exact (pl_facts h hs hx).2.2.2.2.1
/-- Squares of ways. -/
theorem sqI_neg (x y z : Int) : sqI (-x) (-y) (-z) = sqI x y z := by unfold sqI; rw [Int.neg_mul_neg, Int.neg_mul_neg, Int.neg_mul_neg]
theorem sqI_rot (x y z : Int) : sqI y z x = sqI x y z := by unfold sqI; omega
theorem sqI_swp (x y z : Int) : sqI y x (-z) = sqI x y z := by unfold sqI; rw [Int.neg_mul_neg]; omega
theorem sqI_dbl (x y z : Int) : sqI (2 * x) (2 * y) (2 * z) = 4 * sqI x y z := by unfold sqI; grind

end Go.Proofs.YtcmfgabhgodlaaaDoor
