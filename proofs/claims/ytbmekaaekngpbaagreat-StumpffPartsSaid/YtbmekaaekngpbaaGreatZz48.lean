/- Texts of the seat, joined. -/
import Derived.Test.YtbmekaaekngpbaaGreatZz47
/- The four series: what their sums come to beside each other. -/
namespace Go.Proofs.YtbmekaaekngpbaaGreat
set_option linter.unusedSimpArgs false
set_option linter.unusedVariables false
set_option maxRecDepth 100000

theorem div_absR {y d E : Rat} (hd : 0 < d) (h1 : -(d * E) ≤ y) (h2 : y ≤ d * E) : -E ≤ y / d ∧ y / d ≤ E := by
  have pe : d * (y / d) = y := by
    have := Rat.mul_inv_cancel d (by grind)
    grind
  refine ⟨Rat.le_of_mul_le_mul_left (c := d) ?_ hd, Rat.le_of_mul_le_mul_left (c := d) ?_ hd⟩
  · rw [pe]; grind
  · rw [pe]; exact h2
theorem dS_posR (k n : Nat) : (0 : Rat) < (dS k n : Rat) := by exact_mod_cast dS_pos k n
theorem ceilR {a d : Int} (hd : 0 < d) : (a : Rat) ≤ (d : Rat) * (((a + d - 1) / d : Int) : Rat) := by
  rw [← Rat.intCast_mul]; exact Rat.intCast_le_intCast.2 (ceil_le hd)
theorem uT_0 (k : Nat) (x y : Rat) : uT k x 0 = uT k y 0 := rfl
theorem uT_in {k : Nat} (hk : k ≤ 3) {x : Rat} (h1 : -17179869184 ≤ x) (h2 : x ≤ 17179869184) : ∀ n, n ≤ 14 → -(BS k n : Rat) ≤ uT k x n ∧ uT k x n ≤ (BS k n : Rat)
  | 0, _ => by
    have : k = 0 ∨ k = 1 ∨ k = 2 ∨ k = 3 := by omega
    show -((1073741824 : Int) : Rat) ≤ (if k = 2 then 1073741824 / 2 else if k = 3 then 1073741824 / 6 else 1073741824 : Rat) ∧ (if k = 2 then 1073741824 / 2 else if k = 3 then 1073741824 / 6 else 1073741824 : Rat) ≤ ((1073741824 : Int) : Rat)
    rcases this with rfl | rfl | rfl | rfl <;> exact ⟨by decide +kernel, by decide +kernel⟩
  | n + 1, hn => by
    have ih := uT_in hk h1 h2 n (by omega)
    have m := mulR_abs ih.1 ih.2 h1 h2
    have c := ceilR (a := 16 * BS k n) (dS_pos k n)
    have p := dS_posR k n
    rw [Rat.intCast_mul, show ((16 : Int) : Rat) = 16 from rfl] at c
    have e : uT k x (n + 1) = -(uT k x n * x / 1073741824) / (dS k n : Rat) := by
      show -(uT k x n * x / 1073741824 / (dS k n : Rat)) = _
      grind
    rw [e]
    show -(((16 * BS k n + dS k n - 1) / dS k n : Int) : Rat) ≤ _ ∧ _ ≤ (((16 * BS k n + dS k n - 1) / dS k n : Int) : Rat)
    generalize (((16 * BS k n + dS k n - 1) / dS k n : Int) : Rat) = E at *
    refine div_absR p ?_ ?_ <;> grind
/-- Terms do not change by more than this. -/
theorem uT_far {k : Nat} (hk : k ≤ 3) {x y D : Rat} (h1 : -17179869184 ≤ x) (h2 : x ≤ 17179869184) (h3 : -17179869184 ≤ y) (h4 : y ≤ 17179869184) (d1 : -D ≤ x - y) (d2 : x - y ≤ D) :
    ∀ n, n ≤ 14 → -((LS k n : Rat) * D) ≤ (uT k x n - uT k y n) * 1073741824 ∧ (uT k x n - uT k y n) * 1073741824 ≤ (LS k n : Rat) * D
  | 0, _ => by
    rw [uT_0 k x y]
    show -(((0 : Int) : Rat) * D) ≤ _ ∧ _ ≤ ((0 : Int) : Rat) * D
    rw [show ((0 : Int) : Rat) = 0 from rfl]
    grind
  | n + 1, hn => by
    have ih := uT_far hk h1 h2 h3 h4 d1 d2 n (by omega)
    have b := uT_in hk h3 h4 n (by omega)
    have m1 := mulR_abs ih.1 ih.2 h1 h2
    have m2 := mulR_abs b.1 b.2 d1 d2
    have c := ceilR (a := 16 * LS k n + BS k n) (dS_pos k n)
    have p := dS_posR k n
    have D0 : 0 ≤ D := by grind
    have c' := Rat.mul_le_mul_of_nonneg_right c D0
    rw [Rat.intCast_add, Rat.intCast_mul, show ((16 : Int) : Rat) = 16 from rfl] at c'
    have e : (uT k x (n + 1) - uT k y (n + 1)) * 1073741824 = (-((uT k x n - uT k y n) * 1073741824 * x / 1073741824) - uT k y n * (x - y)) / (dS k n : Rat) := by
      show (-(uT k x n * x / 1073741824 / (dS k n : Rat)) - -(uT k y n * y / 1073741824 / (dS k n : Rat))) * 1073741824 = _
      grind
    rw [e]
    show -((((16 * LS k n + BS k n + dS k n - 1) / dS k n : Int) : Rat) * D) ≤ _ ∧ _ ≤ (((16 * LS k n + BS k n + dS k n - 1) / dS k n : Int) : Rat) * D
    generalize (((16 * LS k n + BS k n + dS k n - 1) / dS k n : Int) : Rat) = E at *
    generalize (uT k x n - uT k y n) * 1073741824 = u at *
    generalize uT k y n = v at *
    generalize (LS k n : Rat) = L at *
    generalize (BS k n : Rat) = B at *
    refine div_absR p ?_ ?_ <;> grind
theorem uS_far' {k : Nat} (hk : k ≤ 3) {x y D : Rat} (h1 : -17179869184 ≤ x) (h2 : x ≤ 17179869184) (h3 : -17179869184 ≤ y) (h4 : y ≤ 17179869184) (d1 : -D ≤ x - y) (d2 : x - y ≤ D) :
    ∀ n, n ≤ 14 → -((LSS k n : Rat) * D) ≤ (uS k x n - uS k y n) * 1073741824 ∧ (uS k x n - uS k y n) * 1073741824 ≤ (LSS k n : Rat) * D
  | 0, _ => by
    show -(((0 : Int) : Rat) * D) ≤ (0 - 0) * 1073741824 ∧ (0 - 0) * 1073741824 ≤ ((0 : Int) : Rat) * D
    rw [show ((0 : Int) : Rat) = 0 from rfl]
    grind
  | n + 1, hn => by
    have ih := uS_far' hk h1 h2 h3 h4 d1 d2 n (by omega)
    have t := uT_far hk h1 h2 h3 h4 d1 d2 n (by omega)
    show -(((LSS k n + LS k n : Int) : Rat) * D) ≤ (uS k x n + uT k x n - (uS k y n + uT k y n)) * 1073741824 ∧ (uS k x n + uT k x n - (uS k y n + uT k y n)) * 1073741824 ≤ ((LSS k n + LS k n : Int) : Rat) * D
    rw [Rat.intCast_add]
    grind
/-- No slope is steeper than 4. -/
theorem uS_far {k : Nat} (hk : k ≤ 3) {x y D : Rat} (h1 : -17179869184 ≤ x) (h2 : x ≤ 17179869184) (h3 : -17179869184 ≤ y) (h4 : y ≤ 17179869184) (d1 : -D ≤ x - y) (d2 : x - y ≤ D) :
    -(4 * D) ≤ uS k x 14 - uS k y 14 ∧ uS k x 14 - uS k y 14 ≤ 4 * D := by
  have h := uS_far' hk h1 h2 h3 h4 d1 d2 14 (by decide)
  have l : (LSS k 14 : Rat) ≤ 4294967296 := Rat.intCast_le_intCast.2 (LSS_ok k hk)
  have D0 : 0 ≤ D := by grind
  have m := Rat.mul_le_mul_of_nonneg_right l D0
  grind
/-- Of points that are not above 0 the lesser one's sums are no less. -/
theorem uT_falls {k : Nat} {x y : Rat} (h1 : x ≤ y) (h2 : y ≤ 0) : ∀ n, 0 ≤ uT k y n ∧ uT k y n ≤ uT k x n
  | 0 => by
    rw [uT_0 k x y]
    refine ⟨?_, Rat.le_refl⟩
    show (0 : Rat) ≤ if k = 2 then 1073741824 / 2 else if k = 3 then 1073741824 / 6 else 1073741824
    split
    · decide +kernel
    · split <;> decide +kernel
  | n + 1 => by
    have ih := uT_falls (k := k) h1 h2 n
    have p := dS_posR k n
    have i : (0 : Rat) < (dS k n : Rat)⁻¹ := Rat.inv_pos.2 p
    have m1 : 0 ≤ uT k y n * -y := Rat.mul_nonneg ih.1 (by grind)
    have m2 : 0 ≤ (uT k x n - uT k y n) * -x := Rat.mul_nonneg (by grind) (by grind)
    have m3 : 0 ≤ uT k y n * (y - x) := Rat.mul_nonneg ih.1 (by grind)
    have e : ∀ z : Rat, uT k z (n + 1) = uT k z n * -z * (dS k n : Rat)⁻¹ / 1073741824 := by
      intro z
      show -(uT k z n * z / 1073741824 / (dS k n : Rat)) = _
      rw [Rat.div_def _ (dS k n : Rat)]
      grind
    rw [e x, e y]
    have n1 := Rat.mul_nonneg m1 (Rat.le_of_lt i)
    have n2 : 0 ≤ (uT k x n * -x - uT k y n * -y) * (dS k n : Rat)⁻¹ := Rat.mul_nonneg (by grind) (Rat.le_of_lt i)
    grind
theorem uS_falls {k : Nat} {x y : Rat} (h1 : x ≤ y) (h2 : y ≤ 0) : ∀ n, uS k y n ≤ uS k x n
  | 0 => Rat.le_refl
  | n + 1 => by
    have ih := uS_falls (k := k) h1 h2 n
    have t := uT_falls (k := k) h1 h2 n
    show uS k y n + uT k y n ≤ uS k x n + uT k x n
    grind
/-- The point times the series after the next one's terms are those of this one, turned about. -/
theorem uT_two {k : Nat} (hk : k ≤ 1) (x : Rat) : ∀ n, x * uT (k + 2) x n / 1073741824 = -uT k x (n + 1)
  | 0 => by
    have : k = 0 ∨ k = 1 := by omega
    rcases this with rfl | rfl
    · show x * (1073741824 / 2) / 1073741824 = - -(1073741824 * x / 1073741824 / ((2 : Int) : Rat))
      rw [show ((2 : Int) : Rat) = 2 from rfl]
      grind
    · show x * (1073741824 / 6) / 1073741824 = - -(1073741824 * x / 1073741824 / ((6 : Int) : Rat))
      rw [show ((6 : Int) : Rat) = 6 from rfl]
      grind
  | n + 1 => by
    have ih := uT_two hk x n
    have d : dS (k + 2) n = dS k (n + 1) := by
      unfold dS
      rw [show k + 2 + 2 * n = k + 2 * (n + 1) by omega]
    show x * -(uT (k + 2) x n * x / 1073741824 / (dS (k + 2) n : Rat)) / 1073741824 = - -(uT k x (n + 1) * x / 1073741824 / (dS k (n + 1) : Rat))
    rw [d]
    generalize uT (k + 2) x n = a at *
    generalize uT k x (n + 1) = b at *
    rw [Rat.div_def _ (dS k (n + 1) : Rat), Rat.div_def _ (dS k (n + 1) : Rat)]
    grind
theorem uS_two {k : Nat} (hk : k ≤ 1) (x : Rat) : ∀ n, uS k x (n + 1) + x * uS (k + 2) x n / 1073741824 = 1073741824
  | 0 => by
    have : k = 0 ∨ k = 1 := by omega
    rcases this with rfl | rfl
    · show (0 + 1073741824 : Rat) + x * 0 / 1073741824 = 1073741824
      grind
    · show (0 + 1073741824 : Rat) + x * 0 / 1073741824 = 1073741824
      grind
  | n + 1 => by
    have ih := uS_two hk x n
    have t := uT_two hk x n
    show uS k x (n + 1) + uT k x (n + 1) + x * (uS (k + 2) x n + uT (k + 2) x n) / 1073741824 = 1073741824
    grind
end Go.Proofs.YtbmekaaekngpbaaGreat
