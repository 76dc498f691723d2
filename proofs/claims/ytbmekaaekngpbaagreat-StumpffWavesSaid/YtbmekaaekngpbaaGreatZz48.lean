/- Texts of the seat, joined. -/
import Derived.Test.YtbmekaaekngpbaaGreatZz47
/- The four series: what their sums come to beside each other. -/
namespace Go.Proofs.YtbmekaaekngpbaaGreat
set_option linter.unusedSimpArgs false
set_option linter.unusedVariables false
set_option maxRecDepth 100000

theorem div_absR {y d E : Rat} (hd : 0 < d) (h1 : -(d * E) ≤ y) (h2 : y ≤ d * E) : -E ≤ y / d ∧ y / d ≤ E := by
  have pe : d * (y / d) = y := by
    have := Rat.mul_inv_cancel d (by grind)
    grind
  refine ⟨Rat.le_of_mul_le_mul_left (c := d) ?_ hd, Rat.le_of_mul_le_mul_left (c := d) ?_ hd⟩
  · rw [pe]; grind
  · rw [pe]; exact h2
theorem dS_posR (k n : Nat) : (0 : Rat) < (dS k n : Rat) := by exact_mod_cast dS_pos k n
theorem ceilR {a d : Int} (hd : 0 < d) : (a : Rat) ≤ (d : Rat) * (((a + d - 1) / d : Int) : Rat) := by
  rw [← Rat.intCast_mul]; exact Rat.intCast_le_intCast.2 (ceil_le hd)
theorem uT_0 (k : Nat) (x y : Rat) : uT k x 0 = uT k y 0 := rfl
theorem uT_in {k : Nat} (hk : k ≤ 3) {x : Rat} (h1 : -17179869184 ≤ x) (h2 : x ≤ 17179869184) : ∀ n, n ≤ 14 → -(BS k n : Rat) ≤ uT k x n ∧ uT k x n ≤ (BS k n : Rat)
  | 0, _ => by
    have : k = 0 ∨ k = 1 ∨ k = 2 ∨ k = 3 := by omega
    show -((1073741824 : Int) : Rat) ≤ (if k = 2 then 1073741824 / 2 else if k = 3 then 1073741824 / 6 else 1073741824 : Rat) ∧ (if k = 2 then 1073741824 / 2 else if k = 3 then 1073741824 / 6 else 1073741824 : Rat) ≤ ((1073741824 : Int) : Rat)
    rcases this with rfl | rfl | rfl | rfl <;> exact ⟨by decide +kernel, by decide +kernel⟩
  | n + 1, hn => by
    have ih := uT_in hk h1 h2 n (by omega)
    have m := mulR_abs ih.1 ih.2 h1 h2
    have c := ceilR (a := 16 * BS k n) (dS_pos k n)
    have p := dS_posR k n
    rw [Rat.intCast_mul, show ((16 : Int) : Rat) = 16 from rfl] at c
    have e : uT k x (n + 1) = -(uT k x n * x / 1073741824) / (dS k n : Rat) := by
      show -(uT k x n * x / 1073741824 / (dS k n : Rat)) = _
      grind
    rw [e]
    show -(((16 * BS k n + dS k n - 1) / dS k n : Int) : Rat) ≤ _ ∧ _ ≤ (((16 * BS k n + dS k n - 1) / dS k n : Int) : Rat)
    generalize (((16 * BS k n + dS k n - 1) / dS k n : Int) : Rat) = E at *
    refine div_absR p ?_ ?_ <;> grind
/-- Terms do not change by more than this. -/
theorem uT_far {k : Nat} (hk : k ≤ 3) {x y D : Rat} (h1 : -17179869184 ≤ x) (h2 : x ≤ 17179869184) (h3 : -17179869184 ≤ y) (h4 : y ≤ 17179869184) (d1 : -D ≤ x - y) (d2 : x - y ≤ D) :
    ∀ n, n ≤ 14 → -((LS k n : Rat) * D) ≤ (uT k x n - uT k y n) * 1073741824 ∧ (uT k x n - uT k y n) * 1073741824 ≤ (LS k n : Rat) * D
  | 0, _ => by
    rw [uT_0 k x y]
    show -(((0 : Int) : Rat) * D) ≤ _ ∧ _ ≤ ((0 : Int) : Rat) * D
    rw [show ((0 : Int) : Rat) = 0 from rfl]
    grind
  | n + 1, hn => by
    have ih := uT_far hk h1 h2 h3 h4 d1 d2 n (by omega)
    have b := uT_in hk h3 h4 n (by omega)
    have m1 := mulR_abs ih.1 ih.2 h1 h2
    have m2 := mulR_abs b.1 b.2 d1 d2
    have c := ceilR (a := 16 * LS k n + BS k n) (dS_pos k n)
    have p := dS_posR k n
    have D0 : 0 ≤ D := by grind
    have c' := Rat.mul_le_mul_of_nonneg_right c D0
    rw [Rat.intCast_add, Rat.intCast_mul, show ((16 : Int) : Rat) = 16 from rfl] at c'
    have e : (uT k x (n + 1) - uT k y (n + 1)) * 1073741824 = (-((uT k x n - uT k y n) * 1073741824 * x / 1073741824) - uT k y n * (x - y)) / (dS k n : Rat) := by
      show (-(uT k x n * x / 1073741824 / (dS k n : Rat)) - -(uT k y n * y / 1073741824 / (dS k n : Rat))) * 1073741824 = _
      grind
    rw [e]
    show -((((16 * LS k n + BS k n + dS k n - 1) / dS k n : Int) : Rat) * D) ≤ _ ∧ _ ≤ (((16 * LS k n + BS k n + dS k n - 1) / dS k n : Int) : Rat) * D
    generalize (((16 * LS k n + BS k n + dS k n - 1) / dS k n : Int) : Rat) = E at *
    generalize (uT k x n - uT k y n) * 1073741824 = u at *
    generalize uT k y n = v at *
    generalize (LS k n : Rat) = L at *
    generalize (BS k n : Rat) = B at *
    refine div_absR p ?_ ?_ <;> grind
theorem uS_far' {k : Nat} (hk : k ≤ 3) {x y D : Rat} (h1 : -17179869184 ≤ x) (h2 : x ≤ 17179869184) (h3 : -17179869184 ≤ y) (h4 : y ≤ 17179869184) (d1 : -D ≤ x - y) (d2 : x - y ≤ D) :
    ∀ n, n ≤ 14 → -((LSS k n : Rat) * D) ≤ (uS k x n - uS k y n) * 1073741824 ∧ (uS k x n - uS k y n) * 1073741824 ≤ (LSS k n : Rat) * D
  | 0, _ => by
    show -(((0 : Int) : Rat) * D) ≤ (0 - 0) * 1073741824 ∧ (0 - 0) * 1073741824 ≤ ((0 : Int) : Rat) * D
    rw [show ((0 : Int) : Rat) = 0 from rfl]
    grind
  | n + 1, hn => by
    have ih := uS_far' hk h1 h2 h3 h4 d1 d2 n (by omega)
    have t := uT_far hk h1 h2 h3 h4 d1 d2 n (by omega)
    show -(((LSS k n + LS k n : Int) : Rat) * D) ≤ (uS k x n + uT k x n - (uS k y n + uT k y n)) * 1073741824 ∧ (uS k x n + uT k x n - (uS k y n + uT k y n)) * 1073741824 ≤ ((LSS k n + LS k n : Int) : Rat) * D
    rw [Rat.intCast_add]
    grind
/-- No slope is steeper than 4. -/
theorem uS_far {k : Nat} (hk : k ≤ 3) {x y D : Rat} (h1 : -17179869184 ≤ x) (h2 : x ≤ 17179869184) (h3 : -17179869184 ≤ y) (h4 : y ≤ 17179869184) (d1 : -D ≤ x - y) (d2 : x - y ≤ D) :
    -(4 * D) ≤ uS k x 14 - uS k y 14 ∧ uS k x 14 - uS k y 14 ≤ 4 * D := by
  have h := uS_far' hk h1 h2 h3 h4 d1 d2 14 (by decide)
  have l : (LSS k 14 : Rat) ≤ 4294967296 := Rat.intCast_le_intCast.2 (LSS_ok k hk)
  have D0 : 0 ≤ D := by grind
  have m := Rat.mul_le_mul_of_nonneg_right l D0
  grind
/-- Of points that are not above 0 the lesser one's sums are no less. -/
theorem uT_falls {k : Nat} {x y : Rat} (h1 : x ≤ y) (h2 : y ≤ 0) : ∀ n, 0 ≤ uT k y n ∧ uT k y n ≤ uT k x n
  | 0 => by
    rw [uT_0 k x y]
    refine ⟨?_, Rat.le_refl⟩
    show (0 : Rat) ≤ if k = 2 then 1073741824 / 2 else if k = 3 then 1073741824 / 6 else 1073741824
    split
    · decide +kernel
    · split <;> decide +kernel
  | n + 1 => by
    have ih := uT_falls (k := k) h1 h2 n
    have p := dS_posR k n
    have i : (0 : Rat) < (dS k n : Rat)⁻¹ := Rat.inv_pos.2 p
    have m1 : 0 ≤ uT k y n * -y := Rat.mul_nonneg ih.1 (by grind)
    have m2 : 0 ≤ (uT k x n - uT k y n) * -x := Rat.mul_nonneg (by grind) (by grind)
    have m3 : 0 ≤ uT k y n * (y - x) := Rat.mul_nonneg ih.1 (by grind)
    have e : ∀ z : Rat, uT k z (n + 1) = uT k z n * -z * (dS k n : Rat)⁻¹ / 1073741824 := by
      intro z
      show -(uT k z n * z / 1073741824 / (dS k n : Rat)) = _
      rw [Rat.div_def _ (dS k n : Rat)]
      grind
    rw [e x, e y]
    have n1 := Rat.mul_nonneg m1 (Rat.le_of_lt i)
    have n2 : 0 ≤ (uT k x n * -x - uT k y n * -y) * (dS k n : Rat)⁻¹ := Rat.mul_nonneg (by grind) (Rat.le_of_lt i)
    grind
theorem uS_falls {k : Nat} {x y : Rat} (h1 : x ≤ y) (h2 : y ≤ 0) : ∀ n, uS k y n ≤ uS k x n
  | 0 => Rat.le_refl
  | n + 1 => by
    have ih := uS_falls (k := k) h1 h2 n
    have t := uT_falls (k := k) h1 h2 n
    show uS k y n + uT k y n ≤ uS k x n + uT k x n
    grind
/-- The point times the series after the next one's terms are those of this one, turned about. -/
theorem uT_two {k : Nat} (hk : k ≤ 1) (x : Rat) : ∀ n, x * uT (k + 2) x n / 1073741824 = -uT k x (n + 1)
  | 0 => by
    have : k = 0 ∨ k = 1 := by omega
    rcases this with rfl | rfl
    · show x * (1073741824 / 2) / 1073741824 = - -(1073741824 * x / 1073741824 / ((2 : Int) : Rat))
      rw [show ((2 : Int) : Rat) = 2 from rfl]
      grind
    · show x * (1073741824 / 6) / 1073741824 = - -(1073741824 * x / 1073741824 / ((6 : Int) : Rat))
      rw [show ((6 : Int) : Rat) = 6 from rfl]
      grind
  | n + 1 => by
    have ih := uT_two hk x n
    have d : dS (k + 2) n = dS k (n + 1) := by
      unfold dS
      rw [show k + 2 + 2 * n = k + 2 * (n + 1) by omega]
    show x * -(uT (k + 2) x n * x / 1073741824 / (dS (k + 2) n : Rat)) / 1073741824 = - -(uT k x (n + 1) * x / 1073741824 / (dS k (n + 1) : Rat))
    rw [d]
    generalize uT (k + 2) x n = a at *
    generalize uT k x (n + 1) = b at *
    rw [Rat.div_def _ (dS k (n + 1) : Rat), Rat.div_def _ (dS k (n + 1) : Rat)]
    grind
theorem uS_two {k : Nat} (hk : k ≤ 1) (x : Rat) : ∀ n, uS k x (n + 1) + x * uS (k + 2) x n / 1073741824 = 1073741824
  | 0 => by
    have : k = 0 ∨ k = 1 := by omega
    rcases this with rfl | rfl
    · show (0 + 1073741824 : Rat) + x * 0 / 1073741824 = 1073741824
      grind
    · show (0 + 1073741824 : Rat) + x * 0 / 1073741824 = 1073741824
      grind
  | n + 1 => by
    have ih := uS_two hk x n
    have t := uT_two hk x n
    show uS k x (n + 1) + uT k x (n + 1) + x * (uS (k + 2) x n + uT (k + 2) x n) / 1073741824 = 1073741824
    grind
end Go.Proofs.YtbmekaaekngpbaaGreat

/- The four series: what they come to of four times a point, and of squares. -/
namespace Go.Proofs.YtbmekaaekngpbaaGreat
set_option linter.unusedSimpArgs false
set_option linter.unusedVariables false
set_option maxRecDepth 100000

def dk (k : Nat) : Nat → List Int
  | 0 => []
  | n + 1 => dk k n ++ [dS k n]
theorem dk_pos {k : Nat} : ∀ {n : Nat} {d : Int}, d ∈ dk k n → 0 < d
  | 0, d, h => by cases h
  | n + 1, d, h => by
    rw [dk, List.mem_append, List.mem_singleton] at h
    rcases h with h | rfl
    · exact dk_pos h
    · exact dS_pos k n
theorem uT_last (k : Nat) (x : Rat) : ∀ n, uT k x n = lastT (x / 1073741824) (uT k x 0) (dk k n)
  | 0 => rfl
  | n + 1 => by
    rw [dk, lastT_app, ← uT_last k x n]
    show -(uT k x n * x / 1073741824 / (dS k n : Rat)) = _
    rw [Rat.div_def _ (dS k n : Rat), Rat.div_def _ (dS k n : Rat)]
    grind
theorem uS_sum (k : Nat) (x : Rat) : ∀ n, uS k x n = sumT (x / 1073741824) (uT k x 0) (dk k n)
  | 0 => rfl
  | n + 1 => by
    rw [dk, sumT_app, ← uT_last k x n, ← uS_sum k x n]
    rfl
theorem uS_row (k : Nat) (x : Rat) : uS k x 14 = uT k x 0 * gR (x / 1073741824) (dk k 13) := by
  have s := ser (x / 1073741824) [] (dk k 13) (uT k x 0)
  rw [List.append_nil, ← uT_last, ← uS_sum] at s
  rw [s]
  show uS k x 13 + uT k x 13 = uS k x 13 + uT k x 13 * 1
  grind
/-! As polynomials. -/
def kH (h : Int) : List Int → List Int × Int
  | [] => ([1], 1)
  | d :: r => (h * d * (kH h r).2 :: neg1 (kH h r).1, h * d * (kH h r).2)
theorem kH_gR {h x : Int} (hh : (h : Rat) ≠ 0) : ∀ (l : List Int), (∀ d ∈ l, 0 < d) → ((ev1 (kH h l).1 x : Int) : Rat) = ((kH h l).2 : Rat) * gR ((x : Rat) / h) l
  | [], _ => by simp [kH, ev1, gR]
  | d :: r, hd => by
    have ih := kH_gR (x := x) hh r fun e he => hd e (by simp [he])
    have h0 : (d : Rat) ≠ 0 := by
      have := hd d (by simp)
      intro h
      have : d = 0 := by exact_mod_cast h
      omega
    simp only [kH, ev1, ev1_neg, gR, Rat.intCast_add, Rat.intCast_mul, Rat.intCast_neg, ih]
    grind
def xs (c : Int) : Int → List Int → List Int
  | _, [] => []
  | m, a :: l => m * a :: xs c (m * c) l
theorem ev1_xs (c : Int) : ∀ (l : List Int) (m y : Int), ev1 (xs c m l) y = m * ev1 l (c * y)
  | [], m, y => by simp [xs, ev1]
  | a :: l, m, y => by simp only [xs, ev1, ev1_xs c l]; grind
def G0 : List Int × Int := kH 1073741824 (dk 0 13)
def G1 : List Int × Int := kH 1073741824 (dk 1 13)
def P0 : List Int := add1 (sc1 2 (mul1 G0.1 G0.1)) (add1 [-(G0.2 * G0.2)] (sc1 (-G0.2) (xs 4 1 G0.1)))
def P1 : List Int := add1 (mul1 G0.1 G1.1) (sc1 (-G0.2) (xs 4 1 G1.1))
theorem P0_ev (x : Int) : ev1 P0 x = 2 * (ev1 G0.1 x * ev1 G0.1 x) - G0.2 * G0.2 - G0.2 * ev1 G0.1 (4 * x) := by
  unfold P0
  rw [ev1_add, ev1_add, ev1_sc, ev1_sc, ev1_mul, ev1_xs]
  show _ + ((-(G0.2 * G0.2) + x * 0) + _) = _
  grind
theorem P1_ev (x : Int) : ev1 P1 x = ev1 G0.1 x * ev1 G1.1 x - G0.2 * ev1 G1.1 (4 * x) := by
  unfold P1
  rw [ev1_add, ev1_sc, ev1_mul, ev1_xs]
  grind
theorem G0_pos : 0 < G0.2 := by decide +kernel
theorem G1_pos : 0 < G1.2 := by decide +kernel
theorem big0 : abs1 P0 4294967296 * 1099511627776 ≤ G0.2 * G0.2 := of_decide_eq_true (by decide +kernel)
theorem big1 : abs1 P1 4294967296 * 1099511627776 ≤ G0.2 * G1.2 := of_decide_eq_true (by decide +kernel)
theorem uS_G0 (x : Int) : uS 0 x 14 * (G0.2 : Rat) = 1073741824 * (ev1 G0.1 x : Rat) := by
  have g := kH_gR (h := 1073741824) (x := x) (by decide) (dk 0 13) fun d hd => dk_pos hd
  rw [show kH 1073741824 (dk 0 13) = G0 from rfl, show ((1073741824 : Int) : Rat) = 1073741824 from rfl] at g
  rw [g, uS_row, show uT 0 x 0 = 1073741824 from rfl]
  grind
theorem uS_G1 (x : Int) : uS 1 x 14 * (G1.2 : Rat) = 1073741824 * (ev1 G1.1 x : Rat) := by
  have g := kH_gR (h := 1073741824) (x := x) (by decide) (dk 1 13) fun d hd => dk_pos hd
  rw [show kH 1073741824 (dk 1 13) = G1 from rfl, show ((1073741824 : Int) : Rat) = 1073741824 from rfl] at g
  rw [g, uS_row, show uT 1 x 0 = 1073741824 from rfl]
  grind
theorem uS_four {x : Int} (h1 : -4294967296 ≤ x) (h2 : x ≤ 4294967296) :
    (-(1 / 1024) ≤ 2 * (uS 0 x 14 * uS 0 x 14 / 1073741824) - 1073741824 - uS 0 (4 * x : Int) 14 ∧ 2 * (uS 0 x 14 * uS 0 x 14 / 1073741824) - 1073741824 - uS 0 (4 * x : Int) 14 ≤ 1 / 1024) ∧
    -(1 / 1024) ≤ uS 0 x 14 * uS 1 x 14 / 1073741824 - uS 1 (4 * x : Int) 14 ∧ uS 0 x 14 * uS 1 x 14 / 1073741824 - uS 1 (4 * x : Int) 14 ≤ 1 / 1024 := by
  have b0 := ev1_abs P0 h1 h2
  have b1 := ev1_abs P1 h1 h2
  have e0 := P0_ev x
  have e1 := P1_ev x
  have B0 := big0
  have B1 := big1
  have p0 := G0_pos
  have p1 := G1_pos
  have a1 := uS_G0 x
  have a2 := uS_G0 (4 * x)
  have a3 := uS_G1 x
  have a4 := uS_G1 (4 * x)
  generalize uS 0 x 14 = s0 at *
  generalize uS 0 (4 * x : Int) 14 = s4 at *
  generalize uS 1 x 14 = u0 at *
  generalize uS 1 (4 * x : Int) 14 = u4 at *
  generalize ev1 G0.1 x = E0 at *
  generalize ev1 G0.1 (4 * x) = E4 at *
  generalize ev1 G1.1 x = F0 at *
  generalize ev1 G1.1 (4 * x) = F4 at *
  generalize abs1 P0 4294967296 = C0 at *
  generalize abs1 P1 4294967296 = C1 at *
  generalize ev1 P0 x = r0 at *
  generalize ev1 P1 x = r1 at *
  generalize G0.2 = W at *
  generalize G1.2 = V at *
  have q0 := ratq (e := (2 * (s0 * s0 / 1073741824) - 1073741824 - s4) / 1073741824) (W := ((W * W : Int) : Rat)) (r := (r0 : Rat)) (B := (C0 : Rat)) (K := 1099511627776) (pos_cast (Int.mul_pos p0 p0)) (by decide) (by
    subst e0
    clear b0 b1 B0 B1
    simp only [Rat.intCast_sub, Rat.intCast_mul, show ((2 : Int) : Rat) = 2 from rfl]
    grind) (by exact_mod_cast b0.1) (by exact_mod_cast b0.2) (by
    have h5 := Rat.intCast_le_intCast.2 B0
    rw [Rat.intCast_mul] at h5
    exact h5)
  have q1 := ratq (e := (s0 * u0 / 1073741824 - u4) / 1073741824) (W := ((W * V : Int) : Rat)) (r := (r1 : Rat)) (B := (C1 : Rat)) (K := 1099511627776) (pos_cast (Int.mul_pos p0 p1)) (by decide) (by
    subst e1
    clear b0 b1 B0 B1
    simp only [Rat.intCast_sub, Rat.intCast_mul]
    grind) (by exact_mod_cast b1.1) (by exact_mod_cast b1.2) (by
    have h5 := Rat.intCast_le_intCast.2 B1
    rw [Rat.intCast_mul] at h5
    exact h5)
  clear b0 b1 B0 B1 a1 a2 a3 a4 e0 e1
  refine ⟨⟨?_, ?_⟩, ?_, ?_⟩ <;> grind
/-! Beside sine and cosine. -/
theorem dk_dsT : dsT true 13 = dk 0 13 ∧ dsT false 13 = dk 1 13 := by decide +kernel
theorem tl_split : ∀ c, ∃ d r, tlT c = d :: r ∧ 700 ≤ d := by
  intro c
  cases c
  · exact ⟨812, (tlT false).tail, by decide +kernel, by decide⟩
  · exact ⟨756, (tlT true).tail, by decide +kernel, by decide⟩
def kc (c : Bool) : Nat := if c = true then 0 else 1
theorem BS_13 : ∀ c, BS (kc c) 13 = 1 := by decide +kernel
theorem row_near (c : Bool) {n : Int} (h1 : -4294967296 ≤ n) (h2 : n ≤ 4294967296) :
    -(1 / 40) ≤ 1073741824 * gR (qR n) (dsT c 22) - uS (kc c) ((n : Rat) * n / 1073741824) 14 ∧ 1073741824 * gR (qR n) (dsT c 22) - uS (kc c) ((n : Rat) * n / 1073741824) 14 ≤ 1 / 40 := by
  have q := qR_in h1 h2
  obtain ⟨d, r, e, hd⟩ := tl_split c
  have hx : (n : Rat) * n / 1073741824 / 1073741824 = qR n := by unfold qR; grind
  have k1 : kc c ≤ 3 := by cases c <;> decide
  have t0 : uT (kc c) ((n : Rat) * n / 1073741824) 0 = 1073741824 := by cases c <;> rfl
  have ed : dsT c 13 = dk (kc c) 13 := by cases c; exact dk_dsT.2; exact dk_dsT.1
  have s := ser (qR n) (tlT c) (dk (kc c) 13) 1073741824
  rw [← ed, ← dsT_split, ed] at s
  have s1 := uS_row (kc c) ((n : Rat) * n / 1073741824)
  have s2 := ser (qR n) [] (dk (kc c) 13) 1073741824
  rw [List.append_nil] at s2
  rw [hx, t0, s2] at s1
  have t := uT_last (kc c) ((n : Rat) * n / 1073741824) 13
  rw [hx, t0] at t
  have b := uT_in k1 (x := (n : Rat) * n / 1073741824) (by unfold qR at q; grind) (by unfold qR at q; grind) 13 (by decide)
  rw [BS_13 c, t, show ((1 : Int) : Rat) = 1 from rfl] at b
  rw [s, s1, e]
  have g := gR_in q.1 r fun z hz => by
    have h6 := tlT_in c z (by rw [e]; exact List.mem_cons_of_mem _ hz)
    have : ((600 : Int) : Rat) ≤ (z : Rat) := Rat.intCast_le_intCast.2 h6
    rw [show ((600 : Int) : Rat) = 600 from rfl] at this
    exact ⟨by omega, by grind⟩
  have gd : gR (qR n) (d :: r) = 1 - qR n / (d : Rat) * gR (qR n) r := rfl
  have gn : gR (qR n) [] = 1 := rfl
  have d7 : ((700 : Int) : Rat) ≤ (d : Rat) := Rat.intCast_le_intCast.2 hd
  rw [show ((700 : Int) : Rat) = 700 from rfl] at d7
  have m := mulR_abs (a := qR n) (A := 16) (b := gR (qR n) r) (B := 1) (by grind) (by grind) (by grind) (by grind)
  have f := div_absR (y := qR n * gR (qR n) r) (d := (d : Rat)) (E := 1 / 40) (by grind) (by grind) (by grind)
  have m2 := mulR_abs b.1 b.2 f.1 f.2
  rw [gd, gn]
  have ef : qR n / (d : Rat) * gR (qR n) r = qR n * gR (qR n) r / (d : Rat) := by rw [Rat.div_def, Rat.div_def]; grind
  rw [ef]
  generalize qR n * gR (qR n) r / (d : Rat) = y at *
  generalize lastT (qR n) 1073741824 (dk (kc c) 13) = z at *
  generalize sumT (qR n) 1073741824 (dk (kc c) 13) = w at *
  grind
theorem cos_near {n : Int} (h1 : -4294967296 ≤ n) (h2 : n ≤ 4294967296) : -(1 / 40) ≤ cO n - uS 0 ((n : Rat) * n / 1073741824) 14 ∧ cO n - uS 0 ((n : Rat) * n / 1073741824) 14 ≤ 1 / 40 := by
  have h := row_near true h1 h2
  have r := row_O true (n := n)
  rw [if_pos rfl] at r
  rw [← r]
  exact h
theorem sin_near {n : Int} (h1 : -4294967296 ≤ n) (h2 : n ≤ 4294967296) : -(1 / 10) ≤ sO n - n * uS 1 ((n : Rat) * n / 1073741824) 14 / 1073741824 ∧ sO n - n * uS 1 ((n : Rat) * n / 1073741824) 14 / 1073741824 ≤ 1 / 10 := by
  have h := row_near false h1 h2
  have r := row_O false (n := n)
  rw [if_neg (by decide)] at r
  rw [← r]
  have a : (n : Rat) ≤ 4294967296 := Rat.intCast_le_intCast.2 h2
  have b : (-4294967296 : Rat) ≤ (n : Rat) := Rat.intCast_le_intCast.2 h1
  have m := mulR_abs (A := 4294967296) (by grind) a h.1 h.2
  have e : a0 false n = n := rfl
  rw [e]
  rw [show kc false = 1 from rfl] at m
  grind
end Go.Proofs.YtbmekaaekngpbaaGreat
