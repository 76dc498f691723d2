/- Texts of the seat, joined. -/
import Derived.Test.YtbmekaaekngpbaaGreatZz21
/- A division by doubling: plain mathematics. -/
namespace Go.Proofs.YtbmekaaekngpbaaGreat

/-- The way down: so many rounds left, the quotient so far, the rest. -/
def dwn (b : Nat) : Nat → Nat → Nat → Nat × Nat
  | 0, q, a => (q, a)
  | i + 1, q, a => if b * 2 ^ i ≤ a then dwn b i (q + q + 1) (a - b * 2 ^ i) else dwn b i (q + q) a
theorem dwn_ok {b : Nat} (hb : 0 < b) : ∀ (i q a : Nat), a < b * 2 ^ i → dwn b i q a = (q * 2 ^ i + a / b, a % b)
  | 0, q, a, h => by
    have h' : a < b := by simpa using h
    simp [dwn, Nat.div_eq_of_lt h', Nat.mod_eq_of_lt h']
  | i + 1, q, a, h => by
    have e : b * 2 ^ (i + 1) = b * 2 ^ i + b * 2 ^ i := by rw [Nat.pow_succ, ← Nat.mul_assoc]; omega
    unfold dwn
    by_cases hc : b * 2 ^ i ≤ a
    · rw [if_pos hc, dwn_ok hb i _ _ (by omega)]
      obtain ⟨c, rfl⟩ : ∃ c, a = c + b * 2 ^ i := ⟨a - b * 2 ^ i, by omega⟩
      rw [show c + b * 2 ^ i - b * 2 ^ i = c by omega, Nat.add_mul_div_left _ _ hb, Nat.add_mul_mod_self_left, Nat.pow_succ]
      congr 1
      rw [Nat.add_mul, Nat.add_mul, Nat.one_mul, ← Nat.mul_assoc]
      omega
    · rw [if_neg hc, dwn_ok hb i _ _ (by omega), Nat.pow_succ]
      congr 1
      rw [Nat.add_mul, ← Nat.mul_assoc]
      omega
/-- The way down from where the way up ends: the last double is not above a, or there is none but b; the next one would be above it, or over. -/
theorem dwn_all {a b n : Nat} (hb : 0 < b) (h : a < b * 2 ^ n) : dwn b n 0 a = (a / b, a % b) := by
  rw [dwn_ok hb n 0 a h]
  simp
/-- The quotient so far, and the rest, stay below what there was. -/
theorem dwn_le {b q a a0 i : Nat} (h : a0 = q * (b * 2 ^ i) + a) (hb : 0 < b) : q ≤ a0 ∧ a ≤ a0 := by
  have h1 : 1 ≤ b * 2 ^ i := Nat.mul_pos hb (Nat.two_pow_pos i)
  have h2 := Nat.mul_le_mul_left q h1
  omega

end Go.Proofs.YtbmekaaekngpbaaGreat
