/- Plain mathematics: what the words of sums, differences, products come to. -/
import Derived.Test.YtecgclkjglkkbaaA9
namespace Go.Proofs.Ytecgclkjglkkbaa
open Go Go.RowKit
set_option linter.unusedSimpArgs false
set_option linter.unusedVariables false

/-- The rest by 2^256 that four words tell. -/
def val (a : Nat → Nat) : Nat := a 0 + a 1 * 18446744073709551616 + a 2 * 340282366920938463463374607431768211456 + a 3 * 6277101735386680763835789423207666416102355444464034512896
/-- The number that four words tell. -/
def sval (a : Nat → Nat) : Int := if lowB a = true then (val a : Int) - 115792089237316195423570985008687907853269984665640564039457584007913129639936 else val a

theorem val_lt {a : Nat → Nat} (h : Wds a) : val a < 115792089237316195423570985008687907853269984665640564039457584007913129639936 := by
  have := h 0; have := h 1; have := h 2; have := h 3
  unfold val; omega

theorem val_inj {a b : Nat → Nat} (ha : Wds a) (hb : Wds b) (h : val a = val b) : a 0 = b 0 ∧ a 1 = b 1 ∧ a 2 = b 2 ∧ a 3 = b 3 := by
  have := ha 0; have := ha 1; have := ha 2; have := ha 3
  have := hb 0; have := hb 1; have := hb 2; have := hb 3
  unfold val at h
  omega

theorem eqB_val {a b : Nat → Nat} (ha : Wds a) (hb : Wds b) : eqB a b = decide (val a = val b) := by
  rw [Bool.eq_iff_iff]
  simp only [eqB, decide_eq_true_eq]
  constructor
  · rintro ⟨h0, h1, h2, h3⟩
    unfold val
    rw [h0, h1, h2, h3]
  · exact val_inj ha hb

theorem lowB_val {a : Nat → Nat} (h : Wds a) : lowB a = decide (57896044618658097711785492504343953926634992332820282019728792003956564819968 ≤ val a) := by
  rw [Bool.eq_iff_iff]
  simp only [lowB, decide_eq_true_eq]
  have := h 0; have := h 1; have := h 2; have := h 3
  unfold val
  omega

theorem zr_val : val Zr = 0 := rfl

theorem fin4 : List.finRange 4 = [⟨0, by omega⟩, ⟨1, by omega⟩, ⟨2, by omega⟩, ⟨3, by omega⟩] := rfl

theorem addR_val {a b : Nat → Nat} (ha : Wds a) (hb : Wds b) : val (addR a b) = (val a + val b) % 115792089237316195423570985008687907853269984665640564039457584007913129639936 := by
  have h0 := ha 0; have h1 := ha 1; have h2 := ha 2; have h3 := ha 3
  have g0 := hb 0; have g1 := hb 1; have g2 := hb 2; have g3 := hb 3
  unfold addR addSt
  rw [fin4]
  simp only [List.foldl_cons, List.foldl_nil, addStep]
  unfold val
  simp only [upd]
  generalize a 0 = a0 at *; generalize a 1 = a1 at *; generalize a 2 = a2 at *; generalize a 3 = a3 at *
  generalize b 0 = b0 at *; generalize b 1 = b1 at *; generalize b 2 = b2 at *; generalize b 3 = b3 at *
  simp
  generalize e0 : (a0 + b0) % 18446744073709551616 = r0
  generalize f0 : (a0 + b0) / 18446744073709551616 = c0
  generalize e1 : (a1 + b1 + c0) % 18446744073709551616 = r1
  generalize f1 : (a1 + b1 + c0) / 18446744073709551616 = c1
  generalize e2 : (a2 + b2 + c1) % 18446744073709551616 = r2
  generalize f2 : (a2 + b2 + c1) / 18446744073709551616 = c2
  omega

theorem subR_val {a b : Nat → Nat} (ha : Wds a) (hb : Wds b) : val (subR a b) = (val a + 115792089237316195423570985008687907853269984665640564039457584007913129639936 - val b) % 115792089237316195423570985008687907853269984665640564039457584007913129639936 := by
  have h0 := ha 0; have h1 := ha 1; have h2 := ha 2; have h3 := ha 3
  have g0 := hb 0; have g1 := hb 1; have g2 := hb 2; have g3 := hb 3
  unfold subR subSt
  rw [fin4]
  simp only [List.foldl_cons, List.foldl_nil, subStep]
  unfold val
  simp only [upd]
  generalize a 0 = a0 at *; generalize a 1 = a1 at *; generalize a 2 = a2 at *; generalize a 3 = a3 at *
  generalize b 0 = b0 at *; generalize b 1 = b1 at *; generalize b 2 = b2 at *; generalize b 3 = b3 at *
  simp
  generalize e0 : (a0 + 18446744073709551616 - b0) % 18446744073709551616 = r0
  generalize f0 : (if a0 < b0 then 1 else 0) = c0
  generalize e1 : (a1 + 18446744073709551616 - b1 - c0) % 18446744073709551616 = r1
  generalize f1 : (if a1 < b1 + c0 then 1 else 0) = c1
  generalize e2 : (a2 + 18446744073709551616 - b2 - c1) % 18446744073709551616 = r2
  generalize f2 : (if a2 < b2 + c1 then 1 else 0) = c2
  generalize e3 : (a3 + 18446744073709551616 - b3 - c2) % 18446744073709551616 = r3
  have k0 : ∃ c, (c = 0 ∨ c = 1) ∧ c0 = c ∧ r0 + b0 = a0 + c * 18446744073709551616 := by
    rw [← f0, ← e0]
    split
    · exact ⟨1, .inr rfl, rfl, by omega⟩
    · exact ⟨0, .inl rfl, rfl, by omega⟩
  obtain ⟨_, hc0, rfl, k0⟩ := k0
  have k1 : ∃ c, (c = 0 ∨ c = 1) ∧ c1 = c ∧ r1 + b1 + c0 = a1 + c * 18446744073709551616 := by
    rw [← f1, ← e1]
    split
    · exact ⟨1, .inr rfl, rfl, by omega⟩
    · exact ⟨0, .inl rfl, rfl, by omega⟩
  obtain ⟨_, hc1, rfl, k1⟩ := k1
  have k2 : ∃ c, (c = 0 ∨ c = 1) ∧ c2 = c ∧ r2 + b2 + c1 = a2 + c * 18446744073709551616 := by
    rw [← f2, ← e2]
    split
    · exact ⟨1, .inr rfl, rfl, by omega⟩
    · exact ⟨0, .inl rfl, rfl, by omega⟩
  obtain ⟨_, hc2, rfl, k2⟩ := k2
  have k3 : ∃ c, (c = 0 ∨ c = 1) ∧ r3 + b3 + c2 = a3 + c * 18446744073709551616 := by
    rw [← e3]
    by_cases h : a3 < b3 + c2
    · exact ⟨1, .inr rfl, by omega⟩
    · exact ⟨0, .inl rfl, by omega⟩
  obtain ⟨c3, hc3, k3⟩ := k3
  have l0 : r0 < 18446744073709551616 := by omega
  have l1 : r1 < 18446744073709551616 := by omega
  have l2 : r2 < 18446744073709551616 := by omega
  have l3 : r3 < 18446744073709551616 := by omega
  clear e0 e1 e2 e3 f0 f1 f2
  rcases hc3 with rfl | rfl <;> omega

theorem negR_val {a : Nat → Nat} (ha : Wds a) : val (negR a) = (115792089237316195423570985008687907853269984665640564039457584007913129639936 - val a) % 115792089237316195423570985008687907853269984665640564039457584007913129639936 := by
  unfold negR
  rw [subR_val zr_words ha, zr_val, Nat.zero_add]

theorem sizeR_val {a : Nat → Nat} (ha : Wds a) : val (sizeR a) = if lowB a = true then 115792089237316195423570985008687907853269984665640564039457584007913129639936 - val a else val a := by
  have h := val_lt ha
  have hl := lowB_val ha
  unfold sizeR
  split
  · rename_i hh
    rw [hh] at hl
    have : 57896044618658097711785492504343953926634992332820282019728792003956564819968 ≤ val a := by simpa using hl.symm
    rw [negR_val ha]
    omega
  · rfl

/-- One row of the product. -/
theorem row_val {a b : Nat → Nat} (i : Nat) (p : Nat → Nat) :
    ∃ q0 q1 q2 q3 c, inSt a b i p (List.finRange 4) = (upd (upd (upd (upd p i q0) (i + 1) q1) (i + 2) q2) (i + 3) q3, c) ∧
      q0 + q1 * 18446744073709551616 + q2 * 340282366920938463463374607431768211456 + q3 * 6277101735386680763835789423207666416102355444464034512896 + c * 115792089237316195423570985008687907853269984665640564039457584007913129639936 = p i + p (i + 1) * 18446744073709551616 + p (i + 2) * 340282366920938463463374607431768211456 + p (i + 3) * 6277101735386680763835789423207666416102355444464034512896 + a i * val b := by
  have hm : a i * val b = a i * b 0 + a i * b 1 * 18446744073709551616 + a i * b 2 * 340282366920938463463374607431768211456 + a i * b 3 * 6277101735386680763835789423207666416102355444464034512896 := by
    unfold val
    simp only [Nat.mul_add, ← Nat.mul_assoc]
  rw [hm]
  unfold inSt
  rw [fin4]
  simp only [List.foldl_cons, List.foldl_nil, inStep, Nat.add_zero]
  have u1 : ∀ q, upd p i q (i + 1) = p (i + 1) := fun q => by simp [upd]
  have u2 : ∀ q r, upd (upd p i q) (i + 1) r (i + 2) = p (i + 2) := fun q r => by simp [upd]
  have u3 : ∀ q r s, upd (upd (upd p i q) (i + 1) r) (i + 2) s (i + 3) = p (i + 3) := fun q r s => by simp [upd]
  simp only [u1, u2, u3]
  refine ⟨_, _, _, _, _, rfl, ?_⟩
  generalize a i * b 0 = x0
  generalize a i * b 1 = x1
  generalize a i * b 2 = x2
  generalize a i * b 3 = x3
  generalize e0 : (x0 + p i) % 18446744073709551616 = q0
  generalize f0 : (x0 + p i) / 18446744073709551616 = c0
  generalize e1 : (x1 + p (i + 1) + c0) % 18446744073709551616 = q1
  generalize f1 : (x1 + p (i + 1) + c0) / 18446744073709551616 = c1
  generalize e2 : (x2 + p (i + 2) + c1) % 18446744073709551616 = q2
  generalize f2 : (x2 + p (i + 2) + c1) / 18446744073709551616 = c2
  generalize e3 : (x3 + p (i + 3) + c2) % 18446744073709551616 = q3
  generalize f3 : (x3 + p (i + 3) + c2) / 18446744073709551616 = c3
  omega


theorem four_rows (K q0 q1 q2 q3 c0 t0 t1 t2 t3 c1 v0 v1 v2 v3 c2 w0 w1 w2 w3 c3 y0 y1 y2 y3 : Nat)
    (s0 : q0 + q1 * K + q2 * (K * K) + q3 * (K * K * K) + c0 * (K * K * K * K) = y0)
    (s1 : t0 + t1 * K + t2 * (K * K) + t3 * (K * K * K) + c1 * (K * K * K * K) = q1 + q2 * K + q3 * (K * K) + c0 * (K * K * K) + y1)
    (s2 : v0 + v1 * K + v2 * (K * K) + v3 * (K * K * K) + c2 * (K * K * K * K) = t1 + t2 * K + t3 * (K * K) + c1 * (K * K * K) + y2)
    (s3 : w0 + w1 * K + w2 * (K * K) + w3 * (K * K * K) + c3 * (K * K * K * K) = v1 + v2 * K + v3 * (K * K) + c2 * (K * K * K) + y3) :
    q0 + t0 * K + v0 * (K * K) + w0 * (K * K * K) + (w1 + w2 * K + w3 * (K * K) + c3 * (K * K * K)) * (K * K * K * K) = y0 + y1 * K + y2 * (K * K) + y3 * (K * K * K) := by
  have e1 := congrArg (· * K) s1
  have e2 := congrArg (· * (K * K)) s2
  have e3 := congrArg (· * (K * K * K)) s3
  subst s0
  clear s1 s2 s3
  simp only [Nat.add_mul, Nat.mul_add, Nat.mul_assoc, Nat.mul_comm, Nat.mul_left_comm] at e1 e2 e3 ⊢
  omega

theorem out_val (a b : Nat → Nat) : val (outSt a b (List.finRange 4)) + val (hiR (outSt a b (List.finRange 4))) * 115792089237316195423570985008687907853269984665640564039457584007913129639936 = val a * val b := by
  unfold outSt
  rw [fin4]
  simp only [List.foldl_cons, List.foldl_nil, outStep]
  obtain ⟨q0, q1, q2, q3, c0, r0, s0⟩ := row_val (a := a) (b := b) 0 Zr
  rw [r0]
  dsimp only
  obtain ⟨t0, t1, t2, t3, c1, r1, s1⟩ := row_val (a := a) (b := b) 1 (upd (upd (upd (upd (upd Zr 0 q0) (0 + 1) q1) (0 + 2) q2) (0 + 3) q3) (0 + 4) c0)
  rw [r1]
  dsimp only
  obtain ⟨v0, v1, v2, v3, c2, r2, s2⟩ := row_val (a := a) (b := b) 2 (upd (upd (upd (upd (upd (upd (upd (upd (upd (upd Zr 0 q0) (0 + 1) q1) (0 + 2) q2) (0 + 3) q3) (0 + 4) c0) 1 t0) (1 + 1) t1) (1 + 2) t2) (1 + 3) t3) (1 + 4) c1)
  rw [r2]
  dsimp only
  obtain ⟨w0, w1, w2, w3, c3, r3, s3⟩ := row_val (a := a) (b := b) 3 (upd (upd (upd (upd (upd (upd (upd (upd (upd (upd (upd (upd (upd (upd (upd Zr 0 q0) (0 + 1) q1) (0 + 2) q2) (0 + 3) q3) (0 + 4) c0) 1 t0) (1 + 1) t1) (1 + 2) t2) (1 + 3) t3) (1 + 4) c1) 2 v0) (2 + 1) v1) (2 + 2) v2) (2 + 3) v3) (2 + 4) c2)
  rw [r3]
  dsimp only
  clear r0 r1 r2 r3
  have hm : val a * val b = a 0 * val b + (a 1 * val b) * 18446744073709551616 + (a 2 * val b) * 340282366920938463463374607431768211456 + (a 3 * val b) * 6277101735386680763835789423207666416102355444464034512896 := by
    rw [show val a = a 0 + a 1 * 18446744073709551616 + a 2 * 340282366920938463463374607431768211456 + a 3 * 6277101735386680763835789423207666416102355444464034512896 from rfl]
    simp only [Nat.add_mul]
    rw [Nat.mul_right_comm (a 1), Nat.mul_right_comm (a 2), Nat.mul_right_comm (a 3)]
  rw [hm]
  obtain ⟨y0, hy0⟩ : ∃ y, a 0 * val b = y := ⟨_, rfl⟩
  obtain ⟨y1, hy1⟩ : ∃ y, a 1 * val b = y := ⟨_, rfl⟩
  obtain ⟨y2, hy2⟩ : ∃ y, a 2 * val b = y := ⟨_, rfl⟩
  obtain ⟨y3, hy3⟩ : ∃ y, a 3 * val b = y := ⟨_, rfl⟩
  rw [hy0] at s0
  rw [hy1] at s1
  rw [hy2] at s2
  rw [hy3] at s3
  rw [hy0, hy1, hy2, hy3]
  clear hy0 hy1 hy2 hy3 hm
  simp [upd, Zr] at s0 s1 s2 s3
  have hf := four_rows 18446744073709551616 q0 q1 q2 q3 c0 t0 t1 t2 t3 c1 v0 v1 v2 v3 c2 w0 w1 w2 w3 c3 y0 y1 y2 y3 s0 s1 s2 s3
  simp only [val, hiR]
  simp [upd, Zr]
  exact hf

end Go.Proofs.Ytecgclkjglkkbaa
