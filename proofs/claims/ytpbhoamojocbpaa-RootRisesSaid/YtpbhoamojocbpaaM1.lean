/- The mathematics of signed quotients: sizes divided, signs told beside them. -/
import Derived.Test.YtpbhoamojocbpaaF11
namespace Go.Proofs.Ytpbhoamojocbpaa
open Go Go.RowKit
set_option linter.unusedSimpArgs false
set_option linter.unusedVariables false

/-- The quotient's sign, from the two numbers' signs. -/
def belowI (A B : Int) : Prop := (A < 0 ∧ 0 < B) ∨ (0 < A ∧ B < 0)
instance (A B : Int) : Decidable (belowI A B) := by unfold belowI; infer_instance
/-- The quotient of the sizes, with its sign; one farther from 0 if f. -/
def wholeI (A B : Int) (q : Nat) (f : Bool) : Int := if belowI A B then -((q : Int) + (if f then 1 else 0)) else (q : Int) + (if f then 1 else 0)

theorem sizes_signed {A B : Int} {q r : Nat} (h : A.natAbs = B.natAbs * q + r) : (0 ≤ B → (0 ≤ A → A = B * q + r) ∧ (A ≤ 0 → A = -(B * q) - r)) ∧ (B ≤ 0 → (0 ≤ A → A = -(B * q) + r) ∧ (A ≤ 0 → A = B * q - r)) := by
  have h2 : (A.natAbs : Int) = (B.natAbs : Int) * (q : Int) + (r : Int) := by exact_mod_cast h
  refine ⟨fun hB => ?_, fun hB => ?_⟩
  · have e : (B.natAbs : Int) = B := by omega
    rw [e] at h2
    generalize B * (q : Int) = P at *
    exact ⟨fun hA => by omega, fun hA => by omega⟩
  · have e : (B.natAbs : Int) = -B := by omega
    rw [e, Int.neg_mul] at h2
    generalize B * (q : Int) = P at *
    exact ⟨fun hA => by omega, fun hA => by omega⟩

/-- The rest lies between 0 and b, on b's side. -/
def OnSide (R B : Int) : Prop := (0 ≤ R ∧ R < B) ∨ (B < R ∧ R ≤ 0)

theorem floor_int {A B : Int} {q r : Nat} (hB : B ≠ 0) (h : A.natAbs = B.natAbs * q + r) (hr : r < B.natAbs) :
    OnSide (A - B * wholeI A B q (decide (belowI A B) && !decide (r = 0))) B := by
  obtain ⟨hp, hn⟩ := sizes_signed h
  unfold wholeI
  by_cases hb : belowI A B
  · rw [if_pos hb]
    by_cases h0 : r = 0
    · simp only [hb, h0, decide_true, Bool.not_true, Bool.and_false, Bool.false_eq_true, if_false, Int.add_zero, Int.mul_neg]
      subst h0
      generalize B * (q : Int) = P at *
      unfold OnSide belowI at *
      rcases hb with ⟨h1, h2⟩ | ⟨h1, h2⟩
      · have := (hp (by omega)).2 (by omega); omega
      · have := (hn (by omega)).1 (by omega); omega
    · simp only [hb, h0, decide_true, decide_false, Bool.not_false, Bool.and_true, if_true, Int.mul_neg, Int.mul_add, Int.mul_one]
      generalize B * (q : Int) = P at *
      unfold OnSide belowI at *
      rcases hb with ⟨h1, h2⟩ | ⟨h1, h2⟩
      · have := (hp (by omega)).2 (by omega); omega
      · have := (hn (by omega)).1 (by omega); omega
  · rw [if_neg hb]
    simp only [hb, decide_false, Bool.false_and, Bool.false_eq_true, if_false, Int.add_zero]
    by_cases hA : A = 0
    · have hq : q = 0 ∧ r = 0 := by
        rw [hA] at h
        have hz : B.natAbs * q = 0 := by omega
        rcases Nat.mul_eq_zero.1 hz with hz | hz
        · omega
        · exact ⟨hz, by omega⟩
      rw [hq.1, hA]
      unfold OnSide
      simp
      omega
    · generalize B * (q : Int) = P at *
      unfold OnSide belowI at *
      by_cases hs : 0 < B
      · have := (hp (by omega)).1 (by omega); omega
      · have := (hn (by omega)).2 (by omega); omega

theorem ceil_int {A B : Int} {q r : Nat} (hB : B ≠ 0) (h : A.natAbs = B.natAbs * q + r) (hr : r < B.natAbs) :
    OnSide (B * wholeI A B q (!decide (belowI A B) && !decide (r = 0)) - A) B := by
  obtain ⟨hp, hn⟩ := sizes_signed h
  unfold wholeI
  by_cases hA : A = 0
  · have hq : q = 0 ∧ r = 0 := by
      rw [hA] at h
      have hz : B.natAbs * q = 0 := by omega
      rcases Nat.mul_eq_zero.1 hz with hz | hz
      · omega
      · exact ⟨hz, by omega⟩
    have hb : ¬ belowI A B := by unfold belowI; omega
    rw [if_neg hb, hq.1, hq.2, hA]
    unfold OnSide
    simp
    omega
  · by_cases hb : belowI A B
    · rw [if_pos hb]
      simp only [hb, decide_true, Bool.not_true, Bool.false_and, Bool.false_eq_true, if_false, Int.add_zero, Int.mul_neg]
      generalize B * (q : Int) = P at *
      unfold OnSide belowI at *
      rcases hb with ⟨h1, h2⟩ | ⟨h1, h2⟩
      · have := (hp (by omega)).2 (by omega); omega
      · have := (hn (by omega)).1 (by omega); omega
    · rw [if_neg hb]
      by_cases h0 : r = 0
      · simp only [hb, h0, decide_true, decide_false, Bool.not_true, Bool.and_false, Bool.false_eq_true, if_false, Int.add_zero]
        generalize B * (q : Int) = P at *
        unfold OnSide belowI at *
        by_cases hs : 0 < B
        · have := (hp (by omega)).1 (by omega); omega
        · have := (hn (by omega)).2 (by omega); omega
      · simp only [hb, h0, decide_false, Bool.not_false, Bool.and_true, if_true, Int.mul_add, Int.mul_one]
        generalize B * (q : Int) = P at *
        unfold OnSide belowI at *
        by_cases hs : 0 < B
        · have := (hp (by omega)).1 (by omega); omega
        · have := (hn (by omega)).2 (by omega); omega

/-- The nearest whole number; from the middle away from 0. -/
def Nearest (A B F : Int) : Prop := 2 * (A - B * F).natAbs ≤ B.natAbs ∧ (2 * (A - B * F).natAbs = B.natAbs → A.natAbs < (B * F).natAbs)
theorem near_int {A B : Int} {q r : Nat} (hB : B ≠ 0) (h : A.natAbs = B.natAbs * q + r) (hr : r < B.natAbs) :
    Nearest A B (wholeI A B q (decide (B.natAbs - r ≤ r))) := by
  obtain ⟨hp, hn⟩ := sizes_signed h
  unfold wholeI Nearest
  by_cases hA : A = 0
  · have hq : q = 0 ∧ r = 0 := by
      rw [hA] at h
      have hz : B.natAbs * q = 0 := by omega
      rcases Nat.mul_eq_zero.1 hz with hz | hz
      · omega
      · exact ⟨hz, by omega⟩
    have hb : ¬ belowI A B := by unfold belowI; omega
    have hd : decide (B.natAbs - r ≤ r) = false := by rw [decide_eq_false_iff_not]; omega
    rw [if_neg hb, hd, hq.1, hA]
    simp
    omega
  · have hPs : 0 ≤ (B * (q : Int)) * B := by
      rw [Int.mul_comm, ← Int.mul_assoc]
      exact Int.mul_nonneg (by rcases Int.le_total 0 B with hb | hb; exact Int.mul_nonneg hb hb; exact Int.mul_nonneg_of_nonpos_of_nonpos hb hb) (by omega)
    have hP1 : 0 < B → 0 ≤ B * (q : Int) := fun hb => Int.mul_nonneg (by omega) (by omega)
    have hP2 : B < 0 → B * (q : Int) ≤ 0 := fun hb => Int.mul_nonpos_of_nonpos_of_nonneg (by omega) (by omega)
    clear hPs
    by_cases hb : belowI A B
    · rw [if_pos hb]
      by_cases h0 : B.natAbs - r ≤ r
      · rw [decide_eq_true h0]
        simp only [if_true, Int.mul_neg, Int.mul_add, Int.mul_one]
        generalize B * (q : Int) = P at *
        unfold belowI at *
        rcases hb with ⟨h1, h2⟩ | ⟨h1, h2⟩
        · have := (hp (by omega)).2 (by omega); omega
        · have := (hn (by omega)).1 (by omega); omega
      · rw [decide_eq_false h0]
        simp only [Bool.false_eq_true, if_false, Int.add_zero, Int.mul_neg]
        generalize B * (q : Int) = P at *
        unfold belowI at *
        rcases hb with ⟨h1, h2⟩ | ⟨h1, h2⟩
        · have := (hp (by omega)).2 (by omega); omega
        · have := (hn (by omega)).1 (by omega); omega
    · rw [if_neg hb]
      by_cases h0 : B.natAbs - r ≤ r
      · rw [decide_eq_true h0]
        simp only [if_true, Int.mul_add, Int.mul_one]
        generalize B * (q : Int) = P at *
        unfold belowI at *
        by_cases hs : 0 < B
        · have := (hp (by omega)).1 (by omega); omega
        · have := (hn (by omega)).2 (by omega); omega
      · rw [decide_eq_false h0]
        simp only [Bool.false_eq_true, if_false, Int.add_zero]
        generalize B * (q : Int) = P at *
        unfold belowI at *
        by_cases hs : 0 < B
        · have := (hp (by omega)).1 (by omega); omega
        · have := (hn (by omega)).2 (by omega); omega

end Go.Proofs.Ytpbhoamojocbpaa
