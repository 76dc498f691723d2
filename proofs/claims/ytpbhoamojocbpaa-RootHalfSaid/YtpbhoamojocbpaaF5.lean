/- Mul of wide numbers. -/
import Derived.Test.YtpbhoamojocbpaaF4
namespace Go.Proofs.Ytpbhoamojocbpaa
open Go Go.RowKit
set_option linter.unusedSimpArgs false
set_option linter.unusedVariables false

theorem mul_raw1 (x y sx sy lo hi : Nat) (p q r : Bool) : runA Try.prog 65 #[wv x, wv y] [t, f, n] [(108, rt (wv sx)), (108, rt (wv sy)), (107, rt (tp [wv lo, wv hi])), (109, rt (bb (p))), (109, rt (bb (q))), (109, rt (bb (r)))] =
    some (rt (tp [wv lo, bb (r)]), [PureX Try.prog 108 #[wv x] (rt (wv sx)), PureX Try.prog 108 #[wv y] (rt (wv sy)), PureX Try.prog 107 #[wv sx, wv sy] (rt (tp [wv lo, wv hi])), PureX Try.prog 109 #[wv x] (rt (bb (p))), PureX Try.prog 109 #[wv y] (rt (bb (q))), (p == q) = true, (!(eqv hi 0)) = false, PureX Try.prog 109 #[wv lo] (rt (bb (r)))]) := by kernel_rfl
theorem mul_raw2 (x y sx sy lo hi : Nat) (p q : Bool) : runA Try.prog 65 #[wv x, wv y] [t, t, n] [(108, rt (wv sx)), (108, rt (wv sy)), (107, rt (tp [wv lo, wv hi])), (109, rt (bb (p))), (109, rt (bb (q)))] =
    some (rt (tp [wv lo, bb (true)]), [PureX Try.prog 108 #[wv x] (rt (wv sx)), PureX Try.prog 108 #[wv y] (rt (wv sy)), PureX Try.prog 107 #[wv sx, wv sy] (rt (tp [wv lo, wv hi])), PureX Try.prog 109 #[wv x] (rt (bb (p))), PureX Try.prog 109 #[wv y] (rt (bb (q))), (p == q) = true, (!(eqv hi 0)) = true]) := by kernel_rfl
theorem mul_raw3 (x y sx sy lo hi nn : Nat) (p q r : Bool) (s : Int) : runA Try.prog 65 #[wv x, wv y] [f, f, n, n] [(108, rt (wv sx)), (108, rt (wv sy)), (107, rt (tp [wv lo, wv hi])), (109, rt (bb (p))), (109, rt (bb (q))), (110, rt (tp [wv nn, bb (r)])), (101, rt (.int .i64 (s)))] =
    some (rt (tp [wv nn, bb (decide (0 < s))]), [PureX Try.prog 108 #[wv x] (rt (wv sx)), PureX Try.prog 108 #[wv y] (rt (wv sy)), PureX Try.prog 107 #[wv sx, wv sy] (rt (tp [wv lo, wv hi])), PureX Try.prog 109 #[wv x] (rt (bb (p))), PureX Try.prog 109 #[wv y] (rt (bb (q))), (p == q) = false, PureX Try.prog 110 #[wv lo] (rt (tp [wv nn, bb (r)])), (!(eqv hi 0)) = false, PureX Try.prog 101 #[wv nn] (rt (.int .i64 (s)))]) := by kernel_rfl
theorem mul_raw4 (x y sx sy lo hi nn : Nat) (p q r : Bool) : runA Try.prog 65 #[wv x, wv y] [f, t, n, n] [(108, rt (wv sx)), (108, rt (wv sy)), (107, rt (tp [wv lo, wv hi])), (109, rt (bb (p))), (109, rt (bb (q))), (110, rt (tp [wv nn, bb (r)]))] =
    some (rt (tp [wv nn, bb (true)]), [PureX Try.prog 108 #[wv x] (rt (wv sx)), PureX Try.prog 108 #[wv y] (rt (wv sy)), PureX Try.prog 107 #[wv sx, wv sy] (rt (tp [wv lo, wv hi])), PureX Try.prog 109 #[wv x] (rt (bb (p))), PureX Try.prog 109 #[wv y] (rt (bb (q))), (p == q) = false, PureX Try.prog 110 #[wv lo] (rt (tp [wv nn, bb (r)])), (!(eqv hi 0)) = true]) := by kernel_rfl

theorem siz_z {z : Int} (h : inR z) : siz (nz z) % Mw = z.natAbs := by
  unfold siz
  rw [ng_z h]
  have e := nz_cast z
  have hl := nz_lt z
  unfold inR at h
  by_cases h0 : z < 0
  · rw [if_pos (by simpa using h0)]
    unfold dif
    rw [Nat.mod_eq_of_lt hl]
    generalize nz z = m at e hl ⊢
    simp only [Mw] at e hl ⊢
    omega
  · rw [if_neg (by simpa using h0), Nat.mod_eq_of_lt hl]
    generalize nz z = m at e hl ⊢
    simp only [Mw] at e hl
    omega
theorem abs_le {z : Int} (h : inR z) : z.natAbs ≤ Hw := by
  unfold inR at h
  simp only [Hw]
  omega
theorem mul_case {x y : Int} {P : Nat} (hP : P = x.natAbs * y.natAbs) : (decide (x < 0) = decide (y < 0) → x * y = (P : Int)) ∧ (¬ decide (x < 0) = decide (y < 0) → x * y = -(P : Int)) := by
  have hc : (P : Int) = (x.natAbs : Int) * (y.natAbs : Int) := by rw [hP, Int.natCast_mul]
  rw [hc, decide_eq_decide]
  by_cases hx : x < 0 <;> by_cases hy : y < 0
  · rw [show (x.natAbs : Int) = -x by omega, show (y.natAbs : Int) = -y by omega]
    exact ⟨fun _ => (Int.neg_mul_neg x y).symm, fun c => absurd (by simp [hx, hy]) c⟩
  · rw [show (x.natAbs : Int) = -x by omega, show (y.natAbs : Int) = y by omega]
    exact ⟨fun c => absurd (c.1 hx) hy, fun _ => by rw [Int.neg_mul, Int.neg_neg]⟩
  · rw [show (x.natAbs : Int) = x by omega, show (y.natAbs : Int) = -y by omega]
    exact ⟨fun c => absurd (c.2 hy) hx, fun _ => by rw [Int.mul_neg, Int.neg_neg]⟩
  · rw [show (x.natAbs : Int) = x by omega, show (y.natAbs : Int) = y by omega]
    exact ⟨fun _ => rfl, fun c => absurd (by simp [hx, hy]) c⟩
theorem wz_nat (P : Nat) : wv P = wz (P : Int) := nz_of rfl
theorem dif_neg (P : Nat) : wv (dif 0 P) = wz (-(P : Int)) ∧ sg (dif 0 P) = (if P % Mw = 0 then 0 else if P % Mw ≤ Hw then -1 else 1) := by
  have hl : P % Mw < Mw := Nat.mod_lt _ (by decide)
  constructor
  · apply nz_of
    unfold dif
    rw [Nat.zero_add, Int.natCast_sub (Nat.le_of_lt hl), Int.natCast_emod]
    have h0 : (0 : Int) % (Mw : Int) = 0 := rfl
    rw [show (Mw : Int) - (P : Int) % (Mw : Int) = ((0 : Int) % (Mw : Int) - (P : Int) % (Mw : Int)) + (Mw : Int) by rw [h0]; omega, Int.add_emod_right, ← Int.sub_emod, Int.zero_sub]
  · unfold sg ng dif
    rw [Nat.zero_add]
    generalize P % Mw = m at hl ⊢
    by_cases h0 : m = 0
    · subst h0
      simp
    · have h1 : (Mw - m) % Mw = Mw - m := Nat.mod_eq_of_lt (by omega)
      rw [h1, if_neg (by omega), if_neg h0]
      simp only [Mw, Hw, decide_eq_true_eq] at hl ⊢
      by_cases h2 : m ≤ 57896044618658097711785492504343953926634992332820282019728792003956564819968
      · rw [if_pos (by omega), if_pos h2]
      · rw [if_neg (by omega), if_neg h2]
theorem mul_z {x y : Int} (hx : inR x) (hy : inR y) : PureX Try.prog 65 #[wz x, wz y] (rt (tp [wz (x * y), bb (decide (¬ inR (x * y)))])) := by
  obtain ⟨P, hP⟩ : ∃ P, P = x.natAbs * y.natAbs := ⟨_, rfl⟩
  have hc := mul_case hP
  have hle : P ≤ Hw * Hw := by rw [hP]; exact Nat.mul_le_mul (abs_le hx) (abs_le hy)
  have hd : P / Mw % Mw = P / Mw := Nat.mod_eq_of_lt (Nat.div_lt_of_lt_mul (Nat.lt_of_le_of_lt hle (by decide)))
  have hp := product_x (siz (nz x)) (siz (nz y))
  rw [siz_z hx, siz_z hy, ← hP] at hp
  have h1 := size_x (nz x)
  have h2 := size_x (nz y)
  have b1 := below_x (nz x)
  have b2 := below_x (nz y)
  have he := eqv_dec (P / Mw) 0
  rw [hd, Nat.zero_mod] at he
  have b3 := below_x P
  have n3 := neg_x P
  obtain ⟨w3, s3⟩ := dif_neg P
  have g3 := sign_x (dif 0 P)
  rw [s3] at g3
  rw [w3] at n3 g3
  rw [ng_z hx] at b1
  rw [ng_z hy] at b2
  generalize hA : decide (x < 0) = A at b1 hc
  generalize hB : decide (y < 0) = B at b2 hc
  generalize siz (nz x) = sx at h1 hp
  generalize siz (nz y) = sy at h2 hp
  generalize hE : eqv (P / Mw) 0 = E at he
  have hbig : P / Mw = 0 ↔ P < Mw := Nat.div_eq_zero_iff_lt (by decide)
  have hmod : P < Mw → P % Mw = P := Nat.mod_eq_of_lt
  clear hle hd hA hB hP hx hy s3
  by_cases hAB : A = B
  · have hv := hc.1 hAB
    rw [hv, ← wz_nat]
    have hq : (A == B) = true := by rw [hAB]; exact beq_self_eq_true B
    cases E
    · have hnot : ¬ P / Mw = 0 := by simpa using he
      have : decide (¬ inR (P : Int)) = true := by
        rw [decide_eq_true_eq]
        unfold inR
        simp only [Mw] at hbig hnot
        omega
      rw [this]
      exact runA_pure mix (mul_raw2 (nz x) (nz y) sx sy P (P / Mw) A B) ⟨h1, h2, hp, b1, b2, hq, by rw [hE]; rfl, trivial⟩ rfl rfl
    · have hz : P / Mw = 0 := by simpa using he
      have hlt := hbig.1 hz
      have : decide (¬ inR (P : Int)) = ng P := by
        unfold ng
        rw [hmod hlt, decide_eq_decide]
        unfold inR
        simp only [Mw] at hlt
        omega
      rw [this]
      exact runA_pure mix (mul_raw1 (nz x) (nz y) sx sy P (P / Mw) A B (ng P)) ⟨h1, h2, hp, b1, b2, hq, by rw [hE]; rfl, b3, trivial⟩ rfl rfl
  · have hv := hc.2 hAB
    rw [hv]
    have hq : (A == B) = false := by simpa using hAB
    have hn : wz (-(P : Int)) = wv (nz (-(P : Int))) := rfl
    cases E
    · have hnot : ¬ P / Mw = 0 := by simpa using he
      have : decide (¬ inR (-(P : Int))) = true := by
        rw [decide_eq_true_eq]
        unfold inR
        simp only [Mw] at hbig hnot
        omega
      rw [this]
      exact runA_pure mix (mul_raw4 (nz x) (nz y) sx sy P (P / Mw) (nz (-(P : Int))) A B (subO 0 P)) ⟨h1, h2, hp, b1, b2, hq, n3, by rw [hE]; rfl, trivial⟩ rfl rfl
    · have hz : P / Mw = 0 := by simpa using he
      have hlt := hbig.1 hz
      rw [hmod hlt] at g3
      have : decide (¬ inR (-(P : Int))) = decide ((0 : Int) < (if P = 0 then 0 else if P ≤ Hw then -1 else 1)) := by
        rw [decide_eq_decide]
        unfold inR
        simp only [Mw] at hlt
        simp only [Hw]
        split
        · omega
        · split <;> omega
      rw [this]
      exact runA_pure mix (mul_raw3 (nz x) (nz y) sx sy P (P / Mw) (nz (-(P : Int))) A B (subO 0 P) _) ⟨h1, h2, hp, b1, b2, hq, n3, by rw [hE]; rfl, g3, trivial⟩ rfl rfl

end Go.Proofs.Ytpbhoamojocbpaa
