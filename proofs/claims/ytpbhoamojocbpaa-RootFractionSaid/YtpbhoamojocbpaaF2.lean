/- Sums and differences of wide numbers: their numbers. -/
import Derived.Test.YtpbhoamojocbpaaF1
namespace Go.Proofs.Ytpbhoamojocbpaa
open Go Go.RowKit
set_option linter.unusedSimpArgs false
set_option linter.unusedVariables false

/-- A wide number of any number, by its rest by 2^256. -/
def wv (x : Nat) : Value := W4 (x % 18446744073709551616) (x / 18446744073709551616 % 18446744073709551616) (x / 340282366920938463463374607431768211456 % 18446744073709551616) (x / 6277101735386680763835789423207666416102355444464034512896 % 18446744073709551616)
def vl (a b c d : Nat) : Nat := a + 18446744073709551616 * (b + 18446744073709551616 * (c + 18446744073709551616 * d))
theorem wv_vl {a b c d : Nat} (ha : a < 18446744073709551616) (hb : b < 18446744073709551616) (hc : c < 18446744073709551616) (hd : d < 18446744073709551616) : wv (vl a b c d) = W4 a b c d := by
  have e0 : vl a b c d % 18446744073709551616 = a := by unfold vl; omega
  have e1 : vl a b c d / 18446744073709551616 = b + 18446744073709551616 * (c + 18446744073709551616 * d) := by unfold vl; omega
  have e2 : vl a b c d / 340282366920938463463374607431768211456 = c + 18446744073709551616 * d := by
    rw [show (340282366920938463463374607431768211456 : Nat) = 18446744073709551616 * 18446744073709551616 from rfl, ← Nat.div_div_eq_div_mul, e1]; omega
  have e3 : vl a b c d / 6277101735386680763835789423207666416102355444464034512896 = d := by
    rw [show (6277101735386680763835789423207666416102355444464034512896 : Nat) = 340282366920938463463374607431768211456 * 18446744073709551616 from rfl, ← Nat.div_div_eq_div_mul, e2]; omega
  unfold wv
  rw [e0, e1, e2, e3]
  congr 1 <;> omega
theorem vl_wv (x : Nat) : ∃ a b c d, a < 18446744073709551616 ∧ b < 18446744073709551616 ∧ c < 18446744073709551616 ∧ d < 18446744073709551616 ∧ vl a b c d = x % Mw ∧ wv x = W4 a b c d ∧ d = x / 6277101735386680763835789423207666416102355444464034512896 % 18446744073709551616 := by
  refine ⟨x % 18446744073709551616, x / 18446744073709551616 % 18446744073709551616, x / 340282366920938463463374607431768211456 % 18446744073709551616, x / 6277101735386680763835789423207666416102355444464034512896 % 18446744073709551616, by omega, by omega, by omega, by omega, ?_, rfl, rfl⟩
  have h2 : x / 340282366920938463463374607431768211456 = x / 18446744073709551616 / 18446744073709551616 := by rw [Nat.div_div_eq_div_mul]
  have h3 : x / 6277101735386680763835789423207666416102355444464034512896 = x / 18446744073709551616 / 18446744073709551616 / 18446744073709551616 := by rw [Nat.div_div_eq_div_mul, Nat.div_div_eq_div_mul]
  have h4 : x % Mw = x % (18446744073709551616 * (18446744073709551616 * (18446744073709551616 * 18446744073709551616))) := rfl
  unfold vl
  rw [h2, h3, h4, Nat.mod_mul, Nat.mod_mul, Nat.mod_mul]
theorem wv_mod {x y : Nat} (h : x % Mw = y % Mw) : wv x = wv y := by
  obtain ⟨a, b, c, d, ha, hb, hc, hd, e, e2, _⟩ := vl_wv x
  obtain ⟨a', b', c', d', ha', hb', hc', hd', e', e2', _⟩ := vl_wv y
  rw [e2, e2', ← wv_vl ha hb hc hd, ← wv_vl ha' hb' hc' hd', e, e', h]
theorem vl_lt {a b c d : Nat} (ha : a < 18446744073709551616) (hb : b < 18446744073709551616) (hc : c < 18446744073709551616) (hd : d < 18446744073709551616) : vl a b c d < Mw := by
  unfold vl
  simp only [Mw]
  omega
/-- Is it below 0? -/
def ng (x : Nat) : Bool := decide (57896044618658097711785492504343953926634992332820282019728792003956564819968 ≤ x % Mw)
theorem ng_top {a b c d : Nat} (ha : a < 18446744073709551616) (hb : b < 18446744073709551616) (hc : c < 18446744073709551616) (hd : d < 18446744073709551616) : ng (vl a b c d) = decide (9223372036854775808 ≤ d) := by
  unfold ng
  rw [decide_eq_decide, Nat.mod_eq_of_lt (vl_lt ha hb hc hd)]
  unfold vl
  omega
theorem ng_mod {x y : Nat} (h : x % Mw = y % Mw) : ng x = ng y := by unfold ng; rw [h]
theorem below_x (x : Nat) : PureX Try.prog 109 #[wv x] (rt (bb (ng x))) := by
  obtain ⟨a, b, c, d, ha, hb, hc, hd, e, e2, _⟩ := vl_wv x
  rw [e2, ng_mod (x := x) (y := vl a b c d) (by rw [e, Nat.mod_mod]), ng_top ha hb hc hd]
  exact below_c hd


/-- x less y, by rest. -/
def dif (x y : Nat) : Nat := x + (Mw - y % Mw)
def addO (x y : Nat) : Bool := (ng x == ng y) && !(ng (x + y) == ng x)
def subO (x y : Nat) : Bool := !(ng x == ng y) && !(ng (dif x y) == ng x)
theorem ad_spec {x y c : Nat} (hx : x < 18446744073709551616) (hy : y < 18446744073709551616) (hc : c ≤ 1) : ad x y c < 18446744073709551616 ∧ ac x y c ≤ 1 ∧ ad x y c + 18446744073709551616 * ac x y c = x + y + c := by
  unfold ad ac
  simp only [Bw]
  omega
theorem sb_spec {x y c : Nat} (hx : x < 18446744073709551616) (hy : y < 18446744073709551616) (hc : c ≤ 1) : sb x y c < 18446744073709551616 ∧ sc x y c ≤ 1 ∧ sb x y c + y + c = x + 18446744073709551616 * sc x y c := by
  unfold sb sc
  simp only [Bw]
  split <;> omega
theorem add_words {a0 a1 a2 a3 b0 b1 b2 b3 x y : Nat} (ha0 : a0 < 18446744073709551616) (ha1 : a1 < 18446744073709551616) (ha2 : a2 < 18446744073709551616) (ha3 : a3 < 18446744073709551616) (hb0 : b0 < 18446744073709551616) (hb1 : b1 < 18446744073709551616) (hb2 : b2 < 18446744073709551616) (hb3 : b3 < 18446744073709551616) (ea : vl a0 a1 a2 a3 = x % Mw) (eb : vl b0 b1 b2 b3 = y % Mw) :
    wv (x + y) = W4 (ad a0 b0 0) (ad a1 b1 (ac a0 b0 0)) (ad a2 b2 (ac a1 b1 (ac a0 b0 0))) (ad a3 b3 (ac a2 b2 (ac a1 b1 (ac a0 b0 0)))) ∧ (x + y) % Mw = vl (ad a0 b0 0) (ad a1 b1 (ac a0 b0 0)) (ad a2 b2 (ac a1 b1 (ac a0 b0 0))) (ad a3 b3 (ac a2 b2 (ac a1 b1 (ac a0 b0 0)))) % Mw ∧ decide ((ac a0 b0 0) > 1) = false ∧ decide ((ac a1 b1 (ac a0 b0 0)) > 1) = false ∧ decide ((ac a2 b2 (ac a1 b1 (ac a0 b0 0))) > 1) = false ∧ (ad a0 b0 0) < 18446744073709551616 ∧ (ad a1 b1 (ac a0 b0 0)) < 18446744073709551616 ∧ (ad a2 b2 (ac a1 b1 (ac a0 b0 0))) < 18446744073709551616 ∧ (ad a3 b3 (ac a2 b2 (ac a1 b1 (ac a0 b0 0)))) < 18446744073709551616 := by
  have k0 := ad_spec ha0 hb0 (c := 0) (by decide)
  have k1 := ad_spec ha1 hb1 (c := (ac a0 b0 0)) k0.2.1
  have k2 := ad_spec ha2 hb2 (c := (ac a1 b1 (ac a0 b0 0))) k1.2.1
  have k3 := ad_spec ha3 hb3 (c := (ac a2 b2 (ac a1 b1 (ac a0 b0 0)))) k2.2.1
  generalize (ad a3 b3 (ac a2 b2 (ac a1 b1 (ac a0 b0 0)))) = r3, (ac a3 b3 (ac a2 b2 (ac a1 b1 (ac a0 b0 0)))) = c4 at k3 ⊢
  generalize (ad a2 b2 (ac a1 b1 (ac a0 b0 0))) = r2, (ac a2 b2 (ac a1 b1 (ac a0 b0 0))) = c3 at k2 k3 ⊢
  generalize (ad a1 b1 (ac a0 b0 0)) = r1, (ac a1 b1 (ac a0 b0 0)) = c2 at k1 k2 ⊢
  generalize (ad a0 b0 0) = r0, (ac a0 b0 0) = c1 at k0 k1 ⊢
  obtain ⟨r0l, c0l, e0⟩ := k0
  obtain ⟨r1l, c1l, e1⟩ := k1
  obtain ⟨r2l, c2l, e2⟩ := k2
  obtain ⟨r3l, c3l, e3⟩ := k3
  have key : vl a0 a1 a2 a3 + vl b0 b1 b2 b3 = vl r0 r1 r2 r3 + Mw * c4 := by
    clear ea eb
    unfold vl
    simp only [Mw]
    omega
  have hz : (x + y) % Mw = vl r0 r1 r2 r3 % Mw := by
    rw [Nat.add_mod, ← ea, ← eb, key, Nat.add_mul_mod_self_left]
  refine ⟨?_, hz, by simp; omega, by simp; omega, by simp; omega, r0l, r1l, r2l, r3l⟩
  rw [← wv_vl r0l r1l r2l r3l]
  exact wv_mod hz

theorem sub_words {a0 a1 a2 a3 b0 b1 b2 b3 x y : Nat} (ha0 : a0 < 18446744073709551616) (ha1 : a1 < 18446744073709551616) (ha2 : a2 < 18446744073709551616) (ha3 : a3 < 18446744073709551616) (hb0 : b0 < 18446744073709551616) (hb1 : b1 < 18446744073709551616) (hb2 : b2 < 18446744073709551616) (hb3 : b3 < 18446744073709551616) (ea : vl a0 a1 a2 a3 = x % Mw) (eb : vl b0 b1 b2 b3 = y % Mw) :
    wv (dif x y) = W4 (sb a0 b0 0) (sb a1 b1 (sc a0 b0 0)) (sb a2 b2 (sc a1 b1 (sc a0 b0 0))) (sb a3 b3 (sc a2 b2 (sc a1 b1 (sc a0 b0 0)))) ∧ (dif x y) % Mw = vl (sb a0 b0 0) (sb a1 b1 (sc a0 b0 0)) (sb a2 b2 (sc a1 b1 (sc a0 b0 0))) (sb a3 b3 (sc a2 b2 (sc a1 b1 (sc a0 b0 0)))) % Mw ∧ decide ((sc a0 b0 0) > 1) = false ∧ decide ((sc a1 b1 (sc a0 b0 0)) > 1) = false ∧ decide ((sc a2 b2 (sc a1 b1 (sc a0 b0 0))) > 1) = false ∧ (sb a0 b0 0) < 18446744073709551616 ∧ (sb a1 b1 (sc a0 b0 0)) < 18446744073709551616 ∧ (sb a2 b2 (sc a1 b1 (sc a0 b0 0))) < 18446744073709551616 ∧ (sb a3 b3 (sc a2 b2 (sc a1 b1 (sc a0 b0 0)))) < 18446744073709551616 := by
  have k0 := sb_spec ha0 hb0 (c := 0) (by decide)
  have k1 := sb_spec ha1 hb1 (c := (sc a0 b0 0)) k0.2.1
  have k2 := sb_spec ha2 hb2 (c := (sc a1 b1 (sc a0 b0 0))) k1.2.1
  have k3 := sb_spec ha3 hb3 (c := (sc a2 b2 (sc a1 b1 (sc a0 b0 0)))) k2.2.1
  generalize (sb a3 b3 (sc a2 b2 (sc a1 b1 (sc a0 b0 0)))) = r3, (sc a3 b3 (sc a2 b2 (sc a1 b1 (sc a0 b0 0)))) = c4 at k3 ⊢
  generalize (sb a2 b2 (sc a1 b1 (sc a0 b0 0))) = r2, (sc a2 b2 (sc a1 b1 (sc a0 b0 0))) = c3 at k2 k3 ⊢
  generalize (sb a1 b1 (sc a0 b0 0)) = r1, (sc a1 b1 (sc a0 b0 0)) = c2 at k1 k2 ⊢
  generalize (sb a0 b0 0) = r0, (sc a0 b0 0) = c1 at k0 k1 ⊢
  obtain ⟨r0l, c0l, e0⟩ := k0
  obtain ⟨r1l, c1l, e1⟩ := k1
  obtain ⟨r2l, c2l, e2⟩ := k2
  obtain ⟨r3l, c3l, e3⟩ := k3
  have key : vl r0 r1 r2 r3 + vl b0 b1 b2 b3 = vl a0 a1 a2 a3 + Mw * c4 := by
    clear ea eb
    unfold vl
    simp only [Mw]
    omega
  have hz : (dif x y) % Mw = vl r0 r1 r2 r3 % Mw := by
    have hl := vl_lt hb0 hb1 hb2 hb3
    unfold dif
    rw [← eb, Nat.add_mod, ← ea]
    generalize vl a0 a1 a2 a3 = A at key ⊢
    generalize vl b0 b1 b2 b3 = Bv at key hl ⊢
    generalize vl r0 r1 r2 r3 = R at key ⊢
    have hA : R = A + (Mw * c4 - Bv) ∨ True := .inr trivial
    rcases (show c4 = 0 ∨ c4 = 1 by omega) with rfl | rfl
    · rw [Nat.mul_zero, Nat.add_zero] at key
      rw [Nat.add_mod_mod, show A + (Mw - Bv) = R + Mw by omega, Nat.add_mod_right]
    · rw [Nat.mul_one] at key
      rw [Nat.add_mod_mod, show A + (Mw - Bv) = R by omega]
  refine ⟨?_, hz, by simp; omega, by simp; omega, by simp; omega, r0l, r1l, r2l, r3l⟩
  rw [← wv_vl r0l r1l r2l r3l]
  exact wv_mod hz

theorem add_x (x y : Nat) : PureX Try.prog 119 #[wv x, wv y] (rt (tp [wv (x + y), bb (addO x y)])) := by
  obtain ⟨a0, a1, a2, a3, ha0, ha1, ha2, ha3, ea, ea2, _⟩ := vl_wv x
  obtain ⟨b0, b1, b2, b3, hb0, hb1, hb2, hb3, eb, eb2, _⟩ := vl_wv y
  obtain ⟨hw, hz, hc1, hc2, hc3, hr0, hr1, hr2, hr3⟩ := add_words ha0 ha1 ha2 ha3 hb0 hb1 hb2 hb3 ea eb
  have n1 := below_c (a0 := a0) (a1 := a1) (a2 := a2) ha3
  have n2 := below_c (a0 := b0) (a1 := b1) (a2 := b2) hb3
  have n3 := below_c (a0 := (ad a0 b0 0)) (a1 := (ad a1 b1 (ac a0 b0 0))) (a2 := (ad a2 b2 (ac a1 b1 (ac a0 b0 0)))) hr3
  have g1 : ng x = decide (9223372036854775808 ≤ a3) := by rw [ng_mod (x := x) (y := vl a0 a1 a2 a3) (by rw [ea, Nat.mod_mod]), ng_top ha0 ha1 ha2 ha3]
  have g2 : ng y = decide (9223372036854775808 ≤ b3) := by rw [ng_mod (x := y) (y := vl b0 b1 b2 b3) (by rw [eb, Nat.mod_mod]), ng_top hb0 hb1 hb2 hb3]
  have g3 : ng (x + y) = decide (9223372036854775808 ≤ (ad a3 b3 (ac a2 b2 (ac a1 b1 (ac a0 b0 0))))) := by rw [ng_mod hz, ng_top hr0 hr1 hr2 hr3]
  rw [ea2, eb2, hw]
  clear hw hz ea2 eb2 ea eb
  unfold addO
  rw [g1, g2, g3]
  clear g1 g2 g3
  generalize decide (9223372036854775808 ≤ a3) = A at n1 ⊢
  generalize decide (9223372036854775808 ≤ b3) = B at n2 ⊢
  generalize decide (9223372036854775808 ≤ (ad a3 b3 (ac a2 b2 (ac a1 b1 (ac a0 b0 0))))) = R at n3 ⊢
  cases hq : (A == B) <;> simp only [Bool.not_false, Bool.not_true, Bool.true_and, Bool.false_and]
  · refine runA_pure mix (add_raw2 a0 a1 a2 a3 b0 b1 b2 b3 _ _ true true) ⟨hc1, hc2, hc3, n1, n2, hq, trivial⟩ rfl rfl
  · refine runA_pure mix (add_raw1 a0 a1 a2 a3 b0 b1 b2 b3 _ _ _ _) ⟨hc1, hc2, hc3, n1, n2, hq, n3, n1, trivial⟩ rfl rfl

theorem sub_x (x y : Nat) : PureX Try.prog 66 #[wv x, wv y] (rt (tp [wv (dif x y), bb (subO x y)])) := by
  obtain ⟨a0, a1, a2, a3, ha0, ha1, ha2, ha3, ea, ea2, _⟩ := vl_wv x
  obtain ⟨b0, b1, b2, b3, hb0, hb1, hb2, hb3, eb, eb2, _⟩ := vl_wv y
  obtain ⟨hw, hz, hc1, hc2, hc3, hr0, hr1, hr2, hr3⟩ := sub_words ha0 ha1 ha2 ha3 hb0 hb1 hb2 hb3 ea eb
  have n1 := below_c (a0 := a0) (a1 := a1) (a2 := a2) ha3
  have n2 := below_c (a0 := b0) (a1 := b1) (a2 := b2) hb3
  have n3 := below_c (a0 := (sb a0 b0 0)) (a1 := (sb a1 b1 (sc a0 b0 0))) (a2 := (sb a2 b2 (sc a1 b1 (sc a0 b0 0)))) hr3
  have g1 : ng x = decide (9223372036854775808 ≤ a3) := by rw [ng_mod (x := x) (y := vl a0 a1 a2 a3) (by rw [ea, Nat.mod_mod]), ng_top ha0 ha1 ha2 ha3]
  have g2 : ng y = decide (9223372036854775808 ≤ b3) := by rw [ng_mod (x := y) (y := vl b0 b1 b2 b3) (by rw [eb, Nat.mod_mod]), ng_top hb0 hb1 hb2 hb3]
  have g3 : ng (dif x y) = decide (9223372036854775808 ≤ (sb a3 b3 (sc a2 b2 (sc a1 b1 (sc a0 b0 0))))) := by rw [ng_mod hz, ng_top hr0 hr1 hr2 hr3]
  rw [ea2, eb2, hw]
  clear hw hz ea2 eb2 ea eb
  unfold subO
  rw [g1, g2, g3]
  clear g1 g2 g3
  generalize decide (9223372036854775808 ≤ a3) = A at n1 ⊢
  generalize decide (9223372036854775808 ≤ b3) = B at n2 ⊢
  generalize decide (9223372036854775808 ≤ (sb a3 b3 (sc a2 b2 (sc a1 b1 (sc a0 b0 0))))) = R at n3 ⊢
  cases hq : (A == B) <;> simp only [Bool.not_false, Bool.not_true, Bool.true_and, Bool.false_and]
  · have hq2 : (!(A == B)) = true := by rw [hq]; rfl
    exact runA_pure mix (sub_raw1 a0 a1 a2 a3 b0 b1 b2 b3 A B R A) ⟨hc1, hc2, hc3, n1, n2, hq2, n3, n1, trivial⟩ rfl rfl
  · refine runA_pure mix (sub_raw2 a0 a1 a2 a3 b0 b1 b2 b3 _ _ true true) ⟨hc1, hc2, hc3, n1, n2, by rw [hq]; rfl, trivial⟩ rfl rfl

end Go.Proofs.Ytpbhoamojocbpaa
