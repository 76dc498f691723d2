/- Texts of the seat, joined. -/
import Derived.Test.YtcmfgabhgodlaaaGreatDoorZz4
import Derived.Test.YtcmfgabhgodlaaaGreatDoorRows
import Derived.WalkKit
import Derived.Outline
import Derived.RangeFuncNested
import Derived.RangeFuncBound
import Derived.RangeFuncCalls
import Derived.RangeFuncLeaves
import Derived.RangeFuncBox
import Derived.Shelf.Abstract
import Derived.Shelf.RegionOpen
import Derived.OwnWalkIn
import Derived.TacticsInMore
import Derived.LoopNIn
import Derived.LoopIn
import Derived.Maps.AppendAt
import Derived.Lib.Hide
import Derived.Lib.Mul64
import Derived.Laws.Bits64b
import Derived.Laws.Externs
import Derived.Deep.QuietTactic
import Derived.BigQuiet
/- Sums and differences of wide numbers: their numbers. -/
namespace Go.Proofs.YtcmfgabhgodlaaaGreatDoor
open Go Go.RowKit
set_option linter.unusedSimpArgs false
set_option linter.unusedVariables false

/-- A wide number of any number, by its rest by 2^256. -/
def wv (x : Nat) : Value := W4 (x % 18446744073709551616) (x / 18446744073709551616 % 18446744073709551616) (x / 340282366920938463463374607431768211456 % 18446744073709551616) (x / 6277101735386680763835789423207666416102355444464034512896 % 18446744073709551616)
def vl (a b c d : Nat) : Nat := a + 18446744073709551616 * (b + 18446744073709551616 * (c + 18446744073709551616 * d))
theorem wv_vl {a b c d : Nat} (ha : a < 18446744073709551616) (hb : b < 18446744073709551616) (hc : c < 18446744073709551616) (hd : d < 18446744073709551616) : wv (vl a b c d) = W4 a b c d := by
  have e0 : vl a b c d % 18446744073709551616 = a := by unfold vl; omega
  have e1 : vl a b c d / 18446744073709551616 = b + 18446744073709551616 * (c + 18446744073709551616 * d) := by unfold vl; omega
  have e2 : vl a b c d / 340282366920938463463374607431768211456 = c + 18446744073709551616 * d := by
    rw [show (340282366920938463463374607431768211456 : Nat) = 18446744073709551616 * 18446744073709551616 from rfl, ← Nat.div_div_eq_div_mul, e1]; omega
  have e3 : vl a b c d / 6277101735386680763835789423207666416102355444464034512896 = d := by
    rw [show (6277101735386680763835789423207666416102355444464034512896 : Nat) = 340282366920938463463374607431768211456 * 18446744073709551616 from rfl, ← Nat.div_div_eq_div_mul, e2]; omega
  unfold wv
  rw [e0, e1, e2, e3]
  congr 1 <;> omega
theorem vl_wv (x : Nat) : ∃ a b c d, a < 18446744073709551616 ∧ b < 18446744073709551616 ∧ c < 18446744073709551616 ∧ d < 18446744073709551616 ∧ vl a b c d = x % Mw ∧ wv x = W4 a b c d ∧ d = x / 6277101735386680763835789423207666416102355444464034512896 % 18446744073709551616 := by
  refine ⟨x % 18446744073709551616, x / 18446744073709551616 % 18446744073709551616, x / 340282366920938463463374607431768211456 % 18446744073709551616, x / 6277101735386680763835789423207666416102355444464034512896 % 18446744073709551616, by omega, by omega, by omega, by omega, ?_, rfl, rfl⟩
  have h2 : x / 340282366920938463463374607431768211456 = x / 18446744073709551616 / 18446744073709551616 := by rw [Nat.div_div_eq_div_mul]
  have h3 : x / 6277101735386680763835789423207666416102355444464034512896 = x / 18446744073709551616 / 18446744073709551616 / 18446744073709551616 := by rw [Nat.div_div_eq_div_mul, Nat.div_div_eq_div_mul]
  have h4 : x % Mw = x % (18446744073709551616 * (18446744073709551616 * (18446744073709551616 * 18446744073709551616))) := rfl
  unfold vl
  rw [h2, h3, h4, Nat.mod_mul, Nat.mod_mul, Nat.mod_mul]
theorem wv_mod {x y : Nat} (h : x % Mw = y % Mw) : wv x = wv y := by
  obtain ⟨a, b, c, d, ha, hb, hc, hd, e, e2, _⟩ := vl_wv x
  obtain ⟨a', b', c', d', ha', hb', hc', hd', e', e2', _⟩ := vl_wv y
  rw [e2, e2', ← wv_vl ha hb hc hd, ← wv_vl ha' hb' hc' hd', e, e', h]
theorem vl_lt {a b c d : Nat} (ha : a < 18446744073709551616) (hb : b < 18446744073709551616) (hc : c < 18446744073709551616) (hd : d < 18446744073709551616) : vl a b c d < Mw := by
  unfold vl
  simp only [Mw]
  omega
/-- Is it below 0? -/
def ng (x : Nat) : Bool := decide (57896044618658097711785492504343953926634992332820282019728792003956564819968 ≤ x % Mw)
theorem ng_top {a b c d : Nat} (ha : a < 18446744073709551616) (hb : b < 18446744073709551616) (hc : c < 18446744073709551616) (hd : d < 18446744073709551616) : ng (vl a b c d) = decide (9223372036854775808 ≤ d) := by
  unfold ng
  rw [decide_eq_decide, Nat.mod_eq_of_lt (vl_lt ha hb hc hd)]
  unfold vl
  omega
theorem ng_mod {x y : Nat} (h : x % Mw = y % Mw) : ng x = ng y := by unfold ng; rw [h]
theorem below_x (x : Nat) : PureX Tryz.prog 75 #[wv x] (rt (bb (ng x))) := by
  obtain ⟨a, b, c, d, ha, hb, hc, hd, e, e2, _⟩ := vl_wv x
  rw [e2, ng_mod (x := x) (y := vl a b c d) (by rw [e, Nat.mod_mod]), ng_top ha hb hc hd]
  exact below_c hd


/-- x less y, by rest. -/
def dif (x y : Nat) : Nat := x + (Mw - y % Mw)
def addO (x y : Nat) : Bool := (ng x == ng y) && !(ng (x + y) == ng x)
def subO (x y : Nat) : Bool := !(ng x == ng y) && !(ng (dif x y) == ng x)
theorem ad_spec {x y c : Nat} (hx : x < 18446744073709551616) (hy : y < 18446744073709551616) (hc : c ≤ 1) : ad x y c < 18446744073709551616 ∧ ac x y c ≤ 1 ∧ ad x y c + 18446744073709551616 * ac x y c = x + y + c := by
  unfold ad ac
  simp only [Bw]
  omega
theorem sb_spec {x y c : Nat} (hx : x < 18446744073709551616) (hy : y < 18446744073709551616) (hc : c ≤ 1) : sb x y c < 18446744073709551616 ∧ sc x y c ≤ 1 ∧ sb x y c + y + c = x + 18446744073709551616 * sc x y c := by
  unfold sb sc
  simp only [Bw]
  split <;> omega
theorem add_words {a0 a1 a2 a3 b0 b1 b2 b3 x y : Nat} (ha0 : a0 < 18446744073709551616) (ha1 : a1 < 18446744073709551616) (ha2 : a2 < 18446744073709551616) (ha3 : a3 < 18446744073709551616) (hb0 : b0 < 18446744073709551616) (hb1 : b1 < 18446744073709551616) (hb2 : b2 < 18446744073709551616) (hb3 : b3 < 18446744073709551616) (ea : vl a0 a1 a2 a3 = x % Mw) (eb : vl b0 b1 b2 b3 = y % Mw) :
    wv (x + y) = W4 (ad a0 b0 0) (ad a1 b1 (ac a0 b0 0)) (ad a2 b2 (ac a1 b1 (ac a0 b0 0))) (ad a3 b3 (ac a2 b2 (ac a1 b1 (ac a0 b0 0)))) ∧ (x + y) % Mw = vl (ad a0 b0 0) (ad a1 b1 (ac a0 b0 0)) (ad a2 b2 (ac a1 b1 (ac a0 b0 0))) (ad a3 b3 (ac a2 b2 (ac a1 b1 (ac a0 b0 0)))) % Mw ∧ decide ((ac a0 b0 0) > 1) = false ∧ decide ((ac a1 b1 (ac a0 b0 0)) > 1) = false ∧ decide ((ac a2 b2 (ac a1 b1 (ac a0 b0 0))) > 1) = false ∧ (ad a0 b0 0) < 18446744073709551616 ∧ (ad a1 b1 (ac a0 b0 0)) < 18446744073709551616 ∧ (ad a2 b2 (ac a1 b1 (ac a0 b0 0))) < 18446744073709551616 ∧ (ad a3 b3 (ac a2 b2 (ac a1 b1 (ac a0 b0 0)))) < 18446744073709551616 := by
  have k0 := ad_spec ha0 hb0 (c := 0) (by decide)
  have k1 := ad_spec ha1 hb1 (c := (ac a0 b0 0)) k0.2.1
  have k2 := ad_spec ha2 hb2 (c := (ac a1 b1 (ac a0 b0 0))) k1.2.1
  have k3 := ad_spec ha3 hb3 (c := (ac a2 b2 (ac a1 b1 (ac a0 b0 0)))) k2.2.1
  generalize (ad a3 b3 (ac a2 b2 (ac a1 b1 (ac a0 b0 0)))) = r3, (ac a3 b3 (ac a2 b2 (ac a1 b1 (ac a0 b0 0)))) = c4 at k3 ⊢
  generalize (ad a2 b2 (ac a1 b1 (ac a0 b0 0))) = r2, (ac a2 b2 (ac a1 b1 (ac a0 b0 0))) = c3 at k2 k3 ⊢
  generalize (ad a1 b1 (ac a0 b0 0)) = r1, (ac a1 b1 (ac a0 b0 0)) = c2 at k1 k2 ⊢
  generalize (ad a0 b0 0) = r0, (ac a0 b0 0) = c1 at k0 k1 ⊢
  obtain ⟨r0l, c0l, e0⟩ := k0
  obtain ⟨r1l, c1l, e1⟩ := k1
  obtain ⟨r2l, c2l, e2⟩ := k2
  obtain ⟨r3l, c3l, e3⟩ := k3
  have key : vl a0 a1 a2 a3 + vl b0 b1 b2 b3 = vl r0 r1 r2 r3 + Mw * c4 := by
    clear ea eb
    unfold vl
    simp only [Mw]
    omega
  have hz : (x + y) % Mw = vl r0 r1 r2 r3 % Mw := by
    rw [Nat.add_mod, ← ea, ← eb, key, Nat.add_mul_mod_self_left]
  refine ⟨?_, hz, by simp; omega, by simp; omega, by simp; omega, r0l, r1l, r2l, r3l⟩
  rw [← wv_vl r0l r1l r2l r3l]
  exact wv_mod hz

theorem sub_words {a0 a1 a2 a3 b0 b1 b2 b3 x y : Nat} (ha0 : a0 < 18446744073709551616) (ha1 : a1 < 18446744073709551616) (ha2 : a2 < 18446744073709551616) (ha3 : a3 < 18446744073709551616) (hb0 : b0 < 18446744073709551616) (hb1 : b1 < 18446744073709551616) (hb2 : b2 < 18446744073709551616) (hb3 : b3 < 18446744073709551616) (ea : vl a0 a1 a2 a3 = x % Mw) (eb : vl b0 b1 b2 b3 = y % Mw) :
    wv (dif x y) = W4 (sb a0 b0 0) (sb a1 b1 (sc a0 b0 0)) (sb a2 b2 (sc a1 b1 (sc a0 b0 0))) (sb a3 b3 (sc a2 b2 (sc a1 b1 (sc a0 b0 0)))) ∧ (dif x y) % Mw = vl (sb a0 b0 0) (sb a1 b1 (sc a0 b0 0)) (sb a2 b2 (sc a1 b1 (sc a0 b0 0))) (sb a3 b3 (sc a2 b2 (sc a1 b1 (sc a0 b0 0)))) % Mw ∧ decide ((sc a0 b0 0) > 1) = false ∧ decide ((sc a1 b1 (sc a0 b0 0)) > 1) = false ∧ decide ((sc a2 b2 (sc a1 b1 (sc a0 b0 0))) > 1) = false ∧ (sb a0 b0 0) < 18446744073709551616 ∧ (sb a1 b1 (sc a0 b0 0)) < 18446744073709551616 ∧ (sb a2 b2 (sc a1 b1 (sc a0 b0 0))) < 18446744073709551616 ∧ (sb a3 b3 (sc a2 b2 (sc a1 b1 (sc a0 b0 0)))) < 18446744073709551616 := by
  have k0 := sb_spec ha0 hb0 (c := 0) (by decide)
  have k1 := sb_spec ha1 hb1 (c := (sc a0 b0 0)) k0.2.1
  have k2 := sb_spec ha2 hb2 (c := (sc a1 b1 (sc a0 b0 0))) k1.2.1
  have k3 := sb_spec ha3 hb3 (c := (sc a2 b2 (sc a1 b1 (sc a0 b0 0)))) k2.2.1
  generalize (sb a3 b3 (sc a2 b2 (sc a1 b1 (sc a0 b0 0)))) = r3, (sc a3 b3 (sc a2 b2 (sc a1 b1 (sc a0 b0 0)))) = c4 at k3 ⊢
  generalize (sb a2 b2 (sc a1 b1 (sc a0 b0 0))) = r2, (sc a2 b2 (sc a1 b1 (sc a0 b0 0))) = c3 at k2 k3 ⊢
  generalize (sb a1 b1 (sc a0 b0 0)) = r1, (sc a1 b1 (sc a0 b0 0)) = c2 at k1 k2 ⊢
  generalize (sb a0 b0 0) = r0, (sc a0 b0 0) = c1 at k0 k1 ⊢
  obtain ⟨r0l, c0l, e0⟩ := k0
  obtain ⟨r1l, c1l, e1⟩ := k1
  obtain ⟨r2l, c2l, e2⟩ := k2
  obtain ⟨r3l, c3l, e3⟩ := k3
  have key : vl r0 r1 r2 r3 + vl b0 b1 b2 b3 = vl a0 a1 a2 a3 + Mw * c4 := by
    clear ea eb
    unfold vl
    simp only [Mw]
    omega
  have hz : (dif x y) % Mw = vl r0 r1 r2 r3 % Mw := by
    have hl := vl_lt hb0 hb1 hb2 hb3
    unfold dif
    rw [← eb, Nat.add_mod, ← ea]
    generalize vl a0 a1 a2 a3 = A at key ⊢
    generalize vl b0 b1 b2 b3 = Bv at key hl ⊢
    generalize vl r0 r1 r2 r3 = R at key ⊢
    have hA : R = A + (Mw * c4 - Bv) ∨ True := .inr trivial
    rcases (show c4 = 0 ∨ c4 = 1 by omega) with rfl | rfl
    · rw [Nat.mul_zero, Nat.add_zero] at key
      rw [Nat.add_mod_mod, show A + (Mw - Bv) = R + Mw by omega, Nat.add_mod_right]
    · rw [Nat.mul_one] at key
      rw [Nat.add_mod_mod, show A + (Mw - Bv) = R by omega]
  refine ⟨?_, hz, by simp; omega, by simp; omega, by simp; omega, r0l, r1l, r2l, r3l⟩
  rw [← wv_vl r0l r1l r2l r3l]
  exact wv_mod hz

theorem add_x (x y : Nat) : PureX Tryz.prog 68 #[wv x, wv y] (rt (tp [wv (x + y), bb (addO x y)])) := by
  obtain ⟨a0, a1, a2, a3, ha0, ha1, ha2, ha3, ea, ea2, _⟩ := vl_wv x
  obtain ⟨b0, b1, b2, b3, hb0, hb1, hb2, hb3, eb, eb2, _⟩ := vl_wv y
  obtain ⟨hw, hz, hc1, hc2, hc3, hr0, hr1, hr2, hr3⟩ := add_words ha0 ha1 ha2 ha3 hb0 hb1 hb2 hb3 ea eb
  have n1 := below_c (a0 := a0) (a1 := a1) (a2 := a2) ha3
  have n2 := below_c (a0 := b0) (a1 := b1) (a2 := b2) hb3
  have n3 := below_c (a0 := (ad a0 b0 0)) (a1 := (ad a1 b1 (ac a0 b0 0))) (a2 := (ad a2 b2 (ac a1 b1 (ac a0 b0 0)))) hr3
  have g1 : ng x = decide (9223372036854775808 ≤ a3) := by rw [ng_mod (x := x) (y := vl a0 a1 a2 a3) (by rw [ea, Nat.mod_mod]), ng_top ha0 ha1 ha2 ha3]
  have g2 : ng y = decide (9223372036854775808 ≤ b3) := by rw [ng_mod (x := y) (y := vl b0 b1 b2 b3) (by rw [eb, Nat.mod_mod]), ng_top hb0 hb1 hb2 hb3]
  have g3 : ng (x + y) = decide (9223372036854775808 ≤ (ad a3 b3 (ac a2 b2 (ac a1 b1 (ac a0 b0 0))))) := by rw [ng_mod hz, ng_top hr0 hr1 hr2 hr3]
  rw [ea2, eb2, hw]
  clear hw hz ea2 eb2 ea eb
  unfold addO
  rw [g1, g2, g3]
  clear g1 g2 g3
  generalize decide (9223372036854775808 ≤ a3) = A at n1 ⊢
  generalize decide (9223372036854775808 ≤ b3) = B at n2 ⊢
  generalize decide (9223372036854775808 ≤ (ad a3 b3 (ac a2 b2 (ac a1 b1 (ac a0 b0 0))))) = R at n3 ⊢
  cases hq : (A == B) <;> simp only [Bool.not_false, Bool.not_true, Bool.true_and, Bool.false_and]
  · refine runA_pure mix (add_raw2 a0 a1 a2 a3 b0 b1 b2 b3 _ _ true true) ⟨hc1, hc2, hc3, n1, n2, hq, trivial⟩ rfl rfl
  · refine runA_pure mix (add_raw1 a0 a1 a2 a3 b0 b1 b2 b3 _ _ _ _) ⟨hc1, hc2, hc3, n1, n2, hq, n3, n1, trivial⟩ rfl rfl

theorem sub_x (x y : Nat) : PureX Tryz.prog 91 #[wv x, wv y] (rt (tp [wv (dif x y), bb (subO x y)])) := by
  obtain ⟨a0, a1, a2, a3, ha0, ha1, ha2, ha3, ea, ea2, _⟩ := vl_wv x
  obtain ⟨b0, b1, b2, b3, hb0, hb1, hb2, hb3, eb, eb2, _⟩ := vl_wv y
  obtain ⟨hw, hz, hc1, hc2, hc3, hr0, hr1, hr2, hr3⟩ := sub_words ha0 ha1 ha2 ha3 hb0 hb1 hb2 hb3 ea eb
  have n1 := below_c (a0 := a0) (a1 := a1) (a2 := a2) ha3
  have n2 := below_c (a0 := b0) (a1 := b1) (a2 := b2) hb3
  have n3 := below_c (a0 := (sb a0 b0 0)) (a1 := (sb a1 b1 (sc a0 b0 0))) (a2 := (sb a2 b2 (sc a1 b1 (sc a0 b0 0)))) hr3
  have g1 : ng x = decide (9223372036854775808 ≤ a3) := by rw [ng_mod (x := x) (y := vl a0 a1 a2 a3) (by rw [ea, Nat.mod_mod]), ng_top ha0 ha1 ha2 ha3]
  have g2 : ng y = decide (9223372036854775808 ≤ b3) := by rw [ng_mod (x := y) (y := vl b0 b1 b2 b3) (by rw [eb, Nat.mod_mod]), ng_top hb0 hb1 hb2 hb3]
  have g3 : ng (dif x y) = decide (9223372036854775808 ≤ (sb a3 b3 (sc a2 b2 (sc a1 b1 (sc a0 b0 0))))) := by rw [ng_mod hz, ng_top hr0 hr1 hr2 hr3]
  rw [ea2, eb2, hw]
  clear hw hz ea2 eb2 ea eb
  unfold subO
  rw [g1, g2, g3]
  clear g1 g2 g3
  generalize decide (9223372036854775808 ≤ a3) = A at n1 ⊢
  generalize decide (9223372036854775808 ≤ b3) = B at n2 ⊢
  generalize decide (9223372036854775808 ≤ (sb a3 b3 (sc a2 b2 (sc a1 b1 (sc a0 b0 0))))) = R at n3 ⊢
  cases hq : (A == B) <;> simp only [Bool.not_false, Bool.not_true, Bool.true_and, Bool.false_and]
  · have hq2 : (!(A == B)) = true := by rw [hq]; rfl
    exact runA_pure mix (sub_raw1 a0 a1 a2 a3 b0 b1 b2 b3 A B R A) ⟨hc1, hc2, hc3, n1, n2, hq2, n3, n1, trivial⟩ rfl rfl
  · refine runA_pure mix (sub_raw2 a0 a1 a2 a3 b0 b1 b2 b3 _ _ true true) ⟨hc1, hc2, hc3, n1, n2, by rw [hq]; rfl, trivial⟩ rfl rfl

end Go.Proofs.YtcmfgabhgodlaaaGreatDoor

/- Wide numbers as integers; Neg, Sign, size, Add, Sub. -/
namespace Go.Proofs.YtcmfgabhgodlaaaGreatDoor
open Go Go.RowKit
set_option linter.unusedSimpArgs false
set_option linter.unusedVariables false

/-- Are two wide numbers the same? -/
def eqv (x y : Nat) : Bool :=
  (Int.ofNat (x % 18446744073709551616) == Int.ofNat (y % 18446744073709551616)) &&
    ((Int.ofNat (x / 18446744073709551616 % 18446744073709551616) == Int.ofNat (y / 18446744073709551616 % 18446744073709551616)) &&
      ((Int.ofNat (x / 340282366920938463463374607431768211456 % 18446744073709551616) == Int.ofNat (y / 340282366920938463463374607431768211456 % 18446744073709551616)) &&
        ((Int.ofNat (x / 6277101735386680763835789423207666416102355444464034512896 % 18446744073709551616) == Int.ofNat (y / 6277101735386680763835789423207666416102355444464034512896 % 18446744073709551616)) && true)))
theorem eqv_dec (x y : Nat) : eqv x y = decide (x % Mw = y % Mw) := by
  rw [Bool.eq_iff_iff, decide_eq_true_iff]
  unfold eqv
  simp only [Bool.and_eq_true, beq_iff_eq, Int.ofNat.injEq, and_true]
  constructor
  · rintro ⟨h0, h1, h2, h3⟩
    have ex : ∀ x, x % Mw = vl (x % 18446744073709551616) (x / 18446744073709551616 % 18446744073709551616) (x / 340282366920938463463374607431768211456 % 18446744073709551616) (x / 6277101735386680763835789423207666416102355444464034512896 % 18446744073709551616) := by
      intro x
      have h2 : x / 340282366920938463463374607431768211456 = x / 18446744073709551616 / 18446744073709551616 := by rw [Nat.div_div_eq_div_mul]
      have h3 : x / 6277101735386680763835789423207666416102355444464034512896 = x / 18446744073709551616 / 18446744073709551616 / 18446744073709551616 := by rw [Nat.div_div_eq_div_mul, Nat.div_div_eq_div_mul]
      have h4 : x % Mw = x % (18446744073709551616 * (18446744073709551616 * (18446744073709551616 * 18446744073709551616))) := rfl
      unfold vl
      rw [h2, h3, h4, Nat.mod_mul, Nat.mod_mul, Nat.mod_mul]
    rw [ex x, ex y, h0, h1, h2, h3]
  · intro h
    have := wv_mod h
    unfold wv W4 at this
    simp only [Value.agg.injEq, Array.mk.injEq, List.cons.injEq, Value.int.injEq, true_and, and_true, Int.ofNat.injEq] at this
    exact this

theorem neg_raw (x y : Nat) (o : Bool) : runA Tryz.prog 76 #[wv x] [] [(91, rt (tp [wv y, bb (o)]))] =
    some (rt (tp [wv y, bb (o)]), [PureX Tryz.prog 91 #[wv 0, wv x] (rt (tp [wv y, bb (o)]))]) := by kernel_rfl
theorem size_raw1 (x y : Nat) (o p : Bool) : runA Tryz.prog 74 #[wv x] [t] [(75, rt (bb (o))), (76, rt (tp [wv y, bb (p)]))] =
    some (rt (wv y), [PureX Tryz.prog 75 #[wv x] (rt (bb (o))), (o) = true, PureX Tryz.prog 76 #[wv x] (rt (tp [wv y, bb (p)]))]) := by kernel_rfl
theorem size_raw2 (x : Nat) (o : Bool) : runA Tryz.prog 74 #[wv x] [f] [(75, rt (bb (o)))] =
    some (rt (wv x), [PureX Tryz.prog 75 #[wv x] (rt (bb (o))), (o) = false]) := by kernel_rfl
theorem sign_raw1 (x : Nat) : runA Tryz.prog 77 #[wv x] [t] [] =
    some (rt (.int .i64 (0)), [(eqv x 0) = true]) := by kernel_rfl
theorem sign_raw2 (x : Nat) (o : Bool) : runA Tryz.prog 77 #[wv x] [f, t] [(75, rt (bb (o)))] =
    some (rt (.int .i64 (-1)), [(eqv x 0) = false, PureX Tryz.prog 75 #[wv x] (rt (bb (o))), (o) = true]) := by kernel_rfl
theorem sign_raw3 (x : Nat) (o : Bool) : runA Tryz.prog 77 #[wv x] [f, f] [(75, rt (bb (o)))] =
    some (rt (.int .i64 (1)), [(eqv x 0) = false, PureX Tryz.prog 75 #[wv x] (rt (bb (o))), (o) = false]) := by kernel_rfl

theorem neg_x (x : Nat) : PureX Tryz.prog 76 #[wv x] (rt (tp [wv (dif 0 x), bb (subO 0 x)])) :=
  runA_pure mix (neg_raw x (dif 0 x) (subO 0 x)) ⟨sub_x 0 x, trivial⟩ rfl rfl
/-- A number without its sign. -/
def siz (x : Nat) : Nat := if ng x = true then dif 0 x else x
theorem size_x (x : Nat) : PureX Tryz.prog 74 #[wv x] (rt (wv (siz x))) := by
  unfold siz
  have hb := below_x x
  generalize hn : ng x = b at hb ⊢
  cases b
  · exact runA_pure mix (size_raw2 x false) ⟨hb, rfl, trivial⟩ rfl rfl
  · exact runA_pure mix (size_raw1 x (dif 0 x) true (subO 0 x)) ⟨hb, rfl, neg_x x, trivial⟩ rfl rfl
/-- The sign. -/
def sg (x : Nat) : Int := if x % Mw = 0 then 0 else if ng x = true then -1 else 1
theorem sign_x (x : Nat) : PureX Tryz.prog 77 #[wv x] (rt (.int .i64 (sg x))) := by
  have he := eqv_dec x 0
  have hb := below_x x
  unfold sg
  rw [Nat.zero_mod] at he
  by_cases h0 : x % Mw = 0
  · rw [if_pos h0]
    rw [decide_eq_true h0] at he
    exact runA_pure mix (sign_raw1 x) ⟨he, trivial⟩ rfl rfl
  · rw [if_neg h0]
    rw [decide_eq_false h0] at he
    generalize ng x = b at hb ⊢
    cases b
    · exact runA_pure mix (sign_raw3 x false) ⟨he, hb, rfl, trivial⟩ rfl rfl
    · exact runA_pure mix (sign_raw2 x true) ⟨he, hb, rfl, trivial⟩ rfl rfl

/-! ### As integers. -/
abbrev Hw : Nat := 57896044618658097711785492504343953926634992332820282019728792003956564819968
def nz (z : Int) : Nat := (z % (Mw : Int)).toNat
/-- A wide number of an integer, by its rest. -/
def wz (z : Int) : Value := wv (nz z)
/-- Does it fit? -/
def inR (z : Int) : Prop := -57896044618658097711785492504343953926634992332820282019728792003956564819968 ≤ z ∧ z < 57896044618658097711785492504343953926634992332820282019728792003956564819968
instance (z : Int) : Decidable (inR z) := inferInstanceAs (Decidable (_ ∧ _))
theorem nz_lt (z : Int) : nz z < Mw := by
  unfold nz
  simp only [Mw]
  omega
theorem nz_cast (z : Int) : ((nz z : Nat) : Int) = z % (Mw : Int) := by
  unfold nz
  exact Int.toNat_of_nonneg (Int.emod_nonneg _ (by decide))
theorem nz_of {z : Int} {x : Nat} (h : (x : Int) % (Mw : Int) = z % (Mw : Int)) : wv x = wz z := by
  unfold wz
  apply wv_mod
  have e : ((x % Mw : Nat) : Int) = ((nz z % Mw : Nat) : Int) := by
    rw [Int.natCast_emod, Int.natCast_emod, nz_cast, h, Int.emod_emod_of_dvd _ (Int.dvd_refl _)]
  exact Int.ofNat.inj e
theorem ng_z {z : Int} (h : inR z) : ng (nz z) = decide (z < 0) := by
  unfold ng inR at *
  rw [decide_eq_decide, Nat.mod_eq_of_lt (nz_lt z)]
  have e := nz_cast z
  generalize nz z = m at e ⊢
  simp only [Mw] at e
  omega
theorem ng_mz (z : Int) : ng (nz z) = decide (57896044618658097711785492504343953926634992332820282019728792003956564819968 ≤ z % (Mw : Int)) := by
  unfold ng
  rw [decide_eq_decide, Nat.mod_eq_of_lt (nz_lt z)]
  have e := nz_cast z
  rw [← e]
  omega
theorem add_wv (x y : Int) : wv (nz x + nz y) = wz (x + y) ∧ ng (nz x + nz y) = ng (nz (x + y)) := by
  have h : ((nz x + nz y : Nat) : Int) % (Mw : Int) = (x + y) % (Mw : Int) := by
    rw [Int.natCast_add, nz_cast, nz_cast, ← Int.add_emod]
  refine ⟨nz_of h, ng_mod ?_⟩
  have e : (((nz x + nz y) % Mw : Nat) : Int) = ((nz (x + y) % Mw : Nat) : Int) := by
    rw [Int.natCast_emod, Int.natCast_emod, h, nz_cast, Int.emod_emod_of_dvd _ (Int.dvd_refl _)]
  exact Int.ofNat.inj e
theorem dif_wv (x y : Int) : wv (dif (nz x) (nz y)) = wz (x - y) ∧ ng (dif (nz x) (nz y)) = ng (nz (x - y)) := by
  have h : ((dif (nz x) (nz y) : Nat) : Int) % (Mw : Int) = (x - y) % (Mw : Int) := by
    unfold dif
    have hy := nz_lt y
    rw [Nat.mod_eq_of_lt hy, Int.natCast_add, Int.natCast_sub (Nat.le_of_lt hy), nz_cast, nz_cast]
    rw [show x % (Mw : Int) + ((Mw : Int) - y % (Mw : Int)) = (x % (Mw : Int) - y % (Mw : Int)) + (Mw : Int) by omega, Int.add_emod_right, ← Int.sub_emod]
  refine ⟨nz_of h, ng_mod ?_⟩
  have e : ((dif (nz x) (nz y) % Mw : Nat) : Int) = ((nz (x - y) % Mw : Nat) : Int) := by
    rw [Int.natCast_emod, Int.natCast_emod, h, nz_cast, Int.emod_emod_of_dvd _ (Int.dvd_refl _)]
  exact Int.ofNat.inj e

theorem over_add {x y : Int} (hx : inR x) (hy : inR y) : addO (nz x) (nz y) = decide (¬ inR (x + y)) := by
  unfold addO
  rw [(add_wv x y).2, ng_z hx, ng_z hy, ng_mz (x + y)]
  unfold inR at *
  simp only [Mw]
  rw [Bool.eq_iff_iff]
  simp only [Bool.and_eq_true, Bool.not_eq_true', beq_iff_eq, beq_eq_false_iff_ne, ne_eq, decide_eq_decide, decide_eq_true_eq]
  omega
theorem over_sub {x y : Int} (hx : inR x) (hy : inR y) : subO (nz x) (nz y) = decide (¬ inR (x - y)) := by
  unfold subO
  rw [(dif_wv x y).2, ng_z hx, ng_z hy, ng_mz (x - y)]
  unfold inR at *
  simp only [Mw]
  rw [Bool.eq_iff_iff]
  simp only [Bool.and_eq_true, Bool.not_eq_true', beq_iff_eq, beq_eq_false_iff_ne, ne_eq, decide_eq_decide, decide_eq_true_eq]
  omega
theorem add_z {x y : Int} (hx : inR x) (hy : inR y) : PureX Tryz.prog 68 #[wz x, wz y] (rt (tp [wz (x + y), bb (decide (¬ inR (x + y)))])) := by
  have h := add_x (nz x) (nz y)
  rw [(add_wv x y).1, over_add hx hy] at h
  exact h
theorem sub_z {x y : Int} (hx : inR x) (hy : inR y) : PureX Tryz.prog 91 #[wz x, wz y] (rt (tp [wz (x - y), bb (decide (¬ inR (x - y)))])) := by
  have h := sub_x (nz x) (nz y)
  rw [(dif_wv x y).1, over_sub hx hy] at h
  exact h
theorem neg_z {x : Int} (hx : inR x) : PureX Tryz.prog 76 #[wz x] (rt (tp [wz (-x), bb (decide (¬ inR (-x)))])) := by
  have h := neg_x (nz x)
  have e0 : (0 : Nat) = nz 0 := rfl
  rw [e0, (dif_wv 0 x).1, over_sub (by decide) hx, show (0 : Int) - x = -x by omega] at h
  exact h
theorem sg_z {z : Int} (h : inR z) : sg (nz z) = z.sign := by
  unfold sg
  rw [ng_z h, Nat.mod_eq_of_lt (nz_lt z)]
  have e := nz_cast z
  have hz : nz z = 0 ↔ z = 0 := by
    generalize nz z = m at e ⊢
    unfold inR at h
    simp only [Mw] at e
    omega
  by_cases h0 : z = 0
  · rw [if_pos (hz.2 h0), h0]; rfl
  · rw [if_neg (fun c => h0 (hz.1 c))]
    by_cases h1 : z < 0
    · rw [if_pos (by simpa using h1), Int.sign_eq_neg_one_of_neg h1]
    · rw [if_neg (by simpa using h1), Int.sign_eq_one_of_pos (by omega)]
theorem sign_z {z : Int} (h : inR z) : PureX Tryz.prog 77 #[wz z] (rt (.int .i64 z.sign)) := by
  have := sign_x (nz z)
  rw [sg_z h] at this
  exact this

end Go.Proofs.YtcmfgabhgodlaaaGreatDoor

/- The product of two wide numbers. -/
namespace Go.Proofs.YtcmfgabhgodlaaaGreatDoor
open Go Go.RowKit Go.Shelf Go.Lib
set_option linter.unusedSimpArgs false
set_option linter.unusedVariables false

attribute [local go_sem] Oper.semAt_some

theorem maskN (a : Nat) (ha : a < 18446744073709551616) : bits .and .u64 (a : Int) 4294967295 = ((a % 4294967296 : Nat) : Int) := by
  have h := bits_and_u64_nat a 4294967295 ha (by omega)
  have e : a &&& 4294967295 = a % 4294967296 := Nat.and_two_pow_sub_one_eq_mod a 32
  rw [e] at h
  exact h
theorem divN (a : Nat) : (a : Int) / 4294967296 = ((a / 4294967296 : Nat) : Int) := by omega
theorem mulN (a b : Nat) : (a : Int) * (b : Int) = ((a * b : Nat) : Int) := (Int.natCast_mul a b).symm
theorem addN (a b : Nat) : (a : Int) + (b : Int) = ((a + b : Nat) : Int) := (Int.natCast_add a b).symm
theorem wrapN (a : Nat) (ha : a < 18446744073709551616) : IntKind.u64.wrap (a : Int) = (a : Int) := by rw [IntKind.wrap_u64]; omega
theorem wrapM (a : Nat) : IntKind.u64.wrap (a : Int) = ((a % 18446744073709551616 : Nat) : Int) := by rw [IntKind.wrap_u64]; omega

set_option maxHeartbeats 1000000 in
theorem mul64_x (x y : Nat) (hx : x < 18446744073709551616) (hy : y < 18446744073709551616) (w : World) :
    Calls Tryz.prog 105 #[.int .u64 x, .int .u64 y] w fun e w' => e = .returned (.tuple #[.int .u64 ((x * y / 18446744073709551616 : Nat) : Int), .int .u64 ((x * y % 18446744073709551616 : Nat) : Int)]) ∧ w = w' := by
  obtain ⟨bd, bt, bw, hhi⟩ := Lib.mul64_hi x y hx hy
  have ba := Lib.half_mul_le (a := x / 4294967296) (b := y / 4294967296) (by omega) (by omega)
  have bb := Lib.half_mul_le (a := x / 4294967296) (b := y % 4294967296) (by omega) (by omega)
  have bc := Lib.half_mul_le (a := x % 4294967296) (b := y / 4294967296) (by omega) (by omega)
  have ba' : x / 4294967296 * (y / 4294967296) < 18446744073709551616 := by omega
  have bb' : x / 4294967296 * (y % 4294967296) < 18446744073709551616 := by omega
  have bc' : x % 4294967296 * (y / 4294967296) < 18446744073709551616 := by omega
  have bh1 : x / 4294967296 * (y / 4294967296) + (x / 4294967296 * (y % 4294967296) + x % 4294967296 * (y % 4294967296) / 4294967296) / 4294967296 < 18446744073709551616 := by omega
  have bh : x / 4294967296 * (y / 4294967296) + (x / 4294967296 * (y % 4294967296) + x % 4294967296 * (y % 4294967296) / 4294967296) / 4294967296 + ((x / 4294967296 * (y % 4294967296) + x % 4294967296 * (y % 4294967296) / 4294967296) % 4294967296 + x % 4294967296 * (y / 4294967296)) / 4294967296 < 18446744073709551616 := by omega
  go_enter Tryz.func105, Tryz.ntmps105
  go_wp2
  simp only [maskN x hx, maskN y hy, divN, mulN, addN, wrapN _ bd, wrapN _ bb', wrapN _ bt, maskN _ bt, wrapN _ bc', wrapN _ bw, wrapN _ ba', wrapN _ bh1, wrapN _ bh, wrapM (x * y)]
  rw [hhi]
  go_ret2
  exact ⟨rfl, rfl⟩

theorem sq_le {x y : Nat} (hx : x < 18446744073709551616) (hy : y < 18446744073709551616) : x * y ≤ 340282366920938463426481119284349108225 := Nat.mul_le_mul (Nat.le_of_lt_succ hx) (Nat.le_of_lt_succ hy)

theorem mul64_c {x y : Nat} (hx : x < 18446744073709551616) (hy : y < 18446744073709551616) : PureX Tryz.prog 105 #[u x, u y] (rt (tp [u (x * y / 18446744073709551616), u (x * y % 18446744073709551616)])) := by
  intro w _
  refine (mul64_x x y hx hy w).mono ?_
  rintro e w' ⟨rfl, rfl⟩
  exact ⟨rfl, Below.refl _ _⟩

theorem wordp_raw (v w more carry lo hi : Nat) : runA Tryz.prog 93 #[u v, u w, u more, u carry] [] [(105, rt (tp [u hi, u lo]))] =
    some (rt (tp [u (((lo + more + 0) % 18446744073709551616 + carry + 0) % 18446744073709551616), .int .u64 (IntKind.u64.wrap (IntKind.u64.wrap (Int.ofNat hi + Int.ofNat ((lo + more + 0) / 18446744073709551616)) + Int.ofNat (((lo + more + 0) % 18446744073709551616 + carry + 0) / 18446744073709551616)))]), [PureX Tryz.prog 105 #[u v, u w] (rt (tp [u hi, u lo]))]) := by kernel_rfl
theorem wordp_c {v w m c : Nat} (hv : v < 18446744073709551616) (hw : w < 18446744073709551616) (hm : m < 18446744073709551616) (hc : c < 18446744073709551616) :
    ∃ l h, l < 18446744073709551616 ∧ h < 18446744073709551616 ∧ l + 18446744073709551616 * h = v * w + m + c ∧ PureX Tryz.prog 93 #[u v, u w, u m, u c] (rt (tp [u l, u h])) := by
  have hr := runA_pure mix (wordp_raw v w m c (v * w % 18446744073709551616) (v * w / 18446744073709551616)) ⟨mul64_c hv hw, trivial⟩ rfl rfl
  have hp := sq_le hv hw
  generalize v * w = p at hr hp ⊢
  refine ⟨(p + m + c) % 18446744073709551616, (p + m + c) / 18446744073709551616, by omega, by omega, by omega, ?_⟩
  have e1 : ((p % 18446744073709551616 + m + 0) % 18446744073709551616 + c + 0) % 18446744073709551616 = (p + m + c) % 18446744073709551616 := by omega
  have e2 : IntKind.u64.wrap (IntKind.u64.wrap (Int.ofNat (p / 18446744073709551616) + Int.ofNat ((p % 18446744073709551616 + m + 0) / 18446744073709551616)) + Int.ofNat (((p % 18446744073709551616 + m + 0) % 18446744073709551616 + c + 0) / 18446744073709551616)) = Int.ofNat ((p + m + c) / 18446744073709551616) := by
    rw [IntKind.wrap_u64, IntKind.wrap_u64]
    simp only [Int.ofNat_eq_natCast]
    omega
  rw [e1, e2] at hr
  exact hr

theorem product_raw (a0 a1 a2 a3 b0 b1 b2 b3 l0 h0 l1 h1 l2 h2 l3 h3 l4 h4 l5 h5 l6 h6 l7 h7 l8 h8 l9 h9 l10 h10 l11 h11 l12 h12 l13 h13 l14 h14 l15 h15 : Nat) : runA Tryz.prog 73 #[W4 a0 a1 a2 a3, W4 b0 b1 b2 b3] [] [(93, rt (tp [u l0, u h0])), (93, rt (tp [u l1, u h1])), (93, rt (tp [u l2, u h2])), (93, rt (tp [u l3, u h3])), (93, rt (tp [u l4, u h4])), (93, rt (tp [u l5, u h5])), (93, rt (tp [u l6, u h6])), (93, rt (tp [u l7, u h7])), (93, rt (tp [u l8, u h8])), (93, rt (tp [u l9, u h9])), (93, rt (tp [u l10, u h10])), (93, rt (tp [u l11, u h11])), (93, rt (tp [u l12, u h12])), (93, rt (tp [u l13, u h13])), (93, rt (tp [u l14, u h14])), (93, rt (tp [u l15, u h15]))] =
    some (rt (tp [W4 l0 l4 l8 l12, W4 l13 l14 l15 h15]), [PureX Tryz.prog 93 #[u a0, u b0, u 0, u 0] (rt (tp [u l0, u h0])), PureX Tryz.prog 93 #[u a0, u b1, u 0, u h0] (rt (tp [u l1, u h1])), PureX Tryz.prog 93 #[u a0, u b2, u 0, u h1] (rt (tp [u l2, u h2])), PureX Tryz.prog 93 #[u a0, u b3, u 0, u h2] (rt (tp [u l3, u h3])), PureX Tryz.prog 93 #[u a1, u b0, u l1, u 0] (rt (tp [u l4, u h4])), PureX Tryz.prog 93 #[u a1, u b1, u l2, u h4] (rt (tp [u l5, u h5])), PureX Tryz.prog 93 #[u a1, u b2, u l3, u h5] (rt (tp [u l6, u h6])), PureX Tryz.prog 93 #[u a1, u b3, u h3, u h6] (rt (tp [u l7, u h7])), PureX Tryz.prog 93 #[u a2, u b0, u l5, u 0] (rt (tp [u l8, u h8])), PureX Tryz.prog 93 #[u a2, u b1, u l6, u h8] (rt (tp [u l9, u h9])), PureX Tryz.prog 93 #[u a2, u b2, u l7, u h9] (rt (tp [u l10, u h10])), PureX Tryz.prog 93 #[u a2, u b3, u h7, u h10] (rt (tp [u l11, u h11])), PureX Tryz.prog 93 #[u a3, u b0, u l9, u 0] (rt (tp [u l12, u h12])), PureX Tryz.prog 93 #[u a3, u b1, u l10, u h12] (rt (tp [u l13, u h13])), PureX Tryz.prog 93 #[u a3, u b2, u l11, u h13] (rt (tp [u l14, u h14])), PureX Tryz.prog 93 #[u a3, u b3, u h11, u h14] (rt (tp [u l15, u h15]))]) := by kernel_rfl

theorem row_sum {x0 x1 x2 x3 l0 l1 l2 l3 h0 h1 h2 h3 p0 p1 p2 p3 : Nat}
    (e0 : l0 + 18446744073709551616 * h0 = p0 + x0 + 0) (e1 : l1 + 18446744073709551616 * h1 = p1 + x1 + h0) (e2 : l2 + 18446744073709551616 * h2 = p2 + x2 + h1) (e3 : l3 + 18446744073709551616 * h3 = p3 + x3 + h2) :
    l0 + l1 * 18446744073709551616 + l2 * (18446744073709551616 * 18446744073709551616) + l3 * (18446744073709551616 * 18446744073709551616 * 18446744073709551616) + h3 * (18446744073709551616 * 18446744073709551616 * 18446744073709551616 * 18446744073709551616) =
    x0 + x1 * 18446744073709551616 + x2 * (18446744073709551616 * 18446744073709551616) + x3 * (18446744073709551616 * 18446744073709551616 * 18446744073709551616) + (p0 + p1 * 18446744073709551616 + p2 * (18446744073709551616 * 18446744073709551616) + p3 * (18446744073709551616 * 18446744073709551616 * 18446744073709551616)) := by
  omega
theorem four_rows (K q0 q1 q2 q3 c0 t0 t1 t2 t3 c1 v0 v1 v2 v3 c2 w0 w1 w2 w3 c3 y0 y1 y2 y3 : Nat)
    (s0 : q0 + q1 * K + q2 * (K * K) + q3 * (K * K * K) + c0 * (K * K * K * K) = y0)
    (s1 : t0 + t1 * K + t2 * (K * K) + t3 * (K * K * K) + c1 * (K * K * K * K) = q1 + q2 * K + q3 * (K * K) + c0 * (K * K * K) + y1)
    (s2 : v0 + v1 * K + v2 * (K * K) + v3 * (K * K * K) + c2 * (K * K * K * K) = t1 + t2 * K + t3 * (K * K) + c1 * (K * K * K) + y2)
    (s3 : w0 + w1 * K + w2 * (K * K) + w3 * (K * K * K) + c3 * (K * K * K * K) = v1 + v2 * K + v3 * (K * K) + c2 * (K * K * K) + y3) :
    q0 + t0 * K + v0 * (K * K) + w0 * (K * K * K) + (w1 + w2 * K + w3 * (K * K) + c3 * (K * K * K)) * (K * K * K * K) = y0 + y1 * K + y2 * (K * K) + y3 * (K * K * K) := by
  have e1 := congrArg (· * K) s1
  have e2 := congrArg (· * (K * K)) s2
  have e3 := congrArg (· * (K * K * K)) s3
  subst s0
  clear s1 s2 s3
  simp only [Nat.add_mul, Nat.mul_add, Nat.mul_assoc, Nat.mul_comm, Nat.mul_left_comm] at e1 e2 e3 ⊢
  omega

theorem product_c {a0 a1 a2 a3 b0 b1 b2 b3 : Nat} (ha0 : a0 < 18446744073709551616) (ha1 : a1 < 18446744073709551616) (ha2 : a2 < 18446744073709551616) (ha3 : a3 < 18446744073709551616) (hb0 : b0 < 18446744073709551616) (hb1 : b1 < 18446744073709551616) (hb2 : b2 < 18446744073709551616) (hb3 : b3 < 18446744073709551616) :
    PureX Tryz.prog 73 #[W4 a0 a1 a2 a3, W4 b0 b1 b2 b3] (rt (tp [wv (vl a0 a1 a2 a3 * vl b0 b1 b2 b3), wv (vl a0 a1 a2 a3 * vl b0 b1 b2 b3 / Mw)])) := by
  have z : (0 : Nat) < 18446744073709551616 := by decide
  obtain ⟨l0, h0, Hl0, Hh0, e0, q0⟩ := wordp_c ha0 hb0 z z
  obtain ⟨l1, h1, Hl1, Hh1, e1, q1⟩ := wordp_c ha0 hb1 z Hh0
  obtain ⟨l2, h2, Hl2, Hh2, e2, q2⟩ := wordp_c ha0 hb2 z Hh1
  obtain ⟨l3, h3, Hl3, Hh3, e3, q3⟩ := wordp_c ha0 hb3 z Hh2
  obtain ⟨l4, h4, Hl4, Hh4, e4, q4⟩ := wordp_c ha1 hb0 Hl1 z
  obtain ⟨l5, h5, Hl5, Hh5, e5, q5⟩ := wordp_c ha1 hb1 Hl2 Hh4
  obtain ⟨l6, h6, Hl6, Hh6, e6, q6⟩ := wordp_c ha1 hb2 Hl3 Hh5
  obtain ⟨l7, h7, Hl7, Hh7, e7, q7⟩ := wordp_c ha1 hb3 Hh3 Hh6
  obtain ⟨l8, h8, Hl8, Hh8, e8, q8⟩ := wordp_c ha2 hb0 Hl5 z
  obtain ⟨l9, h9, Hl9, Hh9, e9, q9⟩ := wordp_c ha2 hb1 Hl6 Hh8
  obtain ⟨l10, h10, Hl10, Hh10, e10, q10⟩ := wordp_c ha2 hb2 Hl7 Hh9
  obtain ⟨l11, h11, Hl11, Hh11, e11, q11⟩ := wordp_c ha2 hb3 Hh7 Hh10
  obtain ⟨l12, h12, Hl12, Hh12, e12, q12⟩ := wordp_c ha3 hb0 Hl9 z
  obtain ⟨l13, h13, Hl13, Hh13, e13, q13⟩ := wordp_c ha3 hb1 Hl10 Hh12
  obtain ⟨l14, h14, Hl14, Hh14, e14, q14⟩ := wordp_c ha3 hb2 Hl11 Hh13
  obtain ⟨l15, h15, Hl15, Hh15, e15, q15⟩ := wordp_c ha3 hb3 Hh11 Hh14
  have hr := runA_pure mix (product_raw a0 a1 a2 a3 b0 b1 b2 b3 l0 h0 l1 h1 l2 h2 l3 h3 l4 h4 l5 h5 l6 h6 l7 h7 l8 h8 l9 h9 l10 h10 l11 h11 l12 h12 l13 h13 l14 h14 l15 h15) ⟨q0, q1, q2, q3, q4, q5, q6, q7, q8, q9, q10, q11, q12, q13, q14, q15, trivial⟩ rfl rfl
  clear q0 q1 q2 q3 q4 q5 q6 q7 q8 q9 q10 q11 q12 q13 q14 q15
  have s0 := row_sum (x0 := 0) (x1 := 0) (x2 := 0) (x3 := 0) (p0 := a0 * b0) (p1 := a0 * b1) (p2 := a0 * b2) (p3 := a0 * b3) e0 e1 e2 e3
  have s1 := row_sum (x0 := l1) (x1 := l2) (x2 := l3) (x3 := h3) (p0 := a1 * b0) (p1 := a1 * b1) (p2 := a1 * b2) (p3 := a1 * b3) e4 e5 e6 e7
  have s2 := row_sum (x0 := l5) (x1 := l6) (x2 := l7) (x3 := h7) (p0 := a2 * b0) (p1 := a2 * b1) (p2 := a2 * b2) (p3 := a2 * b3) e8 e9 e10 e11
  have s3 := row_sum (x0 := l9) (x1 := l10) (x2 := l11) (x3 := h11) (p0 := a3 * b0) (p1 := a3 * b1) (p2 := a3 * b2) (p3 := a3 * b3) e12 e13 e14 e15
  clear e0 e1 e2 e3 e4 e5 e6 e7 e8 e9 e10 e11 e12 e13 e14 e15
  simp only [Nat.zero_mul, Nat.zero_add] at s0
  have key := four_rows 18446744073709551616 l0 l1 l2 l3 h3 l4 l5 l6 l7 h7 l8 l9 l10 l11 h11 l12 l13 l14 l15 h15 _ _ _ _ s0 s1 s2 s3
  have hv : vl a0 a1 a2 a3 * vl b0 b1 b2 b3 = vl l0 l4 l8 l12 + Mw * vl l13 l14 l15 h15 := by
    clear s0 s1 s2 s3 hr
    have e1 : vl l0 l4 l8 l12 + Mw * vl l13 l14 l15 h15 = l0 + l4 * 18446744073709551616 + l8 * (18446744073709551616 * 18446744073709551616) + l12 * (18446744073709551616 * 18446744073709551616 * 18446744073709551616) + (l13 + l14 * 18446744073709551616 + l15 * (18446744073709551616 * 18446744073709551616) + h15 * (18446744073709551616 * 18446744073709551616 * 18446744073709551616)) * (18446744073709551616 * 18446744073709551616 * 18446744073709551616 * 18446744073709551616) := by
      unfold vl
      simp only [Mw]
      omega
    rw [e1, key]
    unfold vl
    simp only [Nat.mul_add, Nat.add_mul, Nat.mul_assoc, Nat.mul_comm, Nat.mul_left_comm]
    omega
  rw [hv, Nat.mul_comm Mw, Nat.add_mul_div_right _ _ (by decide), Nat.div_eq_of_lt (vl_lt Hl0 Hl4 Hl8 Hl12), Nat.zero_add, wv_vl Hl13 Hl14 Hl15 Hh15]
  rw [wv_mod (x := vl l0 l4 l8 l12 + vl l13 l14 l15 h15 * Mw) (y := vl l0 l4 l8 l12) (by rw [Nat.add_mul_mod_self_right]), wv_vl Hl0 Hl4 Hl8 Hl12]
  exact hr
theorem product_x (x y : Nat) : PureX Tryz.prog 73 #[wv x, wv y] (rt (tp [wv (x % Mw * (y % Mw)), wv (x % Mw * (y % Mw) / Mw)])) := by
  obtain ⟨a0, a1, a2, a3, ha0, ha1, ha2, ha3, ea, ea2, _⟩ := vl_wv x
  obtain ⟨b0, b1, b2, b3, hb0, hb1, hb2, hb3, eb, eb2, _⟩ := vl_wv y
  rw [ea2, eb2, ← ea, ← eb]
  exact product_c ha0 ha1 ha2 ha3 hb0 hb1 hb2 hb3

end Go.Proofs.YtcmfgabhgodlaaaGreatDoor

/- Mul of wide numbers. -/
namespace Go.Proofs.YtcmfgabhgodlaaaGreatDoor
open Go Go.RowKit
set_option linter.unusedSimpArgs false
set_option linter.unusedVariables false

theorem mul_raw1 (x y sx sy lo hi : Nat) (p q r : Bool) : runA Tryz.prog 54 #[wv x, wv y] [t, f, n] [(74, rt (wv sx)), (74, rt (wv sy)), (73, rt (tp [wv lo, wv hi])), (75, rt (bb (p))), (75, rt (bb (q))), (75, rt (bb (r)))] =
    some (rt (tp [wv lo, bb (r)]), [PureX Tryz.prog 74 #[wv x] (rt (wv sx)), PureX Tryz.prog 74 #[wv y] (rt (wv sy)), PureX Tryz.prog 73 #[wv sx, wv sy] (rt (tp [wv lo, wv hi])), PureX Tryz.prog 75 #[wv x] (rt (bb (p))), PureX Tryz.prog 75 #[wv y] (rt (bb (q))), (p == q) = true, (!(eqv hi 0)) = false, PureX Tryz.prog 75 #[wv lo] (rt (bb (r)))]) := by kernel_rfl
theorem mul_raw2 (x y sx sy lo hi : Nat) (p q : Bool) : runA Tryz.prog 54 #[wv x, wv y] [t, t, n] [(74, rt (wv sx)), (74, rt (wv sy)), (73, rt (tp [wv lo, wv hi])), (75, rt (bb (p))), (75, rt (bb (q)))] =
    some (rt (tp [wv lo, bb (true)]), [PureX Tryz.prog 74 #[wv x] (rt (wv sx)), PureX Tryz.prog 74 #[wv y] (rt (wv sy)), PureX Tryz.prog 73 #[wv sx, wv sy] (rt (tp [wv lo, wv hi])), PureX Tryz.prog 75 #[wv x] (rt (bb (p))), PureX Tryz.prog 75 #[wv y] (rt (bb (q))), (p == q) = true, (!(eqv hi 0)) = true]) := by kernel_rfl
theorem mul_raw3 (x y sx sy lo hi nn : Nat) (p q r : Bool) (s : Int) : runA Tryz.prog 54 #[wv x, wv y] [f, f, n, n] [(74, rt (wv sx)), (74, rt (wv sy)), (73, rt (tp [wv lo, wv hi])), (75, rt (bb (p))), (75, rt (bb (q))), (76, rt (tp [wv nn, bb (r)])), (77, rt (.int .i64 (s)))] =
    some (rt (tp [wv nn, bb (decide (0 < s))]), [PureX Tryz.prog 74 #[wv x] (rt (wv sx)), PureX Tryz.prog 74 #[wv y] (rt (wv sy)), PureX Tryz.prog 73 #[wv sx, wv sy] (rt (tp [wv lo, wv hi])), PureX Tryz.prog 75 #[wv x] (rt (bb (p))), PureX Tryz.prog 75 #[wv y] (rt (bb (q))), (p == q) = false, PureX Tryz.prog 76 #[wv lo] (rt (tp [wv nn, bb (r)])), (!(eqv hi 0)) = false, PureX Tryz.prog 77 #[wv nn] (rt (.int .i64 (s)))]) := by kernel_rfl
theorem mul_raw4 (x y sx sy lo hi nn : Nat) (p q r : Bool) : runA Tryz.prog 54 #[wv x, wv y] [f, t, n, n] [(74, rt (wv sx)), (74, rt (wv sy)), (73, rt (tp [wv lo, wv hi])), (75, rt (bb (p))), (75, rt (bb (q))), (76, rt (tp [wv nn, bb (r)]))] =
    some (rt (tp [wv nn, bb (true)]), [PureX Tryz.prog 74 #[wv x] (rt (wv sx)), PureX Tryz.prog 74 #[wv y] (rt (wv sy)), PureX Tryz.prog 73 #[wv sx, wv sy] (rt (tp [wv lo, wv hi])), PureX Tryz.prog 75 #[wv x] (rt (bb (p))), PureX Tryz.prog 75 #[wv y] (rt (bb (q))), (p == q) = false, PureX Tryz.prog 76 #[wv lo] (rt (tp [wv nn, bb (r)])), (!(eqv hi 0)) = true]) := by kernel_rfl

theorem siz_z {z : Int} (h : inR z) : siz (nz z) % Mw = z.natAbs := by
  unfold siz
  rw [ng_z h]
  have e := nz_cast z
  have hl := nz_lt z
  unfold inR at h
  by_cases h0 : z < 0
  · rw [if_pos (by simpa using h0)]
    unfold dif
    rw [Nat.mod_eq_of_lt hl]
    generalize nz z = m at e hl ⊢
    simp only [Mw] at e hl ⊢
    omega
  · rw [if_neg (by simpa using h0), Nat.mod_eq_of_lt hl]
    generalize nz z = m at e hl ⊢
    simp only [Mw] at e hl
    omega
theorem abs_le {z : Int} (h : inR z) : z.natAbs ≤ Hw := by
  unfold inR at h
  simp only [Hw]
  omega
theorem mul_case {x y : Int} {P : Nat} (hP : P = x.natAbs * y.natAbs) : (decide (x < 0) = decide (y < 0) → x * y = (P : Int)) ∧ (¬ decide (x < 0) = decide (y < 0) → x * y = -(P : Int)) := by
  have hc : (P : Int) = (x.natAbs : Int) * (y.natAbs : Int) := by rw [hP, Int.natCast_mul]
  rw [hc, decide_eq_decide]
  by_cases hx : x < 0 <;> by_cases hy : y < 0
  · rw [show (x.natAbs : Int) = -x by omega, show (y.natAbs : Int) = -y by omega]
    exact ⟨fun _ => (Int.neg_mul_neg x y).symm, fun c => absurd (by simp [hx, hy]) c⟩
  · rw [show (x.natAbs : Int) = -x by omega, show (y.natAbs : Int) = y by omega]
    exact ⟨fun c => absurd (c.1 hx) hy, fun _ => by rw [Int.neg_mul, Int.neg_neg]⟩
  · rw [show (x.natAbs : Int) = x by omega, show (y.natAbs : Int) = -y by omega]
    exact ⟨fun c => absurd (c.2 hy) hx, fun _ => by rw [Int.mul_neg, Int.neg_neg]⟩
  · rw [show (x.natAbs : Int) = x by omega, show (y.natAbs : Int) = y by omega]
    exact ⟨fun _ => rfl, fun c => absurd (by simp [hx, hy]) c⟩
theorem wz_nat (P : Nat) : wv P = wz (P : Int) := nz_of rfl
theorem dif_neg (P : Nat) : wv (dif 0 P) = wz (-(P : Int)) ∧ sg (dif 0 P) = (if P % Mw = 0 then 0 else if P % Mw ≤ Hw then -1 else 1) := by
  have hl : P % Mw < Mw := Nat.mod_lt _ (by decide)
  constructor
  · apply nz_of
    unfold dif
    rw [Nat.zero_add, Int.natCast_sub (Nat.le_of_lt hl), Int.natCast_emod]
    have h0 : (0 : Int) % (Mw : Int) = 0 := rfl
    rw [show (Mw : Int) - (P : Int) % (Mw : Int) = ((0 : Int) % (Mw : Int) - (P : Int) % (Mw : Int)) + (Mw : Int) by rw [h0]; omega, Int.add_emod_right, ← Int.sub_emod, Int.zero_sub]
  · unfold sg ng dif
    rw [Nat.zero_add]
    generalize P % Mw = m at hl ⊢
    by_cases h0 : m = 0
    · subst h0
      simp
    · have h1 : (Mw - m) % Mw = Mw - m := Nat.mod_eq_of_lt (by omega)
      rw [h1, if_neg (by omega), if_neg h0]
      simp only [Mw, Hw, decide_eq_true_eq] at hl ⊢
      by_cases h2 : m ≤ 57896044618658097711785492504343953926634992332820282019728792003956564819968
      · rw [if_pos (by omega), if_pos h2]
      · rw [if_neg (by omega), if_neg h2]
theorem mul_z {x y : Int} (hx : inR x) (hy : inR y) : PureX Tryz.prog 54 #[wz x, wz y] (rt (tp [wz (x * y), bb (decide (¬ inR (x * y)))])) := by
  obtain ⟨P, hP⟩ : ∃ P, P = x.natAbs * y.natAbs := ⟨_, rfl⟩
  have hc := mul_case hP
  have hle : P ≤ Hw * Hw := by rw [hP]; exact Nat.mul_le_mul (abs_le hx) (abs_le hy)
  have hd : P / Mw % Mw = P / Mw := Nat.mod_eq_of_lt (Nat.div_lt_of_lt_mul (Nat.lt_of_le_of_lt hle (by decide)))
  have hp := product_x (siz (nz x)) (siz (nz y))
  rw [siz_z hx, siz_z hy, ← hP] at hp
  have h1 := size_x (nz x)
  have h2 := size_x (nz y)
  have b1 := below_x (nz x)
  have b2 := below_x (nz y)
  have he := eqv_dec (P / Mw) 0
  rw [hd, Nat.zero_mod] at he
  have b3 := below_x P
  have n3 := neg_x P
  obtain ⟨w3, s3⟩ := dif_neg P
  have g3 := sign_x (dif 0 P)
  rw [s3] at g3
  rw [w3] at n3 g3
  rw [ng_z hx] at b1
  rw [ng_z hy] at b2
  generalize hA : decide (x < 0) = A at b1 hc
  generalize hB : decide (y < 0) = B at b2 hc
  generalize siz (nz x) = sx at h1 hp
  generalize siz (nz y) = sy at h2 hp
  generalize hE : eqv (P / Mw) 0 = E at he
  have hbig : P / Mw = 0 ↔ P < Mw := Nat.div_eq_zero_iff_lt (by decide)
  have hmod : P < Mw → P % Mw = P := Nat.mod_eq_of_lt
  clear hle hd hA hB hP hx hy s3
  by_cases hAB : A = B
  · have hv := hc.1 hAB
    rw [hv, ← wz_nat]
    have hq : (A == B) = true := by rw [hAB]; exact beq_self_eq_true B
    cases E
    · have hnot : ¬ P / Mw = 0 := by simpa using he
      have : decide (¬ inR (P : Int)) = true := by
        rw [decide_eq_true_eq]
        unfold inR
        simp only [Mw] at hbig hnot
        omega
      rw [this]
      exact runA_pure mix (mul_raw2 (nz x) (nz y) sx sy P (P / Mw) A B) ⟨h1, h2, hp, b1, b2, hq, by rw [hE]; rfl, trivial⟩ rfl rfl
    · have hz : P / Mw = 0 := by simpa using he
      have hlt := hbig.1 hz
      have : decide (¬ inR (P : Int)) = ng P := by
        unfold ng
        rw [hmod hlt, decide_eq_decide]
        unfold inR
        simp only [Mw] at hlt
        omega
      rw [this]
      exact runA_pure mix (mul_raw1 (nz x) (nz y) sx sy P (P / Mw) A B (ng P)) ⟨h1, h2, hp, b1, b2, hq, by rw [hE]; rfl, b3, trivial⟩ rfl rfl
  · have hv := hc.2 hAB
    rw [hv]
    have hq : (A == B) = false := by simpa using hAB
    have hn : wz (-(P : Int)) = wv (nz (-(P : Int))) := rfl
    cases E
    · have hnot : ¬ P / Mw = 0 := by simpa using he
      have : decide (¬ inR (-(P : Int))) = true := by
        rw [decide_eq_true_eq]
        unfold inR
        simp only [Mw] at hbig hnot
        omega
      rw [this]
      exact runA_pure mix (mul_raw4 (nz x) (nz y) sx sy P (P / Mw) (nz (-(P : Int))) A B (subO 0 P)) ⟨h1, h2, hp, b1, b2, hq, n3, by rw [hE]; rfl, trivial⟩ rfl rfl
    · have hz : P / Mw = 0 := by simpa using he
      have hlt := hbig.1 hz
      rw [hmod hlt] at g3
      have : decide (¬ inR (-(P : Int))) = decide ((0 : Int) < (if P = 0 then 0 else if P ≤ Hw then -1 else 1)) := by
        rw [decide_eq_decide]
        unfold inR
        simp only [Mw] at hlt
        simp only [Hw]
        split
        · omega
        · split <;> omega
      rw [this]
      exact runA_pure mix (mul_raw3 (nz x) (nz y) sx sy P (P / Mw) (nz (-(P : Int))) A B (subO 0 P) _) ⟨h1, h2, hp, b1, b2, hq, n3, by rw [hE]; rfl, g3, trivial⟩ rfl rfl

end Go.Proofs.YtcmfgabhgodlaaaGreatDoor

/- The document's own digits, sums and differences. -/
namespace Go.Proofs.YtcmfgabhgodlaaaGreatDoor
open Go Go.RowKit
set_option linter.unusedSimpArgs false
set_option linter.unusedVariables false

def D8 (a b c d e f g h : Nat) : Value := .agg #[u a, u b, u c, u d, u e, u f, u g, u h]
/-- Eight digits' number. -/
def e8 (a b c d e f g h : Nat) : Nat := a + 4294967296 * (b + 4294967296 * (c + 4294967296 * (d + 4294967296 * (e + 4294967296 * (f + 4294967296 * (g + 4294967296 * h))))))
def pd (x y c : Nat) : Nat := ((x + y) % 18446744073709551616 + c) % 18446744073709551616 % 4294967296
def pc (x y c : Nat) : Nat := ((x + y) % 18446744073709551616 + c) % 18446744073709551616 / 4294967296 % 18446744073709551616
theorem pd_spec {x y c : Nat} (hx : x < 4294967296) (hy : y < 4294967296) (hc : c ≤ 1) : pd x y c < 4294967296 ∧ pc x y c ≤ 1 ∧ pd x y c + 4294967296 * pc x y c = x + y + c := by
  unfold pd pc
  omega
theorem digits_raw (a0 a1 a2 a3 : Nat) : runA Tryz.prog 62 #[W4 a0 a1 a2 a3] [] [] =
    some (rt (.agg ⟨[u (a0 % 4294967296), .int .u64 (IntKind.u64.wrap (Int.ofNat (a0 / 4294967296))), u (a1 % 4294967296), .int .u64 (IntKind.u64.wrap (Int.ofNat (a1 / 4294967296))), u (a2 % 4294967296), .int .u64 (IntKind.u64.wrap (Int.ofNat (a2 / 4294967296))), u (a3 % 4294967296), .int .u64 (IntKind.u64.wrap (Int.ofNat (a3 / 4294967296)))]⟩), []) := by kernel_rfl
theorem not_raw (d0 d1 d2 d3 d4 d5 d6 d7 : Nat) : runA Tryz.prog 78 #[D8 d0 d1 d2 d3 d4 d5 d6 d7] [] [] =
    some (rt (.agg ⟨[.int .u64 (IntKind.u64.wrap (4294967295 - Int.ofNat d0)), .int .u64 (IntKind.u64.wrap (4294967295 - Int.ofNat d1)), .int .u64 (IntKind.u64.wrap (4294967295 - Int.ofNat d2)), .int .u64 (IntKind.u64.wrap (4294967295 - Int.ofNat d3)), .int .u64 (IntKind.u64.wrap (4294967295 - Int.ofNat d4)), .int .u64 (IntKind.u64.wrap (4294967295 - Int.ofNat d5)), .int .u64 (IntKind.u64.wrap (4294967295 - Int.ofNat d6)), .int .u64 (IntKind.u64.wrap (4294967295 - Int.ofNat d7))]⟩), []) := by kernel_rfl
theorem wide_raw (d0 d1 d2 d3 d4 d5 d6 d7 : Nat) : runA Tryz.prog 57 #[D8 d0 d1 d2 d3 d4 d5 d6 d7] [] [] =
    some (rt (.agg ⟨[.int .u64 (IntKind.u64.wrap (IntKind.u64.wrap (Int.ofNat d1 * 4294967296) + Int.ofNat d0)), .int .u64 (IntKind.u64.wrap (IntKind.u64.wrap (Int.ofNat d3 * 4294967296) + Int.ofNat d2)), .int .u64 (IntKind.u64.wrap (IntKind.u64.wrap (Int.ofNat d5 * 4294967296) + Int.ofNat d4)), .int .u64 (IntKind.u64.wrap (IntKind.u64.wrap (Int.ofNat d7 * 4294967296) + Int.ofNat d6))]⟩), []) := by kernel_rfl
theorem low_raw (a0 a1 a2 a3 : Nat) : runA Tryz.prog 47 #[W4 a0 a1 a2 a3] [] [] =
    some (rt (bb ((Int.ofNat a3).fdiv (2 ^ Int.toNat 63) == 1)), []) := by kernel_rfl
theorem plus_raw (d0 d1 d2 d3 d4 d5 d6 d7 e0 e1 e2 e3 e4 e5 e6 e7 c : Nat) : runA Tryz.prog 61 #[D8 d0 d1 d2 d3 d4 d5 d6 d7, D8 e0 e1 e2 e3 e4 e5 e6 e7, u c] [] [] =
    some (rt (D8 (pd d0 e0 c) (pd d1 e1 (pc d0 e0 c)) (pd d2 e2 (pc d1 e1 (pc d0 e0 c))) (pd d3 e3 (pc d2 e2 (pc d1 e1 (pc d0 e0 c)))) (pd d4 e4 (pc d3 e3 (pc d2 e2 (pc d1 e1 (pc d0 e0 c))))) (pd d5 e5 (pc d4 e4 (pc d3 e3 (pc d2 e2 (pc d1 e1 (pc d0 e0 c)))))) (pd d6 e6 (pc d5 e5 (pc d4 e4 (pc d3 e3 (pc d2 e2 (pc d1 e1 (pc d0 e0 c))))))) (pd d7 e7 (pc d6 e6 (pc d5 e5 (pc d4 e4 (pc d3 e3 (pc d2 e2 (pc d1 e1 (pc d0 e0 c))))))))), []) := by kernel_rfl
theorem radd_raw1 (x y z d0 d1 d2 d3 d4 d5 d6 d7 e0 e1 e2 e3 e4 e5 e6 e7 r0 r1 r2 r3 r4 r5 r6 r7 : Nat) (p q r s : Bool) : runA Tryz.prog 41 #[wv x, wv y] [t, n, n, n, n] [(62, rt (D8 d0 d1 d2 d3 d4 d5 d6 d7)), (62, rt (D8 e0 e1 e2 e3 e4 e5 e6 e7)), (61, rt (D8 r0 r1 r2 r3 r4 r5 r6 r7)), (57, rt (wv z)), (47, rt (bb (p))), (47, rt (bb (q))), (47, rt (bb (r))), (47, rt (bb (s)))] =
    some (rt (tp [wv z, bb (!(r == s))]), [PureX Tryz.prog 62 #[wv x] (rt (D8 d0 d1 d2 d3 d4 d5 d6 d7)), PureX Tryz.prog 62 #[wv y] (rt (D8 e0 e1 e2 e3 e4 e5 e6 e7)), PureX Tryz.prog 61 #[D8 d0 d1 d2 d3 d4 d5 d6 d7, D8 e0 e1 e2 e3 e4 e5 e6 e7, u 0] (rt (D8 r0 r1 r2 r3 r4 r5 r6 r7)), PureX Tryz.prog 57 #[D8 r0 r1 r2 r3 r4 r5 r6 r7] (rt (wv z)), PureX Tryz.prog 47 #[wv x] (rt (bb (p))), PureX Tryz.prog 47 #[wv y] (rt (bb (q))), (p == q) = true, PureX Tryz.prog 47 #[wv z] (rt (bb (r))), PureX Tryz.prog 47 #[wv x] (rt (bb (s)))]) := by kernel_rfl
theorem radd_raw2 (x y z d0 d1 d2 d3 d4 d5 d6 d7 e0 e1 e2 e3 e4 e5 e6 e7 r0 r1 r2 r3 r4 r5 r6 r7 : Nat) (p q : Bool) : runA Tryz.prog 41 #[wv x, wv y] [f, n, n, n, n] [(62, rt (D8 d0 d1 d2 d3 d4 d5 d6 d7)), (62, rt (D8 e0 e1 e2 e3 e4 e5 e6 e7)), (61, rt (D8 r0 r1 r2 r3 r4 r5 r6 r7)), (57, rt (wv z)), (47, rt (bb (p))), (47, rt (bb (q)))] =
    some (rt (tp [wv z, bb (false)]), [PureX Tryz.prog 62 #[wv x] (rt (D8 d0 d1 d2 d3 d4 d5 d6 d7)), PureX Tryz.prog 62 #[wv y] (rt (D8 e0 e1 e2 e3 e4 e5 e6 e7)), PureX Tryz.prog 61 #[D8 d0 d1 d2 d3 d4 d5 d6 d7, D8 e0 e1 e2 e3 e4 e5 e6 e7, u 0] (rt (D8 r0 r1 r2 r3 r4 r5 r6 r7)), PureX Tryz.prog 57 #[D8 r0 r1 r2 r3 r4 r5 r6 r7] (rt (wv z)), PureX Tryz.prog 47 #[wv x] (rt (bb (p))), PureX Tryz.prog 47 #[wv y] (rt (bb (q))), (p == q) = false]) := by kernel_rfl
theorem rsub_raw1 (x y z d0 d1 d2 d3 d4 d5 d6 d7 e0 e1 e2 e3 e4 e5 e6 e7 f0 f1 f2 f3 f4 f5 f6 f7 r0 r1 r2 r3 r4 r5 r6 r7 : Nat) (p q r s : Bool) : runA Tryz.prog 107 #[wv x, wv y] [t, n, n, n, n] [(62, rt (D8 d0 d1 d2 d3 d4 d5 d6 d7)), (62, rt (D8 e0 e1 e2 e3 e4 e5 e6 e7)), (78, rt (D8 f0 f1 f2 f3 f4 f5 f6 f7)), (61, rt (D8 r0 r1 r2 r3 r4 r5 r6 r7)), (57, rt (wv z)), (47, rt (bb (p))), (47, rt (bb (q))), (47, rt (bb (r))), (47, rt (bb (s)))] =
    some (rt (tp [wv z, bb (!(r == s))]), [PureX Tryz.prog 62 #[wv x] (rt (D8 d0 d1 d2 d3 d4 d5 d6 d7)), PureX Tryz.prog 62 #[wv y] (rt (D8 e0 e1 e2 e3 e4 e5 e6 e7)), PureX Tryz.prog 78 #[D8 e0 e1 e2 e3 e4 e5 e6 e7] (rt (D8 f0 f1 f2 f3 f4 f5 f6 f7)), PureX Tryz.prog 61 #[D8 d0 d1 d2 d3 d4 d5 d6 d7, D8 f0 f1 f2 f3 f4 f5 f6 f7, u 1] (rt (D8 r0 r1 r2 r3 r4 r5 r6 r7)), PureX Tryz.prog 57 #[D8 r0 r1 r2 r3 r4 r5 r6 r7] (rt (wv z)), PureX Tryz.prog 47 #[wv x] (rt (bb (p))), PureX Tryz.prog 47 #[wv y] (rt (bb (q))), (!(p == q)) = true, PureX Tryz.prog 47 #[wv z] (rt (bb (r))), PureX Tryz.prog 47 #[wv x] (rt (bb (s)))]) := by kernel_rfl
theorem rsub_raw2 (x y z d0 d1 d2 d3 d4 d5 d6 d7 e0 e1 e2 e3 e4 e5 e6 e7 f0 f1 f2 f3 f4 f5 f6 f7 r0 r1 r2 r3 r4 r5 r6 r7 : Nat) (p q : Bool) : runA Tryz.prog 107 #[wv x, wv y] [f, n, n, n, n] [(62, rt (D8 d0 d1 d2 d3 d4 d5 d6 d7)), (62, rt (D8 e0 e1 e2 e3 e4 e5 e6 e7)), (78, rt (D8 f0 f1 f2 f3 f4 f5 f6 f7)), (61, rt (D8 r0 r1 r2 r3 r4 r5 r6 r7)), (57, rt (wv z)), (47, rt (bb (p))), (47, rt (bb (q)))] =
    some (rt (tp [wv z, bb (false)]), [PureX Tryz.prog 62 #[wv x] (rt (D8 d0 d1 d2 d3 d4 d5 d6 d7)), PureX Tryz.prog 62 #[wv y] (rt (D8 e0 e1 e2 e3 e4 e5 e6 e7)), PureX Tryz.prog 78 #[D8 e0 e1 e2 e3 e4 e5 e6 e7] (rt (D8 f0 f1 f2 f3 f4 f5 f6 f7)), PureX Tryz.prog 61 #[D8 d0 d1 d2 d3 d4 d5 d6 d7, D8 f0 f1 f2 f3 f4 f5 f6 f7, u 1] (rt (D8 r0 r1 r2 r3 r4 r5 r6 r7)), PureX Tryz.prog 57 #[D8 r0 r1 r2 r3 r4 r5 r6 r7] (rt (wv z)), PureX Tryz.prog 47 #[wv x] (rt (bb (p))), PureX Tryz.prog 47 #[wv y] (rt (bb (q))), (!(p == q)) = false]) := by kernel_rfl
theorem rneg_raw1 (x z d0 d1 d2 d3 d4 d5 d6 d7 f0 f1 f2 f3 f4 f5 f6 f7 r0 r1 r2 r3 r4 r5 r6 r7 : Nat) (p q : Bool) : runA Tryz.prog 58 #[wv x] [t, n] [(62, rt (D8 d0 d1 d2 d3 d4 d5 d6 d7)), (78, rt (D8 f0 f1 f2 f3 f4 f5 f6 f7)), (61, rt (D8 r0 r1 r2 r3 r4 r5 r6 r7)), (57, rt (wv z)), (47, rt (bb (p))), (47, rt (bb (q)))] =
    some (rt (tp [wv z, bb (q)]), [PureX Tryz.prog 62 #[wv x] (rt (D8 d0 d1 d2 d3 d4 d5 d6 d7)), PureX Tryz.prog 78 #[D8 d0 d1 d2 d3 d4 d5 d6 d7] (rt (D8 f0 f1 f2 f3 f4 f5 f6 f7)), PureX Tryz.prog 61 #[D8 f0 f1 f2 f3 f4 f5 f6 f7, D8 0 0 0 0 0 0 0 0, u 1] (rt (D8 r0 r1 r2 r3 r4 r5 r6 r7)), PureX Tryz.prog 57 #[D8 r0 r1 r2 r3 r4 r5 r6 r7] (rt (wv z)), PureX Tryz.prog 47 #[wv x] (rt (bb (p))), (p) = true, PureX Tryz.prog 47 #[wv z] (rt (bb (q)))]) := by kernel_rfl
theorem rneg_raw2 (x z d0 d1 d2 d3 d4 d5 d6 d7 f0 f1 f2 f3 f4 f5 f6 f7 r0 r1 r2 r3 r4 r5 r6 r7 : Nat) (p : Bool) : runA Tryz.prog 58 #[wv x] [f, n] [(62, rt (D8 d0 d1 d2 d3 d4 d5 d6 d7)), (78, rt (D8 f0 f1 f2 f3 f4 f5 f6 f7)), (61, rt (D8 r0 r1 r2 r3 r4 r5 r6 r7)), (57, rt (wv z)), (47, rt (bb (p)))] =
    some (rt (tp [wv z, bb (false)]), [PureX Tryz.prog 62 #[wv x] (rt (D8 d0 d1 d2 d3 d4 d5 d6 d7)), PureX Tryz.prog 78 #[D8 d0 d1 d2 d3 d4 d5 d6 d7] (rt (D8 f0 f1 f2 f3 f4 f5 f6 f7)), PureX Tryz.prog 61 #[D8 f0 f1 f2 f3 f4 f5 f6 f7, D8 0 0 0 0 0 0 0 0, u 1] (rt (D8 r0 r1 r2 r3 r4 r5 r6 r7)), PureX Tryz.prog 57 #[D8 r0 r1 r2 r3 r4 r5 r6 r7] (rt (wv z)), PureX Tryz.prog 47 #[wv x] (rt (bb (p))), (p) = false]) := by kernel_rfl

theorem wrapu {a : Nat} (ha : a < 18446744073709551616) : IntKind.u64.wrap (Int.ofNat a) = Int.ofNat a := by
  rw [IntKind.wrap_u64]
  simp only [Int.ofNat_eq_natCast]
  omega
theorem digits_x (x : Nat) : ∃ d0 d1 d2 d3 d4 d5 d6 d7, d0 < 4294967296 ∧ d1 < 4294967296 ∧ d2 < 4294967296 ∧ d3 < 4294967296 ∧ d4 < 4294967296 ∧ d5 < 4294967296 ∧ d6 < 4294967296 ∧ d7 < 4294967296 ∧ e8 d0 d1 d2 d3 d4 d5 d6 d7 = x % Mw ∧ PureX Tryz.prog 62 #[wv x] (rt (D8 d0 d1 d2 d3 d4 d5 d6 d7)) := by
  obtain ⟨a0, a1, a2, a3, ha0, ha1, ha2, ha3, ea, ea2, _⟩ := vl_wv x
  have h := runA_pure mix (digits_raw a0 a1 a2 a3) trivial rfl rfl
  rw [wrapu (show a0 / 4294967296 < 18446744073709551616 by omega), wrapu (show a1 / 4294967296 < 18446744073709551616 by omega), wrapu (show a2 / 4294967296 < 18446744073709551616 by omega), wrapu (show a3 / 4294967296 < 18446744073709551616 by omega)] at h
  refine ⟨a0 % 4294967296, a0 / 4294967296, a1 % 4294967296, a1 / 4294967296, a2 % 4294967296, a2 / 4294967296, a3 % 4294967296, a3 / 4294967296, by omega, by omega, by omega, by omega, by omega, by omega, by omega, by omega, ?_, ?_⟩
  · rw [← ea]
    unfold e8 vl
    have k : ∀ a r : Nat, a % 4294967296 + 4294967296 * (a / 4294967296 + 4294967296 * r) = a + 18446744073709551616 * r := by omega
    have k3 : a3 % 4294967296 + 4294967296 * (a3 / 4294967296) = a3 := by omega
    rw [k3, k, k, k]
  · rw [ea2]
    exact h
theorem not_c {d0 d1 d2 d3 d4 d5 d6 d7 : Nat} (hd0 : d0 < 4294967296) (hd1 : d1 < 4294967296) (hd2 : d2 < 4294967296) (hd3 : d3 < 4294967296) (hd4 : d4 < 4294967296) (hd5 : d5 < 4294967296) (hd6 : d6 < 4294967296) (hd7 : d7 < 4294967296) : PureX Tryz.prog 78 #[D8 d0 d1 d2 d3 d4 d5 d6 d7] (rt (D8 (4294967295 - d0) (4294967295 - d1) (4294967295 - d2) (4294967295 - d3) (4294967295 - d4) (4294967295 - d5) (4294967295 - d6) (4294967295 - d7))) := by
  have h := runA_pure mix (not_raw d0 d1 d2 d3 d4 d5 d6 d7) trivial rfl rfl
  have k : ∀ a : Nat, a < 4294967296 → IntKind.u64.wrap (4294967295 - Int.ofNat a) = Int.ofNat (4294967295 - a) := by
    intro a ha
    rw [IntKind.wrap_u64]
    simp only [Int.ofNat_eq_natCast]
    omega
  rw [k d0 hd0, k d1 hd1, k d2 hd2, k d3 hd3, k d4 hd4, k d5 hd5, k d6 hd6, k d7 hd7] at h
  exact h
theorem wide_c {d0 d1 d2 d3 d4 d5 d6 d7 : Nat} (hd0 : d0 < 4294967296) (hd1 : d1 < 4294967296) (hd2 : d2 < 4294967296) (hd3 : d3 < 4294967296) (hd4 : d4 < 4294967296) (hd5 : d5 < 4294967296) (hd6 : d6 < 4294967296) (hd7 : d7 < 4294967296) : PureX Tryz.prog 57 #[D8 d0 d1 d2 d3 d4 d5 d6 d7] (rt (wv (e8 d0 d1 d2 d3 d4 d5 d6 d7))) := by
  have h := runA_pure mix (wide_raw d0 d1 d2 d3 d4 d5 d6 d7) trivial rfl rfl
  have k : ∀ a b : Nat, a < 4294967296 → b < 4294967296 → IntKind.u64.wrap (IntKind.u64.wrap (Int.ofNat b * 4294967296) + Int.ofNat a) = Int.ofNat (a + 4294967296 * b) := by
    intro a b ha hb
    rw [IntKind.wrap_u64, IntKind.wrap_u64]
    simp only [Int.ofNat_eq_natCast]
    omega
  rw [k d0 d1 hd0 hd1, k d2 d3 hd2 hd3, k d4 d5 hd4 hd5, k d6 d7 hd6 hd7] at h
  have e : e8 d0 d1 d2 d3 d4 d5 d6 d7 = vl (d0 + 4294967296 * d1) (d2 + 4294967296 * d3) (d4 + 4294967296 * d5) (d6 + 4294967296 * d7) := by
    unfold e8 vl
    have k : ∀ a b r : Nat, a + 4294967296 * (b + 4294967296 * r) = a + 4294967296 * b + 18446744073709551616 * r := by omega
    rw [k, k, k]
  rw [e, wv_vl (by omega) (by omega) (by omega) (by omega)]
  exact h
theorem low_x (x : Nat) : PureX Tryz.prog 47 #[wv x] (rt (bb (ng x))) := by
  obtain ⟨a0, a1, a2, a3, ha0, ha1, ha2, ha3, ea, ea2, _⟩ := vl_wv x
  have h := runA_pure mix (low_raw a0 a1 a2 a3) trivial rfl rfl
  rw [ea2, ng_mod (x := x) (y := vl a0 a1 a2 a3) (by rw [ea, Nat.mod_mod]), ng_top ha0 ha1 ha2 ha3]
  have e : ((Int.ofNat a3).fdiv (2 ^ Int.toNat 63) == 1) = decide (9223372036854775808 ≤ a3) := by
    rw [Bool.eq_iff_iff, beq_iff_eq, decide_eq_true_iff]
    rw [show ((2 : Int) ^ Int.toNat 63) = 9223372036854775808 from rfl, Int.fdiv_eq_ediv_of_nonneg _ (by decide)]
    simp only [Int.ofNat_eq_natCast]
    omega
  rw [e] at h
  exact h
theorem plus_c {d0 d1 d2 d3 d4 d5 d6 d7 e0 e1 e2 e3 e4 e5 e6 e7 c : Nat} (hd0 : d0 < 4294967296) (hd1 : d1 < 4294967296) (hd2 : d2 < 4294967296) (hd3 : d3 < 4294967296) (hd4 : d4 < 4294967296) (hd5 : d5 < 4294967296) (hd6 : d6 < 4294967296) (hd7 : d7 < 4294967296) (he0 : e0 < 4294967296) (he1 : e1 < 4294967296) (he2 : e2 < 4294967296) (he3 : e3 < 4294967296) (he4 : e4 < 4294967296) (he5 : e5 < 4294967296) (he6 : e6 < 4294967296) (he7 : e7 < 4294967296) (hc : c ≤ 1) : ∃ r0 r1 r2 r3 r4 r5 r6 r7 k, r0 < 4294967296 ∧ r1 < 4294967296 ∧ r2 < 4294967296 ∧ r3 < 4294967296 ∧ r4 < 4294967296 ∧ r5 < 4294967296 ∧ r6 < 4294967296 ∧ r7 < 4294967296 ∧ k ≤ 1 ∧ e8 r0 r1 r2 r3 r4 r5 r6 r7 + Mw * k = e8 d0 d1 d2 d3 d4 d5 d6 d7 + e8 e0 e1 e2 e3 e4 e5 e6 e7 + c ∧ PureX Tryz.prog 61 #[D8 d0 d1 d2 d3 d4 d5 d6 d7, D8 e0 e1 e2 e3 e4 e5 e6 e7, u c] (rt (D8 r0 r1 r2 r3 r4 r5 r6 r7)) := by
  have h := runA_pure mix (plus_raw d0 d1 d2 d3 d4 d5 d6 d7 e0 e1 e2 e3 e4 e5 e6 e7 c) trivial rfl rfl
  have k0 := pd_spec hd0 he0 hc
  have k1 := pd_spec hd1 he1 k0.2.1
  have k2 := pd_spec hd2 he2 k1.2.1
  have k3 := pd_spec hd3 he3 k2.2.1
  have k4 := pd_spec hd4 he4 k3.2.1
  have k5 := pd_spec hd5 he5 k4.2.1
  have k6 := pd_spec hd6 he6 k5.2.1
  have k7 := pd_spec hd7 he7 k6.2.1
  generalize (pd d7 e7 (pc d6 e6 (pc d5 e5 (pc d4 e4 (pc d3 e3 (pc d2 e2 (pc d1 e1 (pc d0 e0 c)))))))) = r7 at k7 h
  generalize (pc d7 e7 (pc d6 e6 (pc d5 e5 (pc d4 e4 (pc d3 e3 (pc d2 e2 (pc d1 e1 (pc d0 e0 c)))))))) = c8 at k7
  generalize (pd d6 e6 (pc d5 e5 (pc d4 e4 (pc d3 e3 (pc d2 e2 (pc d1 e1 (pc d0 e0 c))))))) = r6 at k6 h
  generalize (pc d6 e6 (pc d5 e5 (pc d4 e4 (pc d3 e3 (pc d2 e2 (pc d1 e1 (pc d0 e0 c))))))) = c7 at k6 k7
  generalize (pd d5 e5 (pc d4 e4 (pc d3 e3 (pc d2 e2 (pc d1 e1 (pc d0 e0 c)))))) = r5 at k5 h
  generalize (pc d5 e5 (pc d4 e4 (pc d3 e3 (pc d2 e2 (pc d1 e1 (pc d0 e0 c)))))) = c6 at k5 k6
  generalize (pd d4 e4 (pc d3 e3 (pc d2 e2 (pc d1 e1 (pc d0 e0 c))))) = r4 at k4 h
  generalize (pc d4 e4 (pc d3 e3 (pc d2 e2 (pc d1 e1 (pc d0 e0 c))))) = c5 at k4 k5
  generalize (pd d3 e3 (pc d2 e2 (pc d1 e1 (pc d0 e0 c)))) = r3 at k3 h
  generalize (pc d3 e3 (pc d2 e2 (pc d1 e1 (pc d0 e0 c)))) = c4 at k3 k4
  generalize (pd d2 e2 (pc d1 e1 (pc d0 e0 c))) = r2 at k2 h
  generalize (pc d2 e2 (pc d1 e1 (pc d0 e0 c))) = c3 at k2 k3
  generalize (pd d1 e1 (pc d0 e0 c)) = r1 at k1 h
  generalize (pc d1 e1 (pc d0 e0 c)) = c2 at k1 k2
  generalize (pd d0 e0 c) = r0 at k0 h
  generalize (pc d0 e0 c) = c1 at k0 k1
  refine ⟨r0, r1, r2, r3, r4, r5, r6, r7, c8, k0.1, k1.1, k2.1, k3.1, k4.1, k5.1, k6.1, k7.1, k7.2.1, ?_, h⟩
  replace k0 := k0.2.2
  replace k1 := k1.2.2
  replace k2 := k2.2.2
  replace k3 := k3.2.2
  replace k4 := k4.2.2
  replace k5 := k5.2.2
  replace k6 := k6.2.2
  replace k7 := k7.2.2
  unfold e8
  simp only [Mw]
  clear h
  omega

theorem radd_x (x y : Nat) : PureX Tryz.prog 41 #[wv x, wv y] (rt (tp [wv (x + y), bb (addO x y)])) := by
  obtain ⟨d0, d1, d2, d3, d4, d5, d6, d7, hd0, hd1, hd2, hd3, hd4, hd5, hd6, hd7, ed, qd⟩ := digits_x x
  obtain ⟨e0, e1, e2, e3, e4, e5, e6, e7, he0, he1, he2, he3, he4, he5, he6, he7, ee, qe⟩ := digits_x y
  obtain ⟨r0, r1, r2, r3, r4, r5, r6, r7, k, hr0, hr1, hr2, hr3, hr4, hr5, hr6, hr7, hk, er, qr⟩ := plus_c hd0 hd1 hd2 hd3 hd4 hd5 hd6 hd7 he0 he1 he2 he3 he4 he5 he6 he7 (c := 0) (by decide)
  have qw := wide_c hr0 hr1 hr2 hr3 hr4 hr5 hr6 hr7
  rw [ed, ee] at er
  have hz : (x + y) % Mw = e8 r0 r1 r2 r3 r4 r5 r6 r7 % Mw := by
    have h2 := congrArg (· % Mw) er
    simp only [Nat.add_mul_mod_self_left, Nat.add_zero] at h2
    rw [h2, ← Nat.add_mod]
  rw [wv_mod hz.symm] at qw
  clear hz er ed ee
  have l1 := low_x x
  have l2 := low_x y
  have l3 := low_x (x + y)
  unfold addO
  generalize ng x = A at l1 ⊢
  generalize ng y = B at l2 ⊢
  generalize ng (x + y) = R at l3 ⊢
  cases hq : (A == B) <;> simp only [Bool.true_and, Bool.false_and]
  · exact runA_pure mix (radd_raw2 x y (x + y) d0 d1 d2 d3 d4 d5 d6 d7 e0 e1 e2 e3 e4 e5 e6 e7 r0 r1 r2 r3 r4 r5 r6 r7 A B) ⟨qd, qe, qr, qw, l1, l2, hq, trivial⟩ rfl rfl
  · exact runA_pure mix (radd_raw1 x y (x + y) d0 d1 d2 d3 d4 d5 d6 d7 e0 e1 e2 e3 e4 e5 e6 e7 r0 r1 r2 r3 r4 r5 r6 r7 A B R A) ⟨qd, qe, qr, qw, l1, l2, hq, l3, l1, trivial⟩ rfl rfl
theorem e8_not {d0 d1 d2 d3 d4 d5 d6 d7 : Nat} (hd0 : d0 < 4294967296) (hd1 : d1 < 4294967296) (hd2 : d2 < 4294967296) (hd3 : d3 < 4294967296) (hd4 : d4 < 4294967296) (hd5 : d5 < 4294967296) (hd6 : d6 < 4294967296) (hd7 : d7 < 4294967296) : e8 (4294967295 - d0) (4294967295 - d1) (4294967295 - d2) (4294967295 - d3) (4294967295 - d4) (4294967295 - d5) (4294967295 - d6) (4294967295 - d7) + e8 d0 d1 d2 d3 d4 d5 d6 d7 + 1 = Mw := by
  obtain ⟨f0, e0⟩ : ∃ f, f = 4294967295 - d0 := ⟨_, rfl⟩
  have g0 : f0 + d0 = 4294967295 := by omega
  rw [← e0]
  clear e0 hd0
  obtain ⟨f1, e1⟩ : ∃ f, f = 4294967295 - d1 := ⟨_, rfl⟩
  have g1 : f1 + d1 = 4294967295 := by omega
  rw [← e1]
  clear e1 hd1
  obtain ⟨f2, e2⟩ : ∃ f, f = 4294967295 - d2 := ⟨_, rfl⟩
  have g2 : f2 + d2 = 4294967295 := by omega
  rw [← e2]
  clear e2 hd2
  obtain ⟨f3, e3⟩ : ∃ f, f = 4294967295 - d3 := ⟨_, rfl⟩
  have g3 : f3 + d3 = 4294967295 := by omega
  rw [← e3]
  clear e3 hd3
  obtain ⟨f4, e4⟩ : ∃ f, f = 4294967295 - d4 := ⟨_, rfl⟩
  have g4 : f4 + d4 = 4294967295 := by omega
  rw [← e4]
  clear e4 hd4
  obtain ⟨f5, e5⟩ : ∃ f, f = 4294967295 - d5 := ⟨_, rfl⟩
  have g5 : f5 + d5 = 4294967295 := by omega
  rw [← e5]
  clear e5 hd5
  obtain ⟨f6, e6⟩ : ∃ f, f = 4294967295 - d6 := ⟨_, rfl⟩
  have g6 : f6 + d6 = 4294967295 := by omega
  rw [← e6]
  clear e6 hd6
  obtain ⟨f7, e7⟩ : ∃ f, f = 4294967295 - d7 := ⟨_, rfl⟩
  have g7 : f7 + d7 = 4294967295 := by omega
  rw [← e7]
  clear e7 hd7
  have s : ∀ f d F D : Nat, f + d = 4294967295 → f + 4294967296 * F + (d + 4294967296 * D) + 1 = 4294967296 * (F + D + 1) := by
    intro f d F D h
    omega
  unfold e8
  rw [s _ _ _ _ g0, s _ _ _ _ g1, s _ _ _ _ g2, s _ _ _ _ g3, s _ _ _ _ g4, s _ _ _ _ g5, s _ _ _ _ g6, show f7 + d7 + 1 = 4294967296 by omega]
theorem rsub_x (x y : Nat) : PureX Tryz.prog 107 #[wv x, wv y] (rt (tp [wv (dif x y), bb (subO x y)])) := by
  obtain ⟨e0, e1, e2, e3, e4, e5, e6, e7, he0, he1, he2, he3, he4, he5, he6, he7, ee, qe⟩ := digits_x x
  obtain ⟨d0, d1, d2, d3, d4, d5, d6, d7, hd0, hd1, hd2, hd3, hd4, hd5, hd6, hd7, ed, qd⟩ := digits_x y
  have qn := not_c hd0 hd1 hd2 hd3 hd4 hd5 hd6 hd7
  have en := e8_not hd0 hd1 hd2 hd3 hd4 hd5 hd6 hd7
  obtain ⟨r0, r1, r2, r3, r4, r5, r6, r7, k, hr0, hr1, hr2, hr3, hr4, hr5, hr6, hr7, hk, er, qr⟩ := plus_c he0 he1 he2 he3 he4 he5 he6 he7 (show 4294967295 - d0 < 4294967296 by omega) (show 4294967295 - d1 < 4294967296 by omega) (show 4294967295 - d2 < 4294967296 by omega) (show 4294967295 - d3 < 4294967296 by omega) (show 4294967295 - d4 < 4294967296 by omega) (show 4294967295 - d5 < 4294967296 by omega) (show 4294967295 - d6 < 4294967296 by omega) (show 4294967295 - d7 < 4294967296 by omega) (c := 1) (by decide)
  have qw := wide_c hr0 hr1 hr2 hr3 hr4 hr5 hr6 hr7
  rw [ee] at er
  rw [ed] at en
  generalize e8 (4294967295 - d0) (4294967295 - d1) (4294967295 - d2) (4294967295 - d3) (4294967295 - d4) (4294967295 - d5) (4294967295 - d6) (4294967295 - d7) = N at en er
  have hl : y % Mw < Mw := Nat.mod_lt _ (by decide)
  have hz : dif x y % Mw = e8 r0 r1 r2 r3 r4 r5 r6 r7 % Mw := by
    have h2 := congrArg (· % Mw) er
    simp only [Nat.add_mul_mod_self_left] at h2
    rw [h2]
    unfold dif
    rw [show x % Mw + N + 1 = x % Mw + (Mw - y % Mw) by omega, Nat.mod_add_mod]
  rw [wv_mod hz.symm] at qw
  clear hz er ed ee en hl
  have l1 := low_x x
  have l2 := low_x y
  have l3 := low_x (dif x y)
  unfold subO
  generalize ng x = A at l1 ⊢
  generalize ng y = B at l2 ⊢
  generalize ng (dif x y) = R at l3 ⊢
  generalize dif x y = z at l3 qw ⊢
  cases hq : (A == B) <;> simp only [Bool.not_true, Bool.not_false, Bool.true_and, Bool.false_and]
  · have hq2 : (!(A == B)) = true := by rw [hq]; rfl
    exact runA_pure mix (rsub_raw1 x y z e0 e1 e2 e3 e4 e5 e6 e7 d0 d1 d2 d3 d4 d5 d6 d7 (4294967295 - d0) (4294967295 - d1) (4294967295 - d2) (4294967295 - d3) (4294967295 - d4) (4294967295 - d5) (4294967295 - d6) (4294967295 - d7) r0 r1 r2 r3 r4 r5 r6 r7 A B R A) ⟨qe, qd, qn, qr, qw, l1, l2, hq2, l3, l1, trivial⟩ rfl rfl
  · have hq2 : (!(A == B)) = false := by rw [hq]; rfl
    exact runA_pure mix (rsub_raw2 x y z e0 e1 e2 e3 e4 e5 e6 e7 d0 d1 d2 d3 d4 d5 d6 d7 (4294967295 - d0) (4294967295 - d1) (4294967295 - d2) (4294967295 - d3) (4294967295 - d4) (4294967295 - d5) (4294967295 - d6) (4294967295 - d7) r0 r1 r2 r3 r4 r5 r6 r7 A B) ⟨qe, qd, qn, qr, qw, l1, l2, hq2, trivial⟩ rfl rfl
theorem rneg_x (x : Nat) : PureX Tryz.prog 58 #[wv x] (rt (tp [wv (dif 0 x), bb (subO 0 x)])) := by
  obtain ⟨d0, d1, d2, d3, d4, d5, d6, d7, hd0, hd1, hd2, hd3, hd4, hd5, hd6, hd7, ed, qd⟩ := digits_x x
  have qn := not_c hd0 hd1 hd2 hd3 hd4 hd5 hd6 hd7
  have en := e8_not hd0 hd1 hd2 hd3 hd4 hd5 hd6 hd7
  obtain ⟨r0, r1, r2, r3, r4, r5, r6, r7, k, hr0, hr1, hr2, hr3, hr4, hr5, hr6, hr7, hk, er, qr⟩ := plus_c (show 4294967295 - d0 < 4294967296 by omega) (show 4294967295 - d1 < 4294967296 by omega) (show 4294967295 - d2 < 4294967296 by omega) (show 4294967295 - d3 < 4294967296 by omega) (show 4294967295 - d4 < 4294967296 by omega) (show 4294967295 - d5 < 4294967296 by omega) (show 4294967295 - d6 < 4294967296 by omega) (show 4294967295 - d7 < 4294967296 by omega) (show 0 < 4294967296 by decide) (show 0 < 4294967296 by decide) (show 0 < 4294967296 by decide) (show 0 < 4294967296 by decide) (show 0 < 4294967296 by decide) (show 0 < 4294967296 by decide) (show 0 < 4294967296 by decide) (show 0 < 4294967296 by decide) (c := 1) (by decide)
  have qw := wide_c hr0 hr1 hr2 hr3 hr4 hr5 hr6 hr7
  rw [ed] at en
  generalize e8 (4294967295 - d0) (4294967295 - d1) (4294967295 - d2) (4294967295 - d3) (4294967295 - d4) (4294967295 - d5) (4294967295 - d6) (4294967295 - d7) = N at en er
  rw [show e8 0 0 0 0 0 0 0 0 = 0 from rfl] at er
  have hl : x % Mw < Mw := Nat.mod_lt _ (by decide)
  have hz : dif 0 x % Mw = e8 r0 r1 r2 r3 r4 r5 r6 r7 % Mw := by
    have h2 := congrArg (· % Mw) er
    simp only [Nat.add_mul_mod_self_left] at h2
    rw [h2]
    unfold dif
    rw [show N + 0 + 1 = 0 + (Mw - x % Mw) by omega]
  rw [wv_mod hz.symm] at qw
  clear hz er ed en hl
  have l1 := low_x x
  have l3 := low_x (dif 0 x)
  unfold subO
  rw [show ng 0 = false from rfl]
  generalize ng x = A at l1 ⊢
  generalize ng (dif 0 x) = R at l3 ⊢
  generalize dif 0 x = z at l3 qw ⊢
  cases A
  · exact runA_pure mix (rneg_raw2 x z d0 d1 d2 d3 d4 d5 d6 d7 (4294967295 - d0) (4294967295 - d1) (4294967295 - d2) (4294967295 - d3) (4294967295 - d4) (4294967295 - d5) (4294967295 - d6) (4294967295 - d7) r0 r1 r2 r3 r4 r5 r6 r7 false) ⟨qd, qn, qr, qw, l1, rfl, trivial⟩ rfl rfl
  · have e : (!(false == true) && !(R == false)) = R := by cases R <;> rfl
    rw [e]
    exact runA_pure mix (rneg_raw1 x z d0 d1 d2 d3 d4 d5 d6 d7 (4294967295 - d0) (4294967295 - d1) (4294967295 - d2) (4294967295 - d3) (4294967295 - d4) (4294967295 - d5) (4294967295 - d6) (4294967295 - d7) r0 r1 r2 r3 r4 r5 r6 r7 true R) ⟨qd, qn, qr, qw, l1, rfl, l3, trivial⟩ rfl rfl
theorem radd_z {x y : Int} (hx : inR x) (hy : inR y) : PureX Tryz.prog 41 #[wz x, wz y] (rt (tp [wz (x + y), bb (decide (¬ inR (x + y)))])) := by
  have h := radd_x (nz x) (nz y)
  rw [(add_wv x y).1, over_add hx hy] at h
  exact h
theorem rsub_z {x y : Int} (hx : inR x) (hy : inR y) : PureX Tryz.prog 107 #[wz x, wz y] (rt (tp [wz (x - y), bb (decide (¬ inR (x - y)))])) := by
  have h := rsub_x (nz x) (nz y)
  rw [(dif_wv x y).1, over_sub hx hy] at h
  exact h
theorem rneg_z {x : Int} (hx : inR x) : PureX Tryz.prog 58 #[wz x] (rt (tp [wz (-x), bb (decide (¬ inR (-x)))])) := by
  have h := rneg_x (nz x)
  have e0 : (0 : Nat) = nz 0 := rfl
  rw [e0, (dif_wv 0 x).1, over_sub (by decide) hx, show (0 : Int) - x = -x by omega] at h
  exact h

end Go.Proofs.YtcmfgabhgodlaaaGreatDoor

/- The document's own Cmp, Sign, Of. -/
namespace Go.Proofs.YtcmfgabhgodlaaaGreatDoor
open Go Go.RowKit
set_option linter.unusedSimpArgs false
set_option linter.unusedVariables false

theorem rcmp_raw1 (x y : Nat) (p q r : Bool) : runA Tryz.prog 30 #[wv x, wv y] [t, t] [(47, rt (bb (p))), (47, rt (bb (q))), (47, rt (bb (r)))] =
    some (rt (.int .i64 (-1)), [PureX Tryz.prog 47 #[wv x] (rt (bb (p))), PureX Tryz.prog 47 #[wv y] (rt (bb (q))), (!(p == q)) = true, PureX Tryz.prog 47 #[wv x] (rt (bb (r))), (r) = true]) := by kernel_rfl
theorem rcmp_raw2 (x y : Nat) (p q r : Bool) : runA Tryz.prog 30 #[wv x, wv y] [t, f] [(47, rt (bb (p))), (47, rt (bb (q))), (47, rt (bb (r)))] =
    some (rt (.int .i64 (1)), [PureX Tryz.prog 47 #[wv x] (rt (bb (p))), PureX Tryz.prog 47 #[wv y] (rt (bb (q))), (!(p == q)) = true, PureX Tryz.prog 47 #[wv x] (rt (bb (r))), (r) = false]) := by kernel_rfl
theorem rcmp_a3 (a0 a1 a2 a3 b0 b1 b2 b3 : Nat) (p q : Bool) : runA Tryz.prog 30 #[W4 a0 a1 a2 a3, W4 b0 b1 b2 b3] [f, n, t] [(47, rt (bb (p))), (47, rt (bb (q)))] =
    some (rt (.int .i64 (-1)), [PureX Tryz.prog 47 #[W4 a0 a1 a2 a3] (rt (bb (p))), PureX Tryz.prog 47 #[W4 b0 b1 b2 b3] (rt (bb (q))), (!(p == q)) = false, (decide (Int.ofNat a3 < Int.ofNat b3)) = true]) := by kernel_rfl
theorem rcmp_b3 (a0 a1 a2 a3 b0 b1 b2 b3 : Nat) (p q : Bool) : runA Tryz.prog 30 #[W4 a0 a1 a2 a3, W4 b0 b1 b2 b3] [f, n, f, t] [(47, rt (bb (p))), (47, rt (bb (q)))] =
    some (rt (.int .i64 (1)), [PureX Tryz.prog 47 #[W4 a0 a1 a2 a3] (rt (bb (p))), PureX Tryz.prog 47 #[W4 b0 b1 b2 b3] (rt (bb (q))), (!(p == q)) = false, (decide (Int.ofNat a3 < Int.ofNat b3)) = false, (decide (Int.ofNat b3 < Int.ofNat a3)) = true]) := by kernel_rfl
theorem rcmp_a2 (a0 a1 a2 a3 b0 b1 b2 b3 : Nat) (p q : Bool) : runA Tryz.prog 30 #[W4 a0 a1 a2 a3, W4 b0 b1 b2 b3] [f, n, f, f, n, t] [(47, rt (bb (p))), (47, rt (bb (q)))] =
    some (rt (.int .i64 (-1)), [PureX Tryz.prog 47 #[W4 a0 a1 a2 a3] (rt (bb (p))), PureX Tryz.prog 47 #[W4 b0 b1 b2 b3] (rt (bb (q))), (!(p == q)) = false, (decide (Int.ofNat a3 < Int.ofNat b3)) = false, (decide (Int.ofNat b3 < Int.ofNat a3)) = false, (decide (Int.ofNat a2 < Int.ofNat b2)) = true]) := by kernel_rfl
theorem rcmp_b2 (a0 a1 a2 a3 b0 b1 b2 b3 : Nat) (p q : Bool) : runA Tryz.prog 30 #[W4 a0 a1 a2 a3, W4 b0 b1 b2 b3] [f, n, f, f, n, f, t] [(47, rt (bb (p))), (47, rt (bb (q)))] =
    some (rt (.int .i64 (1)), [PureX Tryz.prog 47 #[W4 a0 a1 a2 a3] (rt (bb (p))), PureX Tryz.prog 47 #[W4 b0 b1 b2 b3] (rt (bb (q))), (!(p == q)) = false, (decide (Int.ofNat a3 < Int.ofNat b3)) = false, (decide (Int.ofNat b3 < Int.ofNat a3)) = false, (decide (Int.ofNat a2 < Int.ofNat b2)) = false, (decide (Int.ofNat b2 < Int.ofNat a2)) = true]) := by kernel_rfl
theorem rcmp_a1 (a0 a1 a2 a3 b0 b1 b2 b3 : Nat) (p q : Bool) : runA Tryz.prog 30 #[W4 a0 a1 a2 a3, W4 b0 b1 b2 b3] [f, n, f, f, n, f, f, n, t] [(47, rt (bb (p))), (47, rt (bb (q)))] =
    some (rt (.int .i64 (-1)), [PureX Tryz.prog 47 #[W4 a0 a1 a2 a3] (rt (bb (p))), PureX Tryz.prog 47 #[W4 b0 b1 b2 b3] (rt (bb (q))), (!(p == q)) = false, (decide (Int.ofNat a3 < Int.ofNat b3)) = false, (decide (Int.ofNat b3 < Int.ofNat a3)) = false, (decide (Int.ofNat a2 < Int.ofNat b2)) = false, (decide (Int.ofNat b2 < Int.ofNat a2)) = false, (decide (Int.ofNat a1 < Int.ofNat b1)) = true]) := by kernel_rfl
theorem rcmp_b1 (a0 a1 a2 a3 b0 b1 b2 b3 : Nat) (p q : Bool) : runA Tryz.prog 30 #[W4 a0 a1 a2 a3, W4 b0 b1 b2 b3] [f, n, f, f, n, f, f, n, f, t] [(47, rt (bb (p))), (47, rt (bb (q)))] =
    some (rt (.int .i64 (1)), [PureX Tryz.prog 47 #[W4 a0 a1 a2 a3] (rt (bb (p))), PureX Tryz.prog 47 #[W4 b0 b1 b2 b3] (rt (bb (q))), (!(p == q)) = false, (decide (Int.ofNat a3 < Int.ofNat b3)) = false, (decide (Int.ofNat b3 < Int.ofNat a3)) = false, (decide (Int.ofNat a2 < Int.ofNat b2)) = false, (decide (Int.ofNat b2 < Int.ofNat a2)) = false, (decide (Int.ofNat a1 < Int.ofNat b1)) = false, (decide (Int.ofNat b1 < Int.ofNat a1)) = true]) := by kernel_rfl
theorem rcmp_a0 (a0 a1 a2 a3 b0 b1 b2 b3 : Nat) (p q : Bool) : runA Tryz.prog 30 #[W4 a0 a1 a2 a3, W4 b0 b1 b2 b3] [f, n, f, f, n, f, f, n, f, f, n, t] [(47, rt (bb (p))), (47, rt (bb (q)))] =
    some (rt (.int .i64 (-1)), [PureX Tryz.prog 47 #[W4 a0 a1 a2 a3] (rt (bb (p))), PureX Tryz.prog 47 #[W4 b0 b1 b2 b3] (rt (bb (q))), (!(p == q)) = false, (decide (Int.ofNat a3 < Int.ofNat b3)) = false, (decide (Int.ofNat b3 < Int.ofNat a3)) = false, (decide (Int.ofNat a2 < Int.ofNat b2)) = false, (decide (Int.ofNat b2 < Int.ofNat a2)) = false, (decide (Int.ofNat a1 < Int.ofNat b1)) = false, (decide (Int.ofNat b1 < Int.ofNat a1)) = false, (decide (Int.ofNat a0 < Int.ofNat b0)) = true]) := by kernel_rfl
theorem rcmp_b0 (a0 a1 a2 a3 b0 b1 b2 b3 : Nat) (p q : Bool) : runA Tryz.prog 30 #[W4 a0 a1 a2 a3, W4 b0 b1 b2 b3] [f, n, f, f, n, f, f, n, f, f, n, f, t] [(47, rt (bb (p))), (47, rt (bb (q)))] =
    some (rt (.int .i64 (1)), [PureX Tryz.prog 47 #[W4 a0 a1 a2 a3] (rt (bb (p))), PureX Tryz.prog 47 #[W4 b0 b1 b2 b3] (rt (bb (q))), (!(p == q)) = false, (decide (Int.ofNat a3 < Int.ofNat b3)) = false, (decide (Int.ofNat b3 < Int.ofNat a3)) = false, (decide (Int.ofNat a2 < Int.ofNat b2)) = false, (decide (Int.ofNat b2 < Int.ofNat a2)) = false, (decide (Int.ofNat a1 < Int.ofNat b1)) = false, (decide (Int.ofNat b1 < Int.ofNat a1)) = false, (decide (Int.ofNat a0 < Int.ofNat b0)) = false, (decide (Int.ofNat b0 < Int.ofNat a0)) = true]) := by kernel_rfl
theorem rcmp_e (a0 a1 a2 a3 b0 b1 b2 b3 : Nat) (p q : Bool) : runA Tryz.prog 30 #[W4 a0 a1 a2 a3, W4 b0 b1 b2 b3] [f, n, f, f, n, f, f, n, f, f, n, f, f, n] [(47, rt (bb (p))), (47, rt (bb (q)))] =
    some (rt (.int .i64 (0)), [PureX Tryz.prog 47 #[W4 a0 a1 a2 a3] (rt (bb (p))), PureX Tryz.prog 47 #[W4 b0 b1 b2 b3] (rt (bb (q))), (!(p == q)) = false, (decide (Int.ofNat a3 < Int.ofNat b3)) = false, (decide (Int.ofNat b3 < Int.ofNat a3)) = false, (decide (Int.ofNat a2 < Int.ofNat b2)) = false, (decide (Int.ofNat b2 < Int.ofNat a2)) = false, (decide (Int.ofNat a1 < Int.ofNat b1)) = false, (decide (Int.ofNat b1 < Int.ofNat a1)) = false, (decide (Int.ofNat a0 < Int.ofNat b0)) = false, (decide (Int.ofNat b0 < Int.ofNat a0)) = false]) := by kernel_rfl
theorem rsign_raw (x : Nat) (s : Int) : runA Tryz.prog 59 #[wv x] [] [(30, rt (.int .i64 (s)))] =
    some (rt (.int .i64 (s)), [PureX Tryz.prog 30 #[wv x, wv 0] (rt (.int .i64 (s)))]) := by kernel_rfl
theorem rof_raw1 (x : Int) : runA Tryz.prog 39 #[.int .i64 (x)] [n, n, f] [] =
    some (rt (.agg ⟨[.int .u64 (IntKind.u64.wrap x), u 0, u 0, u 0]⟩), [(decide (x < 0)) = false]) := by kernel_rfl
theorem rof_raw2 (x : Int) : runA Tryz.prog 39 #[.int .i64 (x)] [n, n, t, n, n, t, n, n, t, n, n, n] [] =
    some (rt (.agg ⟨[.int .u64 (IntKind.u64.wrap x), .int .u64 (18446744073709551615), .int .u64 (18446744073709551615), .int .u64 (18446744073709551615)]⟩), [(decide (x < 0)) = true, (decide (x < 0)) = true, (decide (x < 0)) = true]) := by kernel_rfl
theorem rof1 (x : Nat) : runA Tryz.prog 39 #[.int .i64 (1)] [] [] =
    some (rt (wv 1), []) := by kernel_rfl
theorem lt_t {a b : Nat} (h : a < b) : (decide (Int.ofNat a < Int.ofNat b)) = true := by
  rw [decide_eq_true_eq]
  exact Int.ofNat_lt.2 h
theorem lt_f {a b : Nat} (h : ¬ a < b) : (decide (Int.ofNat a < Int.ofNat b)) = false := by
  rw [decide_eq_false_iff_not]
  exact fun c => h (Int.ofNat_lt.1 c)
/-- The order of words, the highest first. -/
theorem rcmp_w {a0 a1 a2 a3 b0 b1 b2 b3 : Nat} (ha0 : a0 < 18446744073709551616) (ha1 : a1 < 18446744073709551616) (ha2 : a2 < 18446744073709551616) (ha3 : a3 < 18446744073709551616) (hb0 : b0 < 18446744073709551616) (hb1 : b1 < 18446744073709551616) (hb2 : b2 < 18446744073709551616) (hb3 : b3 < 18446744073709551616) {p q : Bool}
    (l1 : PureX Tryz.prog 47 #[W4 a0 a1 a2 a3] (rt (bb p))) (l2 : PureX Tryz.prog 47 #[W4 b0 b1 b2 b3] (rt (bb q))) (hq : (!(p == q)) = false) :
    PureX Tryz.prog 30 #[W4 a0 a1 a2 a3, W4 b0 b1 b2 b3] (rt (.int .i64 ((vl a0 a1 a2 a3 : Int) - (vl b0 b1 b2 b3 : Int)).sign)) := by
  by_cases c3 : a3 < b3
  · rw [Int.sign_eq_neg_one_of_neg (by unfold vl; omega)]
    exact runA_pure mix (rcmp_a3 a0 a1 a2 a3 b0 b1 b2 b3 p q) ⟨l1, l2, hq, lt_t c3, trivial⟩ rfl rfl
  by_cases d3 : b3 < a3
  · rw [Int.sign_eq_one_of_pos (by unfold vl; omega)]
    exact runA_pure mix (rcmp_b3 a0 a1 a2 a3 b0 b1 b2 b3 p q) ⟨l1, l2, hq, lt_f c3, lt_t d3, trivial⟩ rfl rfl
  have e3 : a3 = b3 := by omega
  by_cases c2 : a2 < b2
  · rw [Int.sign_eq_neg_one_of_neg (by subst e3; unfold vl; omega)]
    exact runA_pure mix (rcmp_a2 a0 a1 a2 a3 b0 b1 b2 b3 p q) ⟨l1, l2, hq, lt_f c3, lt_f d3, lt_t c2, trivial⟩ rfl rfl
  by_cases d2 : b2 < a2
  · rw [Int.sign_eq_one_of_pos (by subst e3; unfold vl; omega)]
    exact runA_pure mix (rcmp_b2 a0 a1 a2 a3 b0 b1 b2 b3 p q) ⟨l1, l2, hq, lt_f c3, lt_f d3, lt_f c2, lt_t d2, trivial⟩ rfl rfl
  have e2 : a2 = b2 := by omega
  by_cases c1 : a1 < b1
  · rw [Int.sign_eq_neg_one_of_neg (by subst e3 e2; unfold vl; omega)]
    exact runA_pure mix (rcmp_a1 a0 a1 a2 a3 b0 b1 b2 b3 p q) ⟨l1, l2, hq, lt_f c3, lt_f d3, lt_f c2, lt_f d2, lt_t c1, trivial⟩ rfl rfl
  by_cases d1 : b1 < a1
  · rw [Int.sign_eq_one_of_pos (by subst e3 e2; unfold vl; omega)]
    exact runA_pure mix (rcmp_b1 a0 a1 a2 a3 b0 b1 b2 b3 p q) ⟨l1, l2, hq, lt_f c3, lt_f d3, lt_f c2, lt_f d2, lt_f c1, lt_t d1, trivial⟩ rfl rfl
  have e1 : a1 = b1 := by omega
  by_cases c0 : a0 < b0
  · rw [Int.sign_eq_neg_one_of_neg (by subst e3 e2 e1; unfold vl; omega)]
    exact runA_pure mix (rcmp_a0 a0 a1 a2 a3 b0 b1 b2 b3 p q) ⟨l1, l2, hq, lt_f c3, lt_f d3, lt_f c2, lt_f d2, lt_f c1, lt_f d1, lt_t c0, trivial⟩ rfl rfl
  by_cases d0 : b0 < a0
  · rw [Int.sign_eq_one_of_pos (by subst e3 e2 e1; unfold vl; omega)]
    exact runA_pure mix (rcmp_b0 a0 a1 a2 a3 b0 b1 b2 b3 p q) ⟨l1, l2, hq, lt_f c3, lt_f d3, lt_f c2, lt_f d2, lt_f c1, lt_f d1, lt_f c0, lt_t d0, trivial⟩ rfl rfl
  have e0 : a0 = b0 := by omega
  have es : ((vl a0 a1 a2 a3 : Int) - (vl b0 b1 b2 b3 : Int)).sign = 0 := by rw [e3, e2, e1, e0, Int.sub_self]; rfl
  rw [es]
  exact runA_pure mix (rcmp_e a0 a1 a2 a3 b0 b1 b2 b3 p q) ⟨l1, l2, hq, lt_f c3, lt_f d3, lt_f c2, lt_f d2, lt_f c1, lt_f d1, lt_f c0, lt_f d0, trivial⟩ rfl rfl
theorem nz_diff {x y : Int} (hx : inR x) (hy : inR y) (h : decide (x < 0) = decide (y < 0)) : (nz x : Int) - (nz y : Int) = x - y := by
  rw [decide_eq_decide] at h
  rw [nz_cast, nz_cast]
  unfold inR at *
  simp only [Mw]
  omega
theorem rcmp_z {x y : Int} (hx : inR x) (hy : inR y) : PureX Tryz.prog 30 #[wz x, wz y] (rt (.int .i64 (x - y).sign)) := by
  have l1 := low_x (nz x)
  have l2 := low_x (nz y)
  rw [ng_z hx] at l1
  rw [ng_z hy] at l2
  by_cases hs : decide (x < 0) = decide (y < 0)
  · rw [← nz_diff hx hy hs]
    unfold wz at *
    obtain ⟨a0, a1, a2, a3, ha0, ha1, ha2, ha3, ea, ea2, _⟩ := vl_wv (nz x)
    obtain ⟨b0, b1, b2, b3, hb0, hb1, hb2, hb3, eb, eb2, _⟩ := vl_wv (nz y)
    rw [Nat.mod_eq_of_lt (nz_lt x)] at ea
    rw [Nat.mod_eq_of_lt (nz_lt y)] at eb
    rw [ea2] at l1 ⊢
    rw [eb2] at l2 ⊢
    rw [← ea, ← eb]
    exact rcmp_w ha0 ha1 ha2 ha3 hb0 hb1 hb2 hb3 l1 l2 (by rw [hs, beq_self_eq_true]; rfl)
  · have hq : (!(decide (x < 0) == decide (y < 0))) = true := by
      rw [Bool.not_eq_true', beq_eq_false_iff_ne]
      exact hs
    rw [decide_eq_decide] at hs
    by_cases hx0 : x < 0
    · have hy0 : ¬ y < 0 := fun c => hs ⟨fun _ => c, fun _ => hx0⟩
      rw [Int.sign_eq_neg_one_of_neg (by omega)]
      exact runA_pure mix (rcmp_raw1 (nz x) (nz y) _ _ _) ⟨l1, l2, hq, l1, decide_eq_true hx0, trivial⟩ rfl rfl
    · have hy0 : y < 0 := by
        by_cases c : y < 0
        · exact c
        · exact absurd ⟨fun h => absurd h hx0, fun h => absurd h c⟩ hs
      rw [Int.sign_eq_one_of_pos (by omega)]
      exact runA_pure mix (rcmp_raw2 (nz x) (nz y) _ _ _) ⟨l1, l2, hq, l1, decide_eq_false hx0, trivial⟩ rfl rfl
theorem rsign_z {x : Int} (hx : inR x) : PureX Tryz.prog 59 #[wz x] (rt (.int .i64 x.sign)) := by
  have h := rcmp_z hx (y := 0) (by decide)
  rw [Int.sub_zero] at h
  exact runA_pure mix (rsign_raw (nz x) x.sign) ⟨h, trivial⟩ rfl rfl
theorem rof_z {x : Int} (h1 : -9223372036854775808 ≤ x) (h2 : x < 9223372036854775808) : PureX Tryz.prog 39 #[.int .i64 x] (rt (wz x)) := by
  have hm : ((x % 18446744073709551616).toNat : Int) = x % 18446744073709551616 := Int.toNat_of_nonneg (Int.emod_nonneg _ (by decide))
  have hw : IntKind.u64.wrap x = Int.ofNat (x % 18446744073709551616).toNat := by
    rw [IntKind.wrap_u64, Int.ofNat_eq_natCast, hm]
  have hlt : (x % 18446744073709551616).toNat < 18446744073709551616 := by omega
  by_cases hx : x < 0
  · have h := runA_pure mix (rof_raw2 x) ⟨decide_eq_true hx, decide_eq_true hx, decide_eq_true hx, trivial⟩ rfl rfl
    rw [hw] at h
    have e : wz x = W4 (x % 18446744073709551616).toNat 18446744073709551615 18446744073709551615 18446744073709551615 := by
      rw [← wv_vl hlt (by decide) (by decide) (by decide)]
      symm
      apply nz_of
      unfold vl
      simp only [Mw]
      omega
    rw [e]
    exact h
  · have h := runA_pure mix (rof_raw1 x) ⟨decide_eq_false hx, trivial⟩ rfl rfl
    rw [hw] at h
    have e : wz x = W4 (x % 18446744073709551616).toNat 0 0 0 := by
      rw [← wv_vl hlt (by decide) (by decide) (by decide)]
      symm
      apply nz_of
      unfold vl
      simp only [Mw]
      omega
    rw [e]
    exact h

end Go.Proofs.YtcmfgabhgodlaaaGreatDoor

/- The document's own product of digits. -/
namespace Go.Proofs.YtcmfgabhgodlaaaGreatDoor
open Go Go.RowKit Go.Shelf
set_option linter.unusedSimpArgs false
set_option linter.unusedVariables false

attribute [local go_sem] Oper.semAt_some

def upd (r : Nat → Nat) (i v : Nat) : Nat → Nat := fun j => if j = i then v else r j
def At8 (W : World) (B : Nat) (r : Nat → Nat) : Prop := W.heap[B]? = some (.cells #[.int .u64 (r 0), .int .u64 (r 1), .int .u64 (r 2), .int .u64 (r 3), .int .u64 (r 4), .int .u64 (r 5), .int .u64 (r 6), .int .u64 (r 7)] 73 (0, 0))

theorem grownBy_setCellAt (W : World) (b i : Nat) (v : Value) : W.grownBy (W.setCell ⟨b, i, none⟩ v) (some b) :=
  ⟨rfl, rfl, rfl, (KeepsWalks.setCell W _ v).size, fun k _ hk => Below.heap_setCell _ _ _ k (fun e => hk (by rw [e]))⟩
theorem At8.lt {W : World} {B : Nat} {r : Nat → Nat} (h : At8 W B r) : B < W.heap.size := (Array.getElem?_eq_some_iff.1 h).1
theorem At8.cell {W : World} {B : Nat} {r : Nat → Nat} (h : At8 W B r) (i : Nat) (hi : i < 8) : W.cell? ⟨B, i, none⟩ = some (.int .u64 (r i)) := by
  have : i = 0 ∨ i = 1 ∨ i = 2 ∨ i = 3 ∨ i = 4 ∨ i = 5 ∨ i = 6 ∨ i = 7 := by omega
  rcases this with rfl | rfl | rfl | rfl | rfl | rfl | rfl | rfl <;> simp [World.cell?, show W.heap[B]? = _ from h]
theorem At8.frozen {W : World} {B : Nat} {r : Nat → Nat} (h : At8 W B r) (i : Nat) : W.frozen? ⟨B, i, none⟩ = false := by simp [World.frozen?, show W.heap[B]? = _ from h]
theorem At8.kept {W W' : World} {row : Option Nat} {B : Nat} {r : Nat → Nat} (h : At8 W B r) (hg : W.grownBy W' row) (hne : some B ≠ row) : At8 W' B r := (hg.block B h.lt hne).trans h
theorem At8.alloc {W : World} {B : Nat} {r : Nat → Nat} (h : At8 W B r) (o : Obj) : At8 (W.alloc o) B r := h.kept (World.grownBy_alloc W o none) (by simp)
theorem At8.below {W W' : World} {B : Nat} {r : Nat → Nat} (h : At8 W B r) (hB : Below W.heap.size W W') : At8 W' B r := (hB.block B h.lt).trans h
theorem At8.set {W : World} {B : Nat} {r : Nat → Nat} (h : At8 W B r) (i v : Nat) (hi : i < 8) : At8 (W.setCell ⟨B, i, none⟩ (.int .u64 v)) B (upd r i v) := by
  obtain ⟨hlt, hk⟩ := Array.getElem?_eq_some_iff.1 h
  show (W.heap.modify B _)[B]? = _
  rw [Array.getElem?_eq_getElem (by rw [Array.size_modify]; exact hlt), Array.getElem_modify_self, hk]
  have : i = 0 ∨ i = 1 ∨ i = 2 ∨ i = 3 ∨ i = 4 ∨ i = 5 ∨ i = 6 ∨ i = 7 := by omega
  rcases this with rfl | rfl | rfl | rfl | rfl | rfl | rfl | rfl <;> simp [upd]
theorem At8.own {β : Type} (B : Nat) (f : β → Nat → Nat) : Own (fun s W => At8 W B (f s)) := fun s X Y row hs hg hr =>
  hs.kept hg (fun e' => by obtain ⟨o, ho, hc⟩ := hr B e'.symm; rw [show X.heap[B]? = _ from hs] at ho; cases ho; cases hc)
theorem At8.other {W : World} {B B' : Nat} {r : Nat → Nat} (h : At8 W B r) (hne : B ≠ B') (i : Nat) (u : Value) : At8 (W.setCell ⟨B', i, none⟩ u) B r :=
  h.kept (grownBy_setCellAt W B' i u) (fun e => hne (by cases e; rfl))
def Zr : Nat → Nat := fun _ => 0
def Digs (d : Nat → Nat) : Prop := ∀ i, d i < 4294967296
theorem At8.new (W : World) (r : Nat → Nat) : At8 (W.alloc (.cells #[.int .u64 (r 0), .int .u64 (r 1), .int .u64 (r 2), .int .u64 (r 3), .int .u64 (r 4), .int .u64 (r 5), .int .u64 (r 6), .int .u64 (r 7)] 73)) W.heap.size r := World.alloc_heap_new W _
theorem At8.drewN {W : World} {B : Nat} {r : Nat → Nat} (h : At8 W B r) (n : Nat) : At8 (W.drewN n) B r := h
theorem below_drewN {n : Nat} {w W : World} (h : Below n w W) (k : Nat) : Below n w (W.drewN k) := ⟨h.os, h.tape, h.output, h.size, h.block⟩
/-- The number of the lowest k digits by B. -/
def nm (B : Nat) (d : Nat → Nat) : Nat → Nat
  | 0 => 0
  | k + 1 => nm B d k + d k * B ^ k

theorem nm_congr {B : Nat} {d e : Nat → Nat} : ∀ k, (∀ i, i < k → d i = e i) → nm B d k = nm B e k := by
  intro k
  induction k with
  | zero => exact fun _ => rfl
  | succ k ih => intro h; rw [nm, nm, ih (fun i hi => h i (by omega)), h k (by omega)]
theorem nm_upd_ge {B : Nat} (d : Nat → Nat) {k i : Nat} (v : Nat) (h : k ≤ i) : nm B (upd d i v) k = nm B d k :=
  nm_congr k (fun j hj => by unfold upd; rw [if_neg (by omega)])
theorem nm_lt {B : Nat} {d : Nat → Nat} (k : Nat) (h : ∀ i, i < k → d i < B) : nm B d k < B ^ k := by
  induction k with
  | zero => simp [nm]
  | succ k ih =>
    have h1 := ih (fun i hi => h i (by omega))
    have h2 := h k (by omega)
    rw [nm, Nat.pow_succ]
    have h3 : (d k + 1) * B ^ k ≤ B * B ^ k := Nat.mul_le_mul_right _ h2
    rw [Nat.add_mul, Nat.one_mul] at h3
    rw [Nat.mul_comm (B ^ k) B]
    omega
theorem nm_zero {B : Nat} (k : Nat) : nm B (fun _ => 0) k = 0 := by
  induction k with
  | zero => rfl
  | succ k ih => rw [nm, ih]; simp

/-- The number of eight digits. -/
def dval (d : Nat → Nat) : Nat := nm 4294967296 d 8
theorem zr_digs : Digs Zr := fun _ => by simp [Zr]
/-- Block B holds sixteen words. -/
def At16 (W : World) (B : Nat) (r : Nat → Nat) : Prop := W.heap[B]? = some (.cells #[.int .u64 (r 0), .int .u64 (r 1), .int .u64 (r 2), .int .u64 (r 3), .int .u64 (r 4), .int .u64 (r 5), .int .u64 (r 6), .int .u64 (r 7), .int .u64 (r 8), .int .u64 (r 9), .int .u64 (r 10), .int .u64 (r 11), .int .u64 (r 12), .int .u64 (r 13), .int .u64 (r 14), .int .u64 (r 15)] 71 (0, 0))

theorem At16.lt {W : World} {B : Nat} {r : Nat → Nat} (h : At16 W B r) : B < W.heap.size := (Array.getElem?_eq_some_iff.1 h).1
theorem At16.cell {W : World} {B : Nat} {r : Nat → Nat} (h : At16 W B r) (i : Nat) (hi : i < 16) : W.cell? ⟨B, i, none⟩ = some (.int .u64 (r i)) := by
  have : i = 0 ∨ i = 1 ∨ i = 2 ∨ i = 3 ∨ i = 4 ∨ i = 5 ∨ i = 6 ∨ i = 7 ∨ i = 8 ∨ i = 9 ∨ i = 10 ∨ i = 11 ∨ i = 12 ∨ i = 13 ∨ i = 14 ∨ i = 15 := by omega
  rcases this with rfl | rfl | rfl | rfl | rfl | rfl | rfl | rfl | rfl | rfl | rfl | rfl | rfl | rfl | rfl | rfl <;> simp [World.cell?, show W.heap[B]? = _ from h]
theorem At16.frozen {W : World} {B : Nat} {r : Nat → Nat} (h : At16 W B r) (i : Nat) : W.frozen? ⟨B, i, none⟩ = false := by simp [World.frozen?, show W.heap[B]? = _ from h]
theorem At16.kept {W W' : World} {row : Option Nat} {B : Nat} {r : Nat → Nat} (h : At16 W B r) (hg : W.grownBy W' row) (hne : some B ≠ row) : At16 W' B r := (hg.block B h.lt hne).trans h
theorem At16.alloc {W : World} {B : Nat} {r : Nat → Nat} (h : At16 W B r) (o : Obj) : At16 (W.alloc o) B r := h.kept (World.grownBy_alloc W o none) (by simp)
theorem At16.below {W W' : World} {B : Nat} {r : Nat → Nat} (h : At16 W B r) (hB : Below W.heap.size W W') : At16 W' B r := (hB.block B h.lt).trans h
theorem At16.set {W : World} {B : Nat} {r : Nat → Nat} (h : At16 W B r) (i v : Nat) (hi : i < 16) : At16 (W.setCell ⟨B, i, none⟩ (.int .u64 v)) B (upd r i v) := by
  obtain ⟨hlt, hk⟩ := Array.getElem?_eq_some_iff.1 h
  show (W.heap.modify B _)[B]? = _
  rw [Array.getElem?_eq_getElem (by rw [Array.size_modify]; exact hlt), Array.getElem_modify_self, hk]
  have : i = 0 ∨ i = 1 ∨ i = 2 ∨ i = 3 ∨ i = 4 ∨ i = 5 ∨ i = 6 ∨ i = 7 ∨ i = 8 ∨ i = 9 ∨ i = 10 ∨ i = 11 ∨ i = 12 ∨ i = 13 ∨ i = 14 ∨ i = 15 := by omega
  rcases this with rfl | rfl | rfl | rfl | rfl | rfl | rfl | rfl | rfl | rfl | rfl | rfl | rfl | rfl | rfl | rfl <;> simp [upd]
theorem At16.other {W : World} {B B' : Nat} {r : Nat → Nat} (h : At16 W B r) (hne : B ≠ B') (i : Nat) (u : Value) : At16 (W.setCell ⟨B', i, none⟩ u) B r :=
  h.kept (grownBy_setCellAt W B' i u) (fun e => hne (by cases e; rfl))
theorem At16.new (W : World) (r : Nat → Nat) : At16 (W.alloc (.cells #[.int .u64 (r 0), .int .u64 (r 1), .int .u64 (r 2), .int .u64 (r 3), .int .u64 (r 4), .int .u64 (r 5), .int .u64 (r 6), .int .u64 (r 7), .int .u64 (r 8), .int .u64 (r 9), .int .u64 (r 10), .int .u64 (r 11), .int .u64 (r 12), .int .u64 (r 13), .int .u64 (r 14), .int .u64 (r 15)] 71)) W.heap.size r := World.alloc_heap_new W _
theorem At16.drewN {W : World} {B : Nat} {r : Nat → Nat} (h : At16 W B r) (n : Nat) : At16 (W.drewN n) B r := h

def tStep (a b : Nat → Nat) (i : Nat) (s : (Nat → Nat) × Nat) (k : Nat) : (Nat → Nat) × Nat := (upd s.1 (i + k) ((s.1 (i + k) + a i * b k + s.2) % 4294967296), (s.1 (i + k) + a i * b k + s.2) / 4294967296)
def tIn (a b : Nat → Nat) (i : Nat) (o : Nat → Nat) : Nat → (Nat → Nat) × Nat
  | 0 => (o, 0)
  | k + 1 => tStep a b i (tIn a b i o k) k
def tRow (a b : Nat → Nat) (i : Nat) (o : Nat → Nat) : Nat → Nat := if a i = 0 then o else upd (tIn a b i o 8).1 (i + 8) (tIn a b i o 8).2
def tOut (a b : Nat → Nat) : Nat → Nat → Nat
  | 0 => fun _ => 0
  | i + 1 => tRow a b i (tOut a b i)
def timesR (a b : Nat → Nat) : Nat → Nat := tOut a b 8

theorem prod_le {x y : Nat} (hx : x < 4294967296) (hy : y < 4294967296) : x * y ≤ 18446744065119617025 := Nat.mul_le_mul (Nat.le_of_lt_succ hx) (Nat.le_of_lt_succ hy)
theorem tIn_fine {a b o : Nat → Nat} {i : Nat} (ha : Digs a) (hb : Digs b) (ho : Digs o) : ∀ k, Digs (tIn a b i o k).1 ∧ (tIn a b i o k).2 < 4294967296 := by
  intro k
  induction k with
  | zero => exact ⟨ho, by simp [tIn]⟩
  | succ k ih =>
    obtain ⟨h1, h2⟩ := ih
    have p := prod_le (ha i) (hb k)
    have q := h1 (i + k)
    refine ⟨fun j => ?_, ?_⟩
    · show upd _ (i + k) _ j < _
      unfold upd
      split
      · omega
      · exact h1 j
    · show (_ + _ + _) / _ < _
      generalize a i * b k = z at *
      omega
theorem tOut_digs {a b : Nat → Nat} (ha : Digs a) (hb : Digs b) : ∀ i, Digs (tOut a b i) := by
  intro i
  induction i with
  | zero => exact fun _ => by simp [tOut]
  | succ i ih =>
    show Digs (tRow a b i (tOut a b i))
    unfold tRow
    split
    · exact ih
    · obtain ⟨h1, h2⟩ := tIn_fine (i := i) ha hb ih 8
      intro j
      unfold upd
      split
      · exact h2
      · exact h1 j

theorem tIn_ge (a b o : Nat → Nat) (i : Nat) : ∀ k j, i + k ≤ j → (tIn a b i o k).1 j = o j := by
  intro k
  induction k with
  | zero => exact fun _ _ => rfl
  | succ k ih =>
    intro j hj
    show upd _ (i + k) _ j = _
    unfold upd
    rw [if_neg (by omega)]
    exact ih j (by omega)
theorem tIn_val (a b o : Nat → Nat) (i : Nat) : ∀ k, nm 4294967296 (tIn a b i o k).1 (i + k) + (tIn a b i o k).2 * 4294967296 ^ (i + k) = nm 4294967296 o (i + k) + a i * 4294967296 ^ i * nm 4294967296 b k := by
  intro k
  induction k with
  | zero => simp [tIn, nm]
  | succ k ih =>
    have h := tIn_ge a b o i k (i + k) (Nat.le_refl _)
    show nm _ (upd (tIn a b i o k).1 (i + k) (((tIn a b i o k).1 (i + k) + a i * b k + (tIn a b i o k).2) % 4294967296)) (i + k + 1) + ((tIn a b i o k).1 (i + k) + a i * b k + (tIn a b i o k).2) / 4294967296 * 4294967296 ^ (i + k + 1) = nm 4294967296 o (i + k + 1) + _
    rw [nm, nm_upd_ge _ _ (Nat.le_refl _), nm, nm]
    rw [show upd (tIn a b i o k).1 (i + k) (((tIn a b i o k).1 (i + k) + a i * b k + (tIn a b i o k).2) % 4294967296) (i + k) = ((tIn a b i o k).1 (i + k) + a i * b k + (tIn a b i o k).2) % 4294967296 by simp [upd], h]
    generalize (tIn a b i o k).2 = c2 at *
    generalize nm 4294967296 (tIn a b i o k).1 (i + k) = X at *
    have e : (o (i + k) + a i * b k + c2) % 4294967296 * 4294967296 ^ (i + k) + (o (i + k) + a i * b k + c2) / 4294967296 * 4294967296 ^ (i + k + 1) = (o (i + k) + a i * b k + c2) * 4294967296 ^ (i + k) := by
      rw [Nat.pow_succ, Nat.mul_comm (4294967296 ^ (i + k)) 4294967296, ← Nat.mul_assoc, ← Nat.add_mul]
      congr 1
      omega
    have e2 : (o (i + k) + a i * b k + c2) * 4294967296 ^ (i + k) = o (i + k) * 4294967296 ^ (i + k) + a i * b k * 4294967296 ^ (i + k) + c2 * 4294967296 ^ (i + k) := by rw [Nat.add_mul, Nat.add_mul]
    have e3 : a i * 4294967296 ^ i * (nm 4294967296 b k + b k * 4294967296 ^ k) = a i * 4294967296 ^ i * nm 4294967296 b k + a i * b k * 4294967296 ^ (i + k) := by
      rw [Nat.mul_add, Nat.pow_add]
      congr 1
      simp only [Nat.mul_assoc, Nat.mul_left_comm]
    omega
theorem tRow_val {a b o : Nat → Nat} {i A C : Nat} (h1 : nm 4294967296 o (i + 8) = C) (h2 : ∀ j, i + 8 ≤ j → o j = 0) (hA : A = a i * 4294967296 ^ i * nm 4294967296 b 8) :
    nm 4294967296 (tRow a b i o) (i + 8 + 1) = C + A ∧ ∀ j, i + 8 + 1 ≤ j → tRow a b i o j = 0 := by
  have h3 := tIn_val a b o i 8
  have h4 := tIn_ge a b o i 8
  unfold tRow
  generalize tIn a b i o 8 = r at *
  split
  · rename_i h0
    refine ⟨?_, fun j hj => h2 j (by omega)⟩
    rw [nm, h1, h2 (i + 8) (Nat.le_refl _), hA, h0]
    simp
  · refine ⟨?_, fun j hj => ?_⟩
    · rw [nm, nm_upd_ge _ _ (Nat.le_refl _), show upd r.1 (i + 8) r.2 (i + 8) = r.2 by simp [upd], h3, h1, hA]
    · unfold upd
      rw [if_neg (by omega), h4 j (by omega), h2 j (by omega)]
theorem tOut_val (a b : Nat → Nat) : ∀ i, nm 4294967296 (tOut a b i) (i + 8) = nm 4294967296 a i * nm 4294967296 b 8 ∧ ∀ j, i + 8 ≤ j → tOut a b i j = 0 := by
  intro i
  induction i with
  | zero => exact ⟨(nm_zero _).trans (Nat.zero_mul _).symm, fun _ _ => rfl⟩
  | succ i ih =>
    have h := tRow_val (a := a) (b := b) ih.1 ih.2 rfl
    have e : nm 4294967296 a (i + 1) * nm 4294967296 b 8 = nm 4294967296 a i * nm 4294967296 b 8 + a i * 4294967296 ^ i * nm 4294967296 b 8 := by rw [nm, Nat.add_mul]
    rw [e, show i + 1 + 8 = i + 8 + 1 by omega]
    exact h
theorem timesR_val (a b : Nat → Nat) : nm 4294967296 (timesR a b) 16 = dval a * dval b := (tOut_val a b 8).1
theorem timesR_digs {a b : Nat → Nat} (ha : Digs a) (hb : Digs b) : Digs (timesR a b) := tOut_digs ha hb 8

/-- The blocks of times. -/
def Tb (N : Nat) (w : World) (a b o : Nat → Nat) (W : World) : Prop := At8 W N a ∧ At8 W (N + 1) b ∧ At16 W (N + 1 + 1) Zr ∧ At16 W (N + 1 + 1 + 1) o ∧ Below N w W
theorem tb_drewN {N : Nat} {w W : World} {a b o : Nat → Nat} (h : Tb N w a b o W) (n : Nat) : Tb N w a b o (W.drewN n) := ⟨h.1, h.2.1, h.2.2.1, h.2.2.2.1, below_drewN h.2.2.2.2 n⟩
theorem tb_set {N : Nat} {w W : World} {a b o : Nat → Nat} (h : Tb N w a b o W) (i v : Nat) (hi : i < 16) : Tb N w a b (upd o i v) (W.setCell ⟨N + 1 + 1 + 1, i, none⟩ (.int .u64 v)) :=
  ⟨h.1.other (by omega) _ _, h.2.1.other (by omega) _ _, h.2.2.1.other (by omega) _ _, h.2.2.2.1.set i v hi, h.2.2.2.2.setCell (p := ⟨N + 1 + 1 + 1, i, none⟩) (by show N ≤ N + 1 + 1 + 1; omega) _⟩
theorem tb_new (a b : Nat → Nat) (w : World) : Tb w.heap.size w a b Zr ((((w.alloc (.cells #[.int .u64 (a 0), .int .u64 (a 1), .int .u64 (a 2), .int .u64 (a 3), .int .u64 (a 4), .int .u64 (a 5), .int .u64 (a 6), .int .u64 (a 7)] 73)).alloc (.cells #[.int .u64 (b 0), .int .u64 (b 1), .int .u64 (b 2), .int .u64 (b 3), .int .u64 (b 4), .int .u64 (b 5), .int .u64 (b 6), .int .u64 (b 7)] 73)).alloc (.cells #[.int .u64 0, .int .u64 0, .int .u64 0, .int .u64 0, .int .u64 0, .int .u64 0, .int .u64 0, .int .u64 0, .int .u64 0, .int .u64 0, .int .u64 0, .int .u64 0, .int .u64 0, .int .u64 0, .int .u64 0, .int .u64 0] 71)).alloc (.cells #[.int .u64 0, .int .u64 0, .int .u64 0, .int .u64 0, .int .u64 0, .int .u64 0, .int .u64 0, .int .u64 0, .int .u64 0, .int .u64 0, .int .u64 0, .int .u64 0, .int .u64 0, .int .u64 0, .int .u64 0, .int .u64 0] 71)) := by
  refine ⟨(((At8.new w a).alloc _).alloc _).alloc _, ?_, ?_, ?_, ((((Below.refl _ w).alloc (Nat.le_refl _) _).alloc (by simp) _).alloc (by simp; omega) _).alloc (by simp; omega) _⟩
  · have h := At8.new (w.alloc (.cells #[.int .u64 (a 0), .int .u64 (a 1), .int .u64 (a 2), .int .u64 (a 3), .int .u64 (a 4), .int .u64 (a 5), .int .u64 (a 6), .int .u64 (a 7)] 73)) b
    rw [World.size_alloc] at h
    exact (h.alloc _).alloc _
  · have h := At16.new ((w.alloc (.cells #[.int .u64 (a 0), .int .u64 (a 1), .int .u64 (a 2), .int .u64 (a 3), .int .u64 (a 4), .int .u64 (a 5), .int .u64 (a 6), .int .u64 (a 7)] 73)).alloc (.cells #[.int .u64 (b 0), .int .u64 (b 1), .int .u64 (b 2), .int .u64 (b 3), .int .u64 (b 4), .int .u64 (b 5), .int .u64 (b 6), .int .u64 (b 7)] 73)) Zr
    rw [World.size_alloc, World.size_alloc] at h
    exact h.alloc _
  · have h := At16.new (((w.alloc (.cells #[.int .u64 (a 0), .int .u64 (a 1), .int .u64 (a 2), .int .u64 (a 3), .int .u64 (a 4), .int .u64 (a 5), .int .u64 (a 6), .int .u64 (a 7)] 73)).alloc (.cells #[.int .u64 (b 0), .int .u64 (b 1), .int .u64 (b 2), .int .u64 (b 3), .int .u64 (b 4), .int .u64 (b 5), .int .u64 (b 6), .int .u64 (b 7)] 73)).alloc (.cells #[.int .u64 0, .int .u64 0, .int .u64 0, .int .u64 0, .int .u64 0, .int .u64 0, .int .u64 0, .int .u64 0, .int .u64 0, .int .u64 0, .int .u64 0, .int .u64 0, .int .u64 0, .int .u64 0, .int .u64 0, .int .u64 0] 71)) Zr
    rw [World.size_alloc, World.size_alloc, World.size_alloc] at h
    exact h

set_option maxRecDepth 100000 in
set_option maxHeartbeats 4000000 in
theorem times_r (a b : Nat → Nat) (ha : Digs a) (hb : Digs b) (w : World) : Calls Tryz.prog 55 #[.agg #[.int .u64 (a 0), .int .u64 (a 1), .int .u64 (a 2), .int .u64 (a 3), .int .u64 (a 4), .int .u64 (a 5), .int .u64 (a 6), .int .u64 (a 7)], .agg #[.int .u64 (b 0), .int .u64 (b 1), .int .u64 (b 2), .int .u64 (b 3), .int .u64 (b 4), .int .u64 (b 5), .int .u64 (b 6), .int .u64 (b 7)]] w fun ee w' => ee = .returned (.agg #[.int .u64 (timesR a b 0), .int .u64 (timesR a b 1), .int .u64 (timesR a b 2), .int .u64 (timesR a b 3), .int .u64 (timesR a b 4), .int .u64 (timesR a b 5), .int .u64 (timesR a b 6), .int .u64 (timesR a b 7), .int .u64 (timesR a b 8), .int .u64 (timesR a b 9), .int .u64 (timesR a b 10), .int .u64 (timesR a b 11), .int .u64 (timesR a b 12), .int .u64 (timesR a b 13), .int .u64 (timesR a b 14), .int .u64 (timesR a b 15)]) ∧ Below w.heap.size w w' := by
  have hT := tb_new a b w
  go_enter Tryz.func55, Tryz.ntmps55
  go_wp2
  obtain ⟨V, hV⟩ : ∃ V, ((((w.alloc (.cells #[.int .u64 (a 0), .int .u64 (a 1), .int .u64 (a 2), .int .u64 (a 3), .int .u64 (a 4), .int .u64 (a 5), .int .u64 (a 6), .int .u64 (a 7)] 73)).alloc (.cells #[.int .u64 (b 0), .int .u64 (b 1), .int .u64 (b 2), .int .u64 (b 3), .int .u64 (b 4), .int .u64 (b 5), .int .u64 (b 6), .int .u64 (b 7)] 73)).alloc (.cells #[.int .u64 0, .int .u64 0, .int .u64 0, .int .u64 0, .int .u64 0, .int .u64 0, .int .u64 0, .int .u64 0, .int .u64 0, .int .u64 0, .int .u64 0, .int .u64 0, .int .u64 0, .int .u64 0, .int .u64 0, .int .u64 0] 71)).alloc (.cells #[.int .u64 0, .int .u64 0, .int .u64 0, .int .u64 0, .int .u64 0, .int .u64 0, .int .u64 0, .int .u64 0, .int .u64 0, .int .u64 0, .int .u64 0, .int .u64 0, .int .u64 0, .int .u64 0, .int .u64 0, .int .u64 0] 71)) = V := ⟨_, rfl⟩
  rw [hV] at hT ⊢
  clear hV
  obtain ⟨N, hN⟩ : ∃ N, w.heap.size = N := ⟨_, rfl⟩
  rw [hN] at hT ⊢
  go_loopw [6] (fun v6 wr => ∃ i : Nat, i ≤ 8 ∧ v6 = .int .i64 i ∧ Tb N w a b (tOut a b i) wr) (fun v6 _ => 8 - (intOf v6).toNat)
  case atStart => exact ⟨0, by omega, rfl, hT⟩
  case round =>
    clear hT
    obtain ⟨i, hi, rfl, hT⟩ := hrel
    by_cases hlt : i < 8
    · have hii : (i : Int) < 8 := by omega
      have ho := tOut_digs ha hb i
      have HE : Hid (tOut a b (i + 1) = tRow a b i (tOut a b i)) := Lib.hid rfl
      generalize hoo : tOut a b i = o at *
      clear hoo
      have ca := hT.1.cell i hlt
      have xi := ha i
      obtain ⟨x, hx⟩ : ∃ x, a i = x := ⟨_, rfl⟩
      rw [hx] at ca xi
      by_cases h0 : x = 0
      · subst h0
        have HX := Lib.hid hx
        clear hx
        go_wp2
        go_roundw
        case rel => exact ⟨i + 1, by omega, by go_num, by rw [HE.out, tRow, if_pos HX.out]; exact hT⟩
        case measure => simp [intOf]; omega
      · have HX := Lib.hid hx
        clear hx
        have hx1 : ((x : Int) == 0) = false := by rw [beq_eq_false_iff_ne]; omega
        go_wp2
        obtain ⟨wo, rfl⟩ : ∃ wo : World, wo = wr := ⟨_, rfl⟩
        go_loopw [7, 8] (fun v7 v8 wr => ∃ k : Nat, k ≤ 8 ∧ v8 = .int .i64 k ∧ v7 = .int .u64 (tIn a b i o k).2 ∧ Tb N w a b (tIn a b i o k).1 wr) (fun _ v8 _ => 8 - (intOf v8).toNat)
        case atStart => exact ⟨0, by omega, rfl, rfl, hT⟩
        case round =>
          clear hT ca
          obtain ⟨k, hk, rfl, rfl, hT⟩ := hrel
          by_cases hkt : k < 8
          · have hki : (k : Int) < 8 := by omega
            obtain ⟨h1, h2⟩ := tIn_fine (i := i) ha hb ho k
            have H1 : Hid ((tIn a b i o (k + 1)).1 = upd (tIn a b i o k).1 (i + k) (((tIn a b i o k).1 (i + k) + a i * b k + (tIn a b i o k).2) % 4294967296)) := Lib.hid rfl
            have H2 : Hid ((tIn a b i o (k + 1)).2 = ((tIn a b i o k).1 (i + k) + a i * b k + (tIn a b i o k).2) / 4294967296) := Lib.hid rfl
            generalize (tIn a b i o k).1 = q1 at *
            generalize (tIn a b i o k).2 = q2 at *
            have c0 := hT.2.2.2.1.cell (i + k) (by omega)
            have f0 := hT.2.2.2.1.frozen (i + k)
            have c1 := hT.1.cell i hlt
            have c2 := hT.2.1.cell k hkt
            have g0 := h1 (i + k)
            have g2 := hb k
            rw [HX.out] at c1 H1 H2
            obtain ⟨y, hy⟩ : ∃ y, b k = y := ⟨_, rfl⟩
            obtain ⟨u, hu⟩ : ∃ u, q1 (i + k) = u := ⟨_, rfl⟩
            rw [hy] at c2 g2 H1 H2
            rw [hu] at c0 g0 H1 H2
            clear hy hu h1 ho
            have m := prod_le xi g2
            have m0 : (0 : Int) ≤ (x : Int) * (y : Int) := Int.mul_nonneg (by omega) (by omega)
            have m1 : (x : Int) * (y : Int) ≤ 18446744065119617025 := by have := Int.ofNat_le.2 m; simpa using this
            have E : Hid (((u : Int) + (x : Int) * (y : Int) + (q2 : Int)) % 4294967296 = (((u + x * y + q2) % 4294967296 : Nat) : Int)) := Lib.hid (by simp)
            have F : Hid (((u : Int) + (x : Int) * (y : Int) + (q2 : Int)) / 4294967296 = (((u + x * y + q2) / 4294967296 : Nat) : Int)) := Lib.hid (by simp)
            clear m
            go_wp2
            go_quiet (fail)
            go_wp2
            go_roundw
            case rel => exact ⟨k + 1, by omega, by go_num, by rw [F.out, H2.out], by rw [E.out, H1.out]; exact tb_set (tb_drewN hT _) (i + k) _ (by omega)⟩
            case measure => simp [intOf]; omega
          · obtain rfl : k = 8 := by omega
            have HE2 : Hid (tOut a b (i + 1) = upd (tIn a b i o 8).1 (i + 8) (tIn a b i o 8).2) := Lib.hid (by rw [HE.out, tRow, if_neg (by rw [HX.out]; exact h0)])
            generalize (tIn a b i o 8).1 = q1 at *
            generalize (tIn a b i o 8).2 = q2 at *
            have c0 := hT.2.2.2.1.cell (i + 8) (by omega)
            have f0 := hT.2.2.2.1.frozen (i + 8)
            go_wp2
            go_roundw
            case rel => exact ⟨i + 1, by omega, by go_num, by rw [HE2.out]; exact tb_set hT (i + 8) _ (by omega)⟩
            case measure => simp [intOf]; omega
    · obtain rfl : i = 8 := by omega
      change Tb N w a b (timesR a b) wr at hT
      have c0 := hT.2.2.2.1.cell 0 (by omega)
      have c1 := hT.2.2.2.1.cell 1 (by omega)
      have c2 := hT.2.2.2.1.cell 2 (by omega)
      have c3 := hT.2.2.2.1.cell 3 (by omega)
      have c4 := hT.2.2.2.1.cell 4 (by omega)
      have c5 := hT.2.2.2.1.cell 5 (by omega)
      have c6 := hT.2.2.2.1.cell 6 (by omega)
      have c7 := hT.2.2.2.1.cell 7 (by omega)
      have c8 := hT.2.2.2.1.cell 8 (by omega)
      have c9 := hT.2.2.2.1.cell 9 (by omega)
      have c10 := hT.2.2.2.1.cell 10 (by omega)
      have c11 := hT.2.2.2.1.cell 11 (by omega)
      have c12 := hT.2.2.2.1.cell 12 (by omega)
      have c13 := hT.2.2.2.1.cell 13 (by omega)
      have c14 := hT.2.2.2.1.cell 14 (by omega)
      have c15 := hT.2.2.2.1.cell 15 (by omega)
      have z0 := hT.2.2.1.cell 0 (by omega)
      have zf0 := hT.2.2.1.frozen 0
      have z1 := hT.2.2.1.cell 1 (by omega)
      have zf1 := hT.2.2.1.frozen 1
      have z2 := hT.2.2.1.cell 2 (by omega)
      have zf2 := hT.2.2.1.frozen 2
      have z3 := hT.2.2.1.cell 3 (by omega)
      have zf3 := hT.2.2.1.frozen 3
      have z4 := hT.2.2.1.cell 4 (by omega)
      have zf4 := hT.2.2.1.frozen 4
      have z5 := hT.2.2.1.cell 5 (by omega)
      have zf5 := hT.2.2.1.frozen 5
      have z6 := hT.2.2.1.cell 6 (by omega)
      have zf6 := hT.2.2.1.frozen 6
      have z7 := hT.2.2.1.cell 7 (by omega)
      have zf7 := hT.2.2.1.frozen 7
      have z8 := hT.2.2.1.cell 8 (by omega)
      have zf8 := hT.2.2.1.frozen 8
      have z9 := hT.2.2.1.cell 9 (by omega)
      have zf9 := hT.2.2.1.frozen 9
      have z10 := hT.2.2.1.cell 10 (by omega)
      have zf10 := hT.2.2.1.frozen 10
      have z11 := hT.2.2.1.cell 11 (by omega)
      have zf11 := hT.2.2.1.frozen 11
      have z12 := hT.2.2.1.cell 12 (by omega)
      have zf12 := hT.2.2.1.frozen 12
      have z13 := hT.2.2.1.cell 13 (by omega)
      have zf13 := hT.2.2.1.frozen 13
      have z14 := hT.2.2.1.cell 14 (by omega)
      have zf14 := hT.2.2.1.frozen 14
      have z15 := hT.2.2.1.cell 15 (by omega)
      have zf15 := hT.2.2.1.frozen 15
      have hNN : N ≤ N + 1 + 1 := by omega
      go_wp2
      refine bodyPost_ret (v := .agg #[.int .u64 (timesR a b 0), .int .u64 (timesR a b 1), .int .u64 (timesR a b 2), .int .u64 (timesR a b 3), .int .u64 (timesR a b 4), .int .u64 (timesR a b 5), .int .u64 (timesR a b 6), .int .u64 (timesR a b 7), .int .u64 (timesR a b 8), .int .u64 (timesR a b 9), .int .u64 (timesR a b 10), .int .u64 (timesR a b 11), .int .u64 (timesR a b 12), .int .u64 (timesR a b 13), .int .u64 (timesR a b 14), .int .u64 (timesR a b 15)]) (by simp [results, Tryz.results55, go_sem, z0, z1, z2, z3, z4, z5, z6, z7, z8, z9, z10, z11, z12, z13, z14, z15]) rfl ⟨rfl, ?_⟩
      rw [hN]
      exact ((((((((((((((((hT.2.2.2.2.setCell (p := ⟨N + 1 + 1, 0, none⟩) hNN _).setCell (p := ⟨N + 1 + 1, 1, none⟩) hNN _).setCell (p := ⟨N + 1 + 1, 2, none⟩) hNN _).setCell (p := ⟨N + 1 + 1, 3, none⟩) hNN _).setCell (p := ⟨N + 1 + 1, 4, none⟩) hNN _).setCell (p := ⟨N + 1 + 1, 5, none⟩) hNN _).setCell (p := ⟨N + 1 + 1, 6, none⟩) hNN _).setCell (p := ⟨N + 1 + 1, 7, none⟩) hNN _).setCell (p := ⟨N + 1 + 1, 8, none⟩) hNN _).setCell (p := ⟨N + 1 + 1, 9, none⟩) hNN _).setCell (p := ⟨N + 1 + 1, 10, none⟩) hNN _).setCell (p := ⟨N + 1 + 1, 11, none⟩) hNN _).setCell (p := ⟨N + 1 + 1, 12, none⟩) hNN _).setCell (p := ⟨N + 1 + 1, 13, none⟩) hNN _).setCell (p := ⟨N + 1 + 1, 14, none⟩) hNN _).setCell (p := ⟨N + 1 + 1, 15, none⟩) hNN _)

end Go.Proofs.YtcmfgabhgodlaaaGreatDoor

/- The document's own Mul. -/
namespace Go.Proofs.YtcmfgabhgodlaaaGreatDoor
open Go Go.RowKit
set_option linter.unusedSimpArgs false
set_option linter.unusedVariables false

def D16 (d0 d1 d2 d3 d4 d5 d6 d7 d8 d9 d10 d11 d12 d13 d14 d15 : Nat) : Value := .agg ⟨[u d0, u d1, u d2, u d3, u d4, u d5, u d6, u d7, u d8, u d9, u d10, u d11, u d12, u d13, u d14, u d15]⟩
theorem rsize_raw1 (x y e0 e1 e2 e3 e4 e5 e6 e7 : Nat) (p q : Bool) : runA Tryz.prog 56 #[wv x] [t] [(47, rt (bb (p))), (58, rt (tp [wv y, bb (q)])), (62, rt (D8 e0 e1 e2 e3 e4 e5 e6 e7))] =
    some (rt (D8 e0 e1 e2 e3 e4 e5 e6 e7), [PureX Tryz.prog 47 #[wv x] (rt (bb (p))), (p) = true, PureX Tryz.prog 58 #[wv x] (rt (tp [wv y, bb (q)])), PureX Tryz.prog 62 #[wv y] (rt (D8 e0 e1 e2 e3 e4 e5 e6 e7))]) := by kernel_rfl
theorem rsize_raw2 (x e0 e1 e2 e3 e4 e5 e6 e7 : Nat) (p : Bool) : runA Tryz.prog 56 #[wv x] [f] [(47, rt (bb (p))), (62, rt (D8 e0 e1 e2 e3 e4 e5 e6 e7))] =
    some (rt (D8 e0 e1 e2 e3 e4 e5 e6 e7), [PureX Tryz.prog 47 #[wv x] (rt (bb (p))), (p) = false, PureX Tryz.prog 62 #[wv x] (rt (D8 e0 e1 e2 e3 e4 e5 e6 e7))]) := by kernel_rfl
theorem rmul_raws8 (x y z e0 e1 e2 e3 e4 e5 e6 e7 f0 f1 f2 f3 f4 f5 f6 f7 d0 d1 d2 d3 d4 d5 d6 d7 d8 d9 d10 d11 d12 d13 d14 d15 : Nat) (p q r : Bool) : runA Tryz.prog 38 #[wv x, wv y] [n, n, n, n, n, n, n, f, n, n, n, n, n, f, n, n, n, n, n, f, n, n, n, n, n, f, n, n, n, n, n, f, n, n, n, n, n, f, n, n, n, n, n, f, n, n, n, n, n, t, f, n] [(56, rt (D8 e0 e1 e2 e3 e4 e5 e6 e7)), (56, rt (D8 f0 f1 f2 f3 f4 f5 f6 f7)), (55, rt (D16 d0 d1 d2 d3 d4 d5 d6 d7 d8 d9 d10 d11 d12 d13 d14 d15)), (57, rt (wv z)), (47, rt (bb (p))), (47, rt (bb (q))), (47, rt (bb (r)))] =
    some (rt (tp [wv z, bb (r)]), [PureX Tryz.prog 56 #[wv x] (rt (D8 e0 e1 e2 e3 e4 e5 e6 e7)), PureX Tryz.prog 56 #[wv y] (rt (D8 f0 f1 f2 f3 f4 f5 f6 f7)), PureX Tryz.prog 55 #[D8 e0 e1 e2 e3 e4 e5 e6 e7, D8 f0 f1 f2 f3 f4 f5 f6 f7] (rt (D16 d0 d1 d2 d3 d4 d5 d6 d7 d8 d9 d10 d11 d12 d13 d14 d15)), (decide (Int.ofNat 0 < Int.ofNat d8)) = false, (decide (Int.ofNat 0 < Int.ofNat d9)) = false, (decide (Int.ofNat 0 < Int.ofNat d10)) = false, (decide (Int.ofNat 0 < Int.ofNat d11)) = false, (decide (Int.ofNat 0 < Int.ofNat d12)) = false, (decide (Int.ofNat 0 < Int.ofNat d13)) = false, (decide (Int.ofNat 0 < Int.ofNat d14)) = false, PureX Tryz.prog 57 #[D8 d0 d1 d2 d3 d4 d5 d6 d7] (rt (wv z)), PureX Tryz.prog 47 #[wv x] (rt (bb (p))), PureX Tryz.prog 47 #[wv y] (rt (bb (q))), (p == q) = true, (decide (Int.ofNat 0 < Int.ofNat d15)) = false, PureX Tryz.prog 47 #[wv z] (rt (bb (r)))]) := by kernel_rfl
theorem rmul_rawd8 (x y z zz e0 e1 e2 e3 e4 e5 e6 e7 f0 f1 f2 f3 f4 f5 f6 f7 d0 d1 d2 d3 d4 d5 d6 d7 d8 d9 d10 d11 d12 d13 d14 d15 : Nat) (p q r s : Bool) : runA Tryz.prog 38 #[wv x, wv y] [n, n, n, n, n, n, n, f, n, n, n, n, n, f, n, n, n, n, n, f, n, n, n, n, n, f, n, n, n, n, n, f, n, n, n, n, n, f, n, n, n, n, n, f, n, n, n, n, n, f, f, n, n, n, t, n, n, n] [(56, rt (D8 e0 e1 e2 e3 e4 e5 e6 e7)), (56, rt (D8 f0 f1 f2 f3 f4 f5 f6 f7)), (55, rt (D16 d0 d1 d2 d3 d4 d5 d6 d7 d8 d9 d10 d11 d12 d13 d14 d15)), (57, rt (wv z)), (47, rt (bb (p))), (47, rt (bb (q))), (58, rt (tp [wv zz, bb (r)])), (47, rt (bb (s)))] =
    some (rt (tp [wv zz, bb (!(s))]), [PureX Tryz.prog 56 #[wv x] (rt (D8 e0 e1 e2 e3 e4 e5 e6 e7)), PureX Tryz.prog 56 #[wv y] (rt (D8 f0 f1 f2 f3 f4 f5 f6 f7)), PureX Tryz.prog 55 #[D8 e0 e1 e2 e3 e4 e5 e6 e7, D8 f0 f1 f2 f3 f4 f5 f6 f7] (rt (D16 d0 d1 d2 d3 d4 d5 d6 d7 d8 d9 d10 d11 d12 d13 d14 d15)), (decide (Int.ofNat 0 < Int.ofNat d8)) = false, (decide (Int.ofNat 0 < Int.ofNat d9)) = false, (decide (Int.ofNat 0 < Int.ofNat d10)) = false, (decide (Int.ofNat 0 < Int.ofNat d11)) = false, (decide (Int.ofNat 0 < Int.ofNat d12)) = false, (decide (Int.ofNat 0 < Int.ofNat d13)) = false, (decide (Int.ofNat 0 < Int.ofNat d14)) = false, PureX Tryz.prog 57 #[D8 d0 d1 d2 d3 d4 d5 d6 d7] (rt (wv z)), PureX Tryz.prog 47 #[wv x] (rt (bb (p))), PureX Tryz.prog 47 #[wv y] (rt (bb (q))), (p == q) = false, PureX Tryz.prog 58 #[wv z] (rt (tp [wv zz, bb (r)])), (decide (Int.ofNat 0 < Int.ofNat d15)) = false, (!(eqv z 0)) = true, PureX Tryz.prog 47 #[wv zz] (rt (bb (s)))]) := by kernel_rfl
theorem rmul_rawz (x y z zz e0 e1 e2 e3 e4 e5 e6 e7 f0 f1 f2 f3 f4 f5 f6 f7 d0 d1 d2 d3 d4 d5 d6 d7 d8 d9 d10 d11 d12 d13 d14 d15 : Nat) (p q r s : Bool) : runA Tryz.prog 38 #[wv x, wv y] [n, n, n, n, n, n, n, f, n, n, n, n, n, f, n, n, n, n, n, f, n, n, n, n, n, f, n, n, n, n, n, f, n, n, n, n, n, f, n, n, n, n, n, f, n, n, n, n, n, f, f, n, n, n, f, n, n, n] [(56, rt (D8 e0 e1 e2 e3 e4 e5 e6 e7)), (56, rt (D8 f0 f1 f2 f3 f4 f5 f6 f7)), (55, rt (D16 d0 d1 d2 d3 d4 d5 d6 d7 d8 d9 d10 d11 d12 d13 d14 d15)), (57, rt (wv z)), (47, rt (bb (p))), (47, rt (bb (q))), (58, rt (tp [wv zz, bb (r)])), (47, rt (bb (s)))] =
    some (rt (tp [wv zz, bb (false)]), [PureX Tryz.prog 56 #[wv x] (rt (D8 e0 e1 e2 e3 e4 e5 e6 e7)), PureX Tryz.prog 56 #[wv y] (rt (D8 f0 f1 f2 f3 f4 f5 f6 f7)), PureX Tryz.prog 55 #[D8 e0 e1 e2 e3 e4 e5 e6 e7, D8 f0 f1 f2 f3 f4 f5 f6 f7] (rt (D16 d0 d1 d2 d3 d4 d5 d6 d7 d8 d9 d10 d11 d12 d13 d14 d15)), (decide (Int.ofNat 0 < Int.ofNat d8)) = false, (decide (Int.ofNat 0 < Int.ofNat d9)) = false, (decide (Int.ofNat 0 < Int.ofNat d10)) = false, (decide (Int.ofNat 0 < Int.ofNat d11)) = false, (decide (Int.ofNat 0 < Int.ofNat d12)) = false, (decide (Int.ofNat 0 < Int.ofNat d13)) = false, (decide (Int.ofNat 0 < Int.ofNat d14)) = false, PureX Tryz.prog 57 #[D8 d0 d1 d2 d3 d4 d5 d6 d7] (rt (wv z)), PureX Tryz.prog 47 #[wv x] (rt (bb (p))), PureX Tryz.prog 47 #[wv y] (rt (bb (q))), (p == q) = false, PureX Tryz.prog 58 #[wv z] (rt (tp [wv zz, bb (r)])), (decide (Int.ofNat 0 < Int.ofNat d15)) = false, (!(eqv z 0)) = false]) := by kernel_rfl
theorem rmul_raws0 (x y z e0 e1 e2 e3 e4 e5 e6 e7 f0 f1 f2 f3 f4 f5 f6 f7 d0 d1 d2 d3 d4 d5 d6 d7 d8 d9 d10 d11 d12 d13 d14 d15 : Nat) (p q : Bool) : runA Tryz.prog 38 #[wv x, wv y] [n, n, n, n, n, n, n, t, n, n, n, n, n, n, n, n, n, n, n, n, n, n, n, n, n, n, n, n, n, n, n, n, n, n, n, n, n, n, n, n, n, n, n, n, n, n, n, n, n, t, n, n] [(56, rt (D8 e0 e1 e2 e3 e4 e5 e6 e7)), (56, rt (D8 f0 f1 f2 f3 f4 f5 f6 f7)), (55, rt (D16 d0 d1 d2 d3 d4 d5 d6 d7 d8 d9 d10 d11 d12 d13 d14 d15)), (57, rt (wv z)), (47, rt (bb p)), (47, rt (bb q))] =
    some (rt (tp [wv z, bb true]), [PureX Tryz.prog 56 #[wv x] (rt (D8 e0 e1 e2 e3 e4 e5 e6 e7)), PureX Tryz.prog 56 #[wv y] (rt (D8 f0 f1 f2 f3 f4 f5 f6 f7)), PureX Tryz.prog 55 #[D8 e0 e1 e2 e3 e4 e5 e6 e7, D8 f0 f1 f2 f3 f4 f5 f6 f7] (rt (D16 d0 d1 d2 d3 d4 d5 d6 d7 d8 d9 d10 d11 d12 d13 d14 d15)), (decide (Int.ofNat 0 < Int.ofNat d8)) = true, PureX Tryz.prog 57 #[D8 d0 d1 d2 d3 d4 d5 d6 d7] (rt (wv z)), PureX Tryz.prog 47 #[wv x] (rt (bb p)), PureX Tryz.prog 47 #[wv y] (rt (bb q)), (p == q) = true]) := by kernel_rfl
theorem rmul_rawd0 (x y z zz e0 e1 e2 e3 e4 e5 e6 e7 f0 f1 f2 f3 f4 f5 f6 f7 d0 d1 d2 d3 d4 d5 d6 d7 d8 d9 d10 d11 d12 d13 d14 d15 : Nat) (p q r : Bool) : runA Tryz.prog 38 #[wv x, wv y] [n, n, n, n, n, n, n, t, n, n, n, n, n, n, n, n, n, n, n, n, n, n, n, n, n, n, n, n, n, n, n, n, n, n, n, n, n, n, n, n, n, n, n, n, n, n, n, n, n, f, n, n, n, n, n] [(56, rt (D8 e0 e1 e2 e3 e4 e5 e6 e7)), (56, rt (D8 f0 f1 f2 f3 f4 f5 f6 f7)), (55, rt (D16 d0 d1 d2 d3 d4 d5 d6 d7 d8 d9 d10 d11 d12 d13 d14 d15)), (57, rt (wv z)), (47, rt (bb (p))), (47, rt (bb (q))), (58, rt (tp [wv zz, bb (r)]))] =
    some (rt (tp [wv zz, bb (true)]), [PureX Tryz.prog 56 #[wv x] (rt (D8 e0 e1 e2 e3 e4 e5 e6 e7)), PureX Tryz.prog 56 #[wv y] (rt (D8 f0 f1 f2 f3 f4 f5 f6 f7)), PureX Tryz.prog 55 #[D8 e0 e1 e2 e3 e4 e5 e6 e7, D8 f0 f1 f2 f3 f4 f5 f6 f7] (rt (D16 d0 d1 d2 d3 d4 d5 d6 d7 d8 d9 d10 d11 d12 d13 d14 d15)), (decide (Int.ofNat 0 < Int.ofNat d8)) = true, PureX Tryz.prog 57 #[D8 d0 d1 d2 d3 d4 d5 d6 d7] (rt (wv z)), PureX Tryz.prog 47 #[wv x] (rt (bb (p))), PureX Tryz.prog 47 #[wv y] (rt (bb (q))), (p == q) = false, PureX Tryz.prog 58 #[wv z] (rt (tp [wv zz, bb (r)]))]) := by kernel_rfl
theorem rmul_raws1 (x y z e0 e1 e2 e3 e4 e5 e6 e7 f0 f1 f2 f3 f4 f5 f6 f7 d0 d1 d2 d3 d4 d5 d6 d7 d8 d9 d10 d11 d12 d13 d14 d15 : Nat) (p q : Bool) : runA Tryz.prog 38 #[wv x, wv y] [n, n, n, n, n, n, n, f, n, n, n, n, n, t, n, n, n, n, n, n, n, n, n, n, n, n, n, n, n, n, n, n, n, n, n, n, n, n, n, n, n, n, n, n, n, n, n, n, n, t, n, n] [(56, rt (D8 e0 e1 e2 e3 e4 e5 e6 e7)), (56, rt (D8 f0 f1 f2 f3 f4 f5 f6 f7)), (55, rt (D16 d0 d1 d2 d3 d4 d5 d6 d7 d8 d9 d10 d11 d12 d13 d14 d15)), (57, rt (wv z)), (47, rt (bb p)), (47, rt (bb q))] =
    some (rt (tp [wv z, bb true]), [PureX Tryz.prog 56 #[wv x] (rt (D8 e0 e1 e2 e3 e4 e5 e6 e7)), PureX Tryz.prog 56 #[wv y] (rt (D8 f0 f1 f2 f3 f4 f5 f6 f7)), PureX Tryz.prog 55 #[D8 e0 e1 e2 e3 e4 e5 e6 e7, D8 f0 f1 f2 f3 f4 f5 f6 f7] (rt (D16 d0 d1 d2 d3 d4 d5 d6 d7 d8 d9 d10 d11 d12 d13 d14 d15)), (decide (Int.ofNat 0 < Int.ofNat d8)) = false, (decide (Int.ofNat 0 < Int.ofNat d9)) = true, PureX Tryz.prog 57 #[D8 d0 d1 d2 d3 d4 d5 d6 d7] (rt (wv z)), PureX Tryz.prog 47 #[wv x] (rt (bb p)), PureX Tryz.prog 47 #[wv y] (rt (bb q)), (p == q) = true]) := by kernel_rfl
theorem rmul_rawd1 (x y z zz e0 e1 e2 e3 e4 e5 e6 e7 f0 f1 f2 f3 f4 f5 f6 f7 d0 d1 d2 d3 d4 d5 d6 d7 d8 d9 d10 d11 d12 d13 d14 d15 : Nat) (p q r : Bool) : runA Tryz.prog 38 #[wv x, wv y] [n, n, n, n, n, n, n, f, n, n, n, n, n, t, n, n, n, n, n, n, n, n, n, n, n, n, n, n, n, n, n, n, n, n, n, n, n, n, n, n, n, n, n, n, n, n, n, n, n, f, n, n, n, n, n] [(56, rt (D8 e0 e1 e2 e3 e4 e5 e6 e7)), (56, rt (D8 f0 f1 f2 f3 f4 f5 f6 f7)), (55, rt (D16 d0 d1 d2 d3 d4 d5 d6 d7 d8 d9 d10 d11 d12 d13 d14 d15)), (57, rt (wv z)), (47, rt (bb (p))), (47, rt (bb (q))), (58, rt (tp [wv zz, bb (r)]))] =
    some (rt (tp [wv zz, bb (true)]), [PureX Tryz.prog 56 #[wv x] (rt (D8 e0 e1 e2 e3 e4 e5 e6 e7)), PureX Tryz.prog 56 #[wv y] (rt (D8 f0 f1 f2 f3 f4 f5 f6 f7)), PureX Tryz.prog 55 #[D8 e0 e1 e2 e3 e4 e5 e6 e7, D8 f0 f1 f2 f3 f4 f5 f6 f7] (rt (D16 d0 d1 d2 d3 d4 d5 d6 d7 d8 d9 d10 d11 d12 d13 d14 d15)), (decide (Int.ofNat 0 < Int.ofNat d8)) = false, (decide (Int.ofNat 0 < Int.ofNat d9)) = true, PureX Tryz.prog 57 #[D8 d0 d1 d2 d3 d4 d5 d6 d7] (rt (wv z)), PureX Tryz.prog 47 #[wv x] (rt (bb (p))), PureX Tryz.prog 47 #[wv y] (rt (bb (q))), (p == q) = false, PureX Tryz.prog 58 #[wv z] (rt (tp [wv zz, bb (r)]))]) := by kernel_rfl
theorem rmul_raws2 (x y z e0 e1 e2 e3 e4 e5 e6 e7 f0 f1 f2 f3 f4 f5 f6 f7 d0 d1 d2 d3 d4 d5 d6 d7 d8 d9 d10 d11 d12 d13 d14 d15 : Nat) (p q : Bool) : runA Tryz.prog 38 #[wv x, wv y] [n, n, n, n, n, n, n, f, n, n, n, n, n, f, n, n, n, n, n, t, n, n, n, n, n, n, n, n, n, n, n, n, n, n, n, n, n, n, n, n, n, n, n, n, n, n, n, n, n, t, n, n] [(56, rt (D8 e0 e1 e2 e3 e4 e5 e6 e7)), (56, rt (D8 f0 f1 f2 f3 f4 f5 f6 f7)), (55, rt (D16 d0 d1 d2 d3 d4 d5 d6 d7 d8 d9 d10 d11 d12 d13 d14 d15)), (57, rt (wv z)), (47, rt (bb p)), (47, rt (bb q))] =
    some (rt (tp [wv z, bb true]), [PureX Tryz.prog 56 #[wv x] (rt (D8 e0 e1 e2 e3 e4 e5 e6 e7)), PureX Tryz.prog 56 #[wv y] (rt (D8 f0 f1 f2 f3 f4 f5 f6 f7)), PureX Tryz.prog 55 #[D8 e0 e1 e2 e3 e4 e5 e6 e7, D8 f0 f1 f2 f3 f4 f5 f6 f7] (rt (D16 d0 d1 d2 d3 d4 d5 d6 d7 d8 d9 d10 d11 d12 d13 d14 d15)), (decide (Int.ofNat 0 < Int.ofNat d8)) = false, (decide (Int.ofNat 0 < Int.ofNat d9)) = false, (decide (Int.ofNat 0 < Int.ofNat d10)) = true, PureX Tryz.prog 57 #[D8 d0 d1 d2 d3 d4 d5 d6 d7] (rt (wv z)), PureX Tryz.prog 47 #[wv x] (rt (bb p)), PureX Tryz.prog 47 #[wv y] (rt (bb q)), (p == q) = true]) := by kernel_rfl
theorem rmul_rawd2 (x y z zz e0 e1 e2 e3 e4 e5 e6 e7 f0 f1 f2 f3 f4 f5 f6 f7 d0 d1 d2 d3 d4 d5 d6 d7 d8 d9 d10 d11 d12 d13 d14 d15 : Nat) (p q r : Bool) : runA Tryz.prog 38 #[wv x, wv y] [n, n, n, n, n, n, n, f, n, n, n, n, n, f, n, n, n, n, n, t, n, n, n, n, n, n, n, n, n, n, n, n, n, n, n, n, n, n, n, n, n, n, n, n, n, n, n, n, n, f, n, n, n, n, n] [(56, rt (D8 e0 e1 e2 e3 e4 e5 e6 e7)), (56, rt (D8 f0 f1 f2 f3 f4 f5 f6 f7)), (55, rt (D16 d0 d1 d2 d3 d4 d5 d6 d7 d8 d9 d10 d11 d12 d13 d14 d15)), (57, rt (wv z)), (47, rt (bb (p))), (47, rt (bb (q))), (58, rt (tp [wv zz, bb (r)]))] =
    some (rt (tp [wv zz, bb (true)]), [PureX Tryz.prog 56 #[wv x] (rt (D8 e0 e1 e2 e3 e4 e5 e6 e7)), PureX Tryz.prog 56 #[wv y] (rt (D8 f0 f1 f2 f3 f4 f5 f6 f7)), PureX Tryz.prog 55 #[D8 e0 e1 e2 e3 e4 e5 e6 e7, D8 f0 f1 f2 f3 f4 f5 f6 f7] (rt (D16 d0 d1 d2 d3 d4 d5 d6 d7 d8 d9 d10 d11 d12 d13 d14 d15)), (decide (Int.ofNat 0 < Int.ofNat d8)) = false, (decide (Int.ofNat 0 < Int.ofNat d9)) = false, (decide (Int.ofNat 0 < Int.ofNat d10)) = true, PureX Tryz.prog 57 #[D8 d0 d1 d2 d3 d4 d5 d6 d7] (rt (wv z)), PureX Tryz.prog 47 #[wv x] (rt (bb (p))), PureX Tryz.prog 47 #[wv y] (rt (bb (q))), (p == q) = false, PureX Tryz.prog 58 #[wv z] (rt (tp [wv zz, bb (r)]))]) := by kernel_rfl
theorem rmul_raws3 (x y z e0 e1 e2 e3 e4 e5 e6 e7 f0 f1 f2 f3 f4 f5 f6 f7 d0 d1 d2 d3 d4 d5 d6 d7 d8 d9 d10 d11 d12 d13 d14 d15 : Nat) (p q : Bool) : runA Tryz.prog 38 #[wv x, wv y] [n, n, n, n, n, n, n, f, n, n, n, n, n, f, n, n, n, n, n, f, n, n, n, n, n, t, n, n, n, n, n, n, n, n, n, n, n, n, n, n, n, n, n, n, n, n, n, n, n, t, n, n] [(56, rt (D8 e0 e1 e2 e3 e4 e5 e6 e7)), (56, rt (D8 f0 f1 f2 f3 f4 f5 f6 f7)), (55, rt (D16 d0 d1 d2 d3 d4 d5 d6 d7 d8 d9 d10 d11 d12 d13 d14 d15)), (57, rt (wv z)), (47, rt (bb p)), (47, rt (bb q))] =
    some (rt (tp [wv z, bb true]), [PureX Tryz.prog 56 #[wv x] (rt (D8 e0 e1 e2 e3 e4 e5 e6 e7)), PureX Tryz.prog 56 #[wv y] (rt (D8 f0 f1 f2 f3 f4 f5 f6 f7)), PureX Tryz.prog 55 #[D8 e0 e1 e2 e3 e4 e5 e6 e7, D8 f0 f1 f2 f3 f4 f5 f6 f7] (rt (D16 d0 d1 d2 d3 d4 d5 d6 d7 d8 d9 d10 d11 d12 d13 d14 d15)), (decide (Int.ofNat 0 < Int.ofNat d8)) = false, (decide (Int.ofNat 0 < Int.ofNat d9)) = false, (decide (Int.ofNat 0 < Int.ofNat d10)) = false, (decide (Int.ofNat 0 < Int.ofNat d11)) = true, PureX Tryz.prog 57 #[D8 d0 d1 d2 d3 d4 d5 d6 d7] (rt (wv z)), PureX Tryz.prog 47 #[wv x] (rt (bb p)), PureX Tryz.prog 47 #[wv y] (rt (bb q)), (p == q) = true]) := by kernel_rfl
theorem rmul_rawd3 (x y z zz e0 e1 e2 e3 e4 e5 e6 e7 f0 f1 f2 f3 f4 f5 f6 f7 d0 d1 d2 d3 d4 d5 d6 d7 d8 d9 d10 d11 d12 d13 d14 d15 : Nat) (p q r : Bool) : runA Tryz.prog 38 #[wv x, wv y] [n, n, n, n, n, n, n, f, n, n, n, n, n, f, n, n, n, n, n, f, n, n, n, n, n, t, n, n, n, n, n, n, n, n, n, n, n, n, n, n, n, n, n, n, n, n, n, n, n, f, n, n, n, n, n] [(56, rt (D8 e0 e1 e2 e3 e4 e5 e6 e7)), (56, rt (D8 f0 f1 f2 f3 f4 f5 f6 f7)), (55, rt (D16 d0 d1 d2 d3 d4 d5 d6 d7 d8 d9 d10 d11 d12 d13 d14 d15)), (57, rt (wv z)), (47, rt (bb (p))), (47, rt (bb (q))), (58, rt (tp [wv zz, bb (r)]))] =
    some (rt (tp [wv zz, bb (true)]), [PureX Tryz.prog 56 #[wv x] (rt (D8 e0 e1 e2 e3 e4 e5 e6 e7)), PureX Tryz.prog 56 #[wv y] (rt (D8 f0 f1 f2 f3 f4 f5 f6 f7)), PureX Tryz.prog 55 #[D8 e0 e1 e2 e3 e4 e5 e6 e7, D8 f0 f1 f2 f3 f4 f5 f6 f7] (rt (D16 d0 d1 d2 d3 d4 d5 d6 d7 d8 d9 d10 d11 d12 d13 d14 d15)), (decide (Int.ofNat 0 < Int.ofNat d8)) = false, (decide (Int.ofNat 0 < Int.ofNat d9)) = false, (decide (Int.ofNat 0 < Int.ofNat d10)) = false, (decide (Int.ofNat 0 < Int.ofNat d11)) = true, PureX Tryz.prog 57 #[D8 d0 d1 d2 d3 d4 d5 d6 d7] (rt (wv z)), PureX Tryz.prog 47 #[wv x] (rt (bb (p))), PureX Tryz.prog 47 #[wv y] (rt (bb (q))), (p == q) = false, PureX Tryz.prog 58 #[wv z] (rt (tp [wv zz, bb (r)]))]) := by kernel_rfl
theorem rmul_raws4 (x y z e0 e1 e2 e3 e4 e5 e6 e7 f0 f1 f2 f3 f4 f5 f6 f7 d0 d1 d2 d3 d4 d5 d6 d7 d8 d9 d10 d11 d12 d13 d14 d15 : Nat) (p q : Bool) : runA Tryz.prog 38 #[wv x, wv y] [n, n, n, n, n, n, n, f, n, n, n, n, n, f, n, n, n, n, n, f, n, n, n, n, n, f, n, n, n, n, n, t, n, n, n, n, n, n, n, n, n, n, n, n, n, n, n, n, n, t, n, n] [(56, rt (D8 e0 e1 e2 e3 e4 e5 e6 e7)), (56, rt (D8 f0 f1 f2 f3 f4 f5 f6 f7)), (55, rt (D16 d0 d1 d2 d3 d4 d5 d6 d7 d8 d9 d10 d11 d12 d13 d14 d15)), (57, rt (wv z)), (47, rt (bb p)), (47, rt (bb q))] =
    some (rt (tp [wv z, bb true]), [PureX Tryz.prog 56 #[wv x] (rt (D8 e0 e1 e2 e3 e4 e5 e6 e7)), PureX Tryz.prog 56 #[wv y] (rt (D8 f0 f1 f2 f3 f4 f5 f6 f7)), PureX Tryz.prog 55 #[D8 e0 e1 e2 e3 e4 e5 e6 e7, D8 f0 f1 f2 f3 f4 f5 f6 f7] (rt (D16 d0 d1 d2 d3 d4 d5 d6 d7 d8 d9 d10 d11 d12 d13 d14 d15)), (decide (Int.ofNat 0 < Int.ofNat d8)) = false, (decide (Int.ofNat 0 < Int.ofNat d9)) = false, (decide (Int.ofNat 0 < Int.ofNat d10)) = false, (decide (Int.ofNat 0 < Int.ofNat d11)) = false, (decide (Int.ofNat 0 < Int.ofNat d12)) = true, PureX Tryz.prog 57 #[D8 d0 d1 d2 d3 d4 d5 d6 d7] (rt (wv z)), PureX Tryz.prog 47 #[wv x] (rt (bb p)), PureX Tryz.prog 47 #[wv y] (rt (bb q)), (p == q) = true]) := by kernel_rfl
theorem rmul_rawd4 (x y z zz e0 e1 e2 e3 e4 e5 e6 e7 f0 f1 f2 f3 f4 f5 f6 f7 d0 d1 d2 d3 d4 d5 d6 d7 d8 d9 d10 d11 d12 d13 d14 d15 : Nat) (p q r : Bool) : runA Tryz.prog 38 #[wv x, wv y] [n, n, n, n, n, n, n, f, n, n, n, n, n, f, n, n, n, n, n, f, n, n, n, n, n, f, n, n, n, n, n, t, n, n, n, n, n, n, n, n, n, n, n, n, n, n, n, n, n, f, n, n, n, n, n] [(56, rt (D8 e0 e1 e2 e3 e4 e5 e6 e7)), (56, rt (D8 f0 f1 f2 f3 f4 f5 f6 f7)), (55, rt (D16 d0 d1 d2 d3 d4 d5 d6 d7 d8 d9 d10 d11 d12 d13 d14 d15)), (57, rt (wv z)), (47, rt (bb (p))), (47, rt (bb (q))), (58, rt (tp [wv zz, bb (r)]))] =
    some (rt (tp [wv zz, bb (true)]), [PureX Tryz.prog 56 #[wv x] (rt (D8 e0 e1 e2 e3 e4 e5 e6 e7)), PureX Tryz.prog 56 #[wv y] (rt (D8 f0 f1 f2 f3 f4 f5 f6 f7)), PureX Tryz.prog 55 #[D8 e0 e1 e2 e3 e4 e5 e6 e7, D8 f0 f1 f2 f3 f4 f5 f6 f7] (rt (D16 d0 d1 d2 d3 d4 d5 d6 d7 d8 d9 d10 d11 d12 d13 d14 d15)), (decide (Int.ofNat 0 < Int.ofNat d8)) = false, (decide (Int.ofNat 0 < Int.ofNat d9)) = false, (decide (Int.ofNat 0 < Int.ofNat d10)) = false, (decide (Int.ofNat 0 < Int.ofNat d11)) = false, (decide (Int.ofNat 0 < Int.ofNat d12)) = true, PureX Tryz.prog 57 #[D8 d0 d1 d2 d3 d4 d5 d6 d7] (rt (wv z)), PureX Tryz.prog 47 #[wv x] (rt (bb (p))), PureX Tryz.prog 47 #[wv y] (rt (bb (q))), (p == q) = false, PureX Tryz.prog 58 #[wv z] (rt (tp [wv zz, bb (r)]))]) := by kernel_rfl
theorem rmul_raws5 (x y z e0 e1 e2 e3 e4 e5 e6 e7 f0 f1 f2 f3 f4 f5 f6 f7 d0 d1 d2 d3 d4 d5 d6 d7 d8 d9 d10 d11 d12 d13 d14 d15 : Nat) (p q : Bool) : runA Tryz.prog 38 #[wv x, wv y] [n, n, n, n, n, n, n, f, n, n, n, n, n, f, n, n, n, n, n, f, n, n, n, n, n, f, n, n, n, n, n, f, n, n, n, n, n, t, n, n, n, n, n, n, n, n, n, n, n, t, n, n] [(56, rt (D8 e0 e1 e2 e3 e4 e5 e6 e7)), (56, rt (D8 f0 f1 f2 f3 f4 f5 f6 f7)), (55, rt (D16 d0 d1 d2 d3 d4 d5 d6 d7 d8 d9 d10 d11 d12 d13 d14 d15)), (57, rt (wv z)), (47, rt (bb p)), (47, rt (bb q))] =
    some (rt (tp [wv z, bb true]), [PureX Tryz.prog 56 #[wv x] (rt (D8 e0 e1 e2 e3 e4 e5 e6 e7)), PureX Tryz.prog 56 #[wv y] (rt (D8 f0 f1 f2 f3 f4 f5 f6 f7)), PureX Tryz.prog 55 #[D8 e0 e1 e2 e3 e4 e5 e6 e7, D8 f0 f1 f2 f3 f4 f5 f6 f7] (rt (D16 d0 d1 d2 d3 d4 d5 d6 d7 d8 d9 d10 d11 d12 d13 d14 d15)), (decide (Int.ofNat 0 < Int.ofNat d8)) = false, (decide (Int.ofNat 0 < Int.ofNat d9)) = false, (decide (Int.ofNat 0 < Int.ofNat d10)) = false, (decide (Int.ofNat 0 < Int.ofNat d11)) = false, (decide (Int.ofNat 0 < Int.ofNat d12)) = false, (decide (Int.ofNat 0 < Int.ofNat d13)) = true, PureX Tryz.prog 57 #[D8 d0 d1 d2 d3 d4 d5 d6 d7] (rt (wv z)), PureX Tryz.prog 47 #[wv x] (rt (bb p)), PureX Tryz.prog 47 #[wv y] (rt (bb q)), (p == q) = true]) := by kernel_rfl
theorem rmul_rawd5 (x y z zz e0 e1 e2 e3 e4 e5 e6 e7 f0 f1 f2 f3 f4 f5 f6 f7 d0 d1 d2 d3 d4 d5 d6 d7 d8 d9 d10 d11 d12 d13 d14 d15 : Nat) (p q r : Bool) : runA Tryz.prog 38 #[wv x, wv y] [n, n, n, n, n, n, n, f, n, n, n, n, n, f, n, n, n, n, n, f, n, n, n, n, n, f, n, n, n, n, n, f, n, n, n, n, n, t, n, n, n, n, n, n, n, n, n, n, n, f, n, n, n, n, n] [(56, rt (D8 e0 e1 e2 e3 e4 e5 e6 e7)), (56, rt (D8 f0 f1 f2 f3 f4 f5 f6 f7)), (55, rt (D16 d0 d1 d2 d3 d4 d5 d6 d7 d8 d9 d10 d11 d12 d13 d14 d15)), (57, rt (wv z)), (47, rt (bb (p))), (47, rt (bb (q))), (58, rt (tp [wv zz, bb (r)]))] =
    some (rt (tp [wv zz, bb (true)]), [PureX Tryz.prog 56 #[wv x] (rt (D8 e0 e1 e2 e3 e4 e5 e6 e7)), PureX Tryz.prog 56 #[wv y] (rt (D8 f0 f1 f2 f3 f4 f5 f6 f7)), PureX Tryz.prog 55 #[D8 e0 e1 e2 e3 e4 e5 e6 e7, D8 f0 f1 f2 f3 f4 f5 f6 f7] (rt (D16 d0 d1 d2 d3 d4 d5 d6 d7 d8 d9 d10 d11 d12 d13 d14 d15)), (decide (Int.ofNat 0 < Int.ofNat d8)) = false, (decide (Int.ofNat 0 < Int.ofNat d9)) = false, (decide (Int.ofNat 0 < Int.ofNat d10)) = false, (decide (Int.ofNat 0 < Int.ofNat d11)) = false, (decide (Int.ofNat 0 < Int.ofNat d12)) = false, (decide (Int.ofNat 0 < Int.ofNat d13)) = true, PureX Tryz.prog 57 #[D8 d0 d1 d2 d3 d4 d5 d6 d7] (rt (wv z)), PureX Tryz.prog 47 #[wv x] (rt (bb (p))), PureX Tryz.prog 47 #[wv y] (rt (bb (q))), (p == q) = false, PureX Tryz.prog 58 #[wv z] (rt (tp [wv zz, bb (r)]))]) := by kernel_rfl
theorem rmul_raws6 (x y z e0 e1 e2 e3 e4 e5 e6 e7 f0 f1 f2 f3 f4 f5 f6 f7 d0 d1 d2 d3 d4 d5 d6 d7 d8 d9 d10 d11 d12 d13 d14 d15 : Nat) (p q : Bool) : runA Tryz.prog 38 #[wv x, wv y] [n, n, n, n, n, n, n, f, n, n, n, n, n, f, n, n, n, n, n, f, n, n, n, n, n, f, n, n, n, n, n, f, n, n, n, n, n, f, n, n, n, n, n, t, n, n, n, n, n, t, n, n] [(56, rt (D8 e0 e1 e2 e3 e4 e5 e6 e7)), (56, rt (D8 f0 f1 f2 f3 f4 f5 f6 f7)), (55, rt (D16 d0 d1 d2 d3 d4 d5 d6 d7 d8 d9 d10 d11 d12 d13 d14 d15)), (57, rt (wv z)), (47, rt (bb p)), (47, rt (bb q))] =
    some (rt (tp [wv z, bb true]), [PureX Tryz.prog 56 #[wv x] (rt (D8 e0 e1 e2 e3 e4 e5 e6 e7)), PureX Tryz.prog 56 #[wv y] (rt (D8 f0 f1 f2 f3 f4 f5 f6 f7)), PureX Tryz.prog 55 #[D8 e0 e1 e2 e3 e4 e5 e6 e7, D8 f0 f1 f2 f3 f4 f5 f6 f7] (rt (D16 d0 d1 d2 d3 d4 d5 d6 d7 d8 d9 d10 d11 d12 d13 d14 d15)), (decide (Int.ofNat 0 < Int.ofNat d8)) = false, (decide (Int.ofNat 0 < Int.ofNat d9)) = false, (decide (Int.ofNat 0 < Int.ofNat d10)) = false, (decide (Int.ofNat 0 < Int.ofNat d11)) = false, (decide (Int.ofNat 0 < Int.ofNat d12)) = false, (decide (Int.ofNat 0 < Int.ofNat d13)) = false, (decide (Int.ofNat 0 < Int.ofNat d14)) = true, PureX Tryz.prog 57 #[D8 d0 d1 d2 d3 d4 d5 d6 d7] (rt (wv z)), PureX Tryz.prog 47 #[wv x] (rt (bb p)), PureX Tryz.prog 47 #[wv y] (rt (bb q)), (p == q) = true]) := by kernel_rfl
theorem rmul_rawd6 (x y z zz e0 e1 e2 e3 e4 e5 e6 e7 f0 f1 f2 f3 f4 f5 f6 f7 d0 d1 d2 d3 d4 d5 d6 d7 d8 d9 d10 d11 d12 d13 d14 d15 : Nat) (p q r : Bool) : runA Tryz.prog 38 #[wv x, wv y] [n, n, n, n, n, n, n, f, n, n, n, n, n, f, n, n, n, n, n, f, n, n, n, n, n, f, n, n, n, n, n, f, n, n, n, n, n, f, n, n, n, n, n, t, n, n, n, n, n, f, n, n, n, n, n] [(56, rt (D8 e0 e1 e2 e3 e4 e5 e6 e7)), (56, rt (D8 f0 f1 f2 f3 f4 f5 f6 f7)), (55, rt (D16 d0 d1 d2 d3 d4 d5 d6 d7 d8 d9 d10 d11 d12 d13 d14 d15)), (57, rt (wv z)), (47, rt (bb (p))), (47, rt (bb (q))), (58, rt (tp [wv zz, bb (r)]))] =
    some (rt (tp [wv zz, bb (true)]), [PureX Tryz.prog 56 #[wv x] (rt (D8 e0 e1 e2 e3 e4 e5 e6 e7)), PureX Tryz.prog 56 #[wv y] (rt (D8 f0 f1 f2 f3 f4 f5 f6 f7)), PureX Tryz.prog 55 #[D8 e0 e1 e2 e3 e4 e5 e6 e7, D8 f0 f1 f2 f3 f4 f5 f6 f7] (rt (D16 d0 d1 d2 d3 d4 d5 d6 d7 d8 d9 d10 d11 d12 d13 d14 d15)), (decide (Int.ofNat 0 < Int.ofNat d8)) = false, (decide (Int.ofNat 0 < Int.ofNat d9)) = false, (decide (Int.ofNat 0 < Int.ofNat d10)) = false, (decide (Int.ofNat 0 < Int.ofNat d11)) = false, (decide (Int.ofNat 0 < Int.ofNat d12)) = false, (decide (Int.ofNat 0 < Int.ofNat d13)) = false, (decide (Int.ofNat 0 < Int.ofNat d14)) = true, PureX Tryz.prog 57 #[D8 d0 d1 d2 d3 d4 d5 d6 d7] (rt (wv z)), PureX Tryz.prog 47 #[wv x] (rt (bb (p))), PureX Tryz.prog 47 #[wv y] (rt (bb (q))), (p == q) = false, PureX Tryz.prog 58 #[wv z] (rt (tp [wv zz, bb (r)]))]) := by kernel_rfl
theorem rmul_raws7 (x y z e0 e1 e2 e3 e4 e5 e6 e7 f0 f1 f2 f3 f4 f5 f6 f7 d0 d1 d2 d3 d4 d5 d6 d7 d8 d9 d10 d11 d12 d13 d14 d15 : Nat) (p q : Bool) : runA Tryz.prog 38 #[wv x, wv y] [n, n, n, n, n, n, n, f, n, n, n, n, n, f, n, n, n, n, n, f, n, n, n, n, n, f, n, n, n, n, n, f, n, n, n, n, n, f, n, n, n, n, n, f, n, n, n, n, n, t, t, n] [(56, rt (D8 e0 e1 e2 e3 e4 e5 e6 e7)), (56, rt (D8 f0 f1 f2 f3 f4 f5 f6 f7)), (55, rt (D16 d0 d1 d2 d3 d4 d5 d6 d7 d8 d9 d10 d11 d12 d13 d14 d15)), (57, rt (wv z)), (47, rt (bb p)), (47, rt (bb q))] =
    some (rt (tp [wv z, bb true]), [PureX Tryz.prog 56 #[wv x] (rt (D8 e0 e1 e2 e3 e4 e5 e6 e7)), PureX Tryz.prog 56 #[wv y] (rt (D8 f0 f1 f2 f3 f4 f5 f6 f7)), PureX Tryz.prog 55 #[D8 e0 e1 e2 e3 e4 e5 e6 e7, D8 f0 f1 f2 f3 f4 f5 f6 f7] (rt (D16 d0 d1 d2 d3 d4 d5 d6 d7 d8 d9 d10 d11 d12 d13 d14 d15)), (decide (Int.ofNat 0 < Int.ofNat d8)) = false, (decide (Int.ofNat 0 < Int.ofNat d9)) = false, (decide (Int.ofNat 0 < Int.ofNat d10)) = false, (decide (Int.ofNat 0 < Int.ofNat d11)) = false, (decide (Int.ofNat 0 < Int.ofNat d12)) = false, (decide (Int.ofNat 0 < Int.ofNat d13)) = false, (decide (Int.ofNat 0 < Int.ofNat d14)) = false, PureX Tryz.prog 57 #[D8 d0 d1 d2 d3 d4 d5 d6 d7] (rt (wv z)), PureX Tryz.prog 47 #[wv x] (rt (bb p)), PureX Tryz.prog 47 #[wv y] (rt (bb q)), (p == q) = true, (decide (Int.ofNat 0 < Int.ofNat d15)) = true]) := by kernel_rfl
theorem rmul_rawd7 (x y z zz e0 e1 e2 e3 e4 e5 e6 e7 f0 f1 f2 f3 f4 f5 f6 f7 d0 d1 d2 d3 d4 d5 d6 d7 d8 d9 d10 d11 d12 d13 d14 d15 : Nat) (p q r : Bool) : runA Tryz.prog 38 #[wv x, wv y] [n, n, n, n, n, n, n, f, n, n, n, n, n, f, n, n, n, n, n, f, n, n, n, n, n, f, n, n, n, n, n, f, n, n, n, n, n, f, n, n, n, n, n, f, n, n, n, n, n, f, t, n, n, n, n] [(56, rt (D8 e0 e1 e2 e3 e4 e5 e6 e7)), (56, rt (D8 f0 f1 f2 f3 f4 f5 f6 f7)), (55, rt (D16 d0 d1 d2 d3 d4 d5 d6 d7 d8 d9 d10 d11 d12 d13 d14 d15)), (57, rt (wv z)), (47, rt (bb (p))), (47, rt (bb (q))), (58, rt (tp [wv zz, bb (r)]))] =
    some (rt (tp [wv zz, bb (true)]), [PureX Tryz.prog 56 #[wv x] (rt (D8 e0 e1 e2 e3 e4 e5 e6 e7)), PureX Tryz.prog 56 #[wv y] (rt (D8 f0 f1 f2 f3 f4 f5 f6 f7)), PureX Tryz.prog 55 #[D8 e0 e1 e2 e3 e4 e5 e6 e7, D8 f0 f1 f2 f3 f4 f5 f6 f7] (rt (D16 d0 d1 d2 d3 d4 d5 d6 d7 d8 d9 d10 d11 d12 d13 d14 d15)), (decide (Int.ofNat 0 < Int.ofNat d8)) = false, (decide (Int.ofNat 0 < Int.ofNat d9)) = false, (decide (Int.ofNat 0 < Int.ofNat d10)) = false, (decide (Int.ofNat 0 < Int.ofNat d11)) = false, (decide (Int.ofNat 0 < Int.ofNat d12)) = false, (decide (Int.ofNat 0 < Int.ofNat d13)) = false, (decide (Int.ofNat 0 < Int.ofNat d14)) = false, PureX Tryz.prog 57 #[D8 d0 d1 d2 d3 d4 d5 d6 d7] (rt (wv z)), PureX Tryz.prog 47 #[wv x] (rt (bb (p))), PureX Tryz.prog 47 #[wv y] (rt (bb (q))), (p == q) = false, PureX Tryz.prog 58 #[wv z] (rt (tp [wv zz, bb (r)])), (decide (Int.ofNat 0 < Int.ofNat d15)) = true]) := by kernel_rfl

end Go.Proofs.YtcmfgabhgodlaaaGreatDoor

/- The document's own Mul, as integers. -/
namespace Go.Proofs.YtcmfgabhgodlaaaGreatDoor
open Go Go.RowKit
set_option linter.unusedSimpArgs false
set_option linter.unusedVariables false

theorem rsize_z {x : Int} (h : inR x) : ∃ e0 e1 e2 e3 e4 e5 e6 e7, e0 < 4294967296 ∧ e1 < 4294967296 ∧ e2 < 4294967296 ∧ e3 < 4294967296 ∧ e4 < 4294967296 ∧ e5 < 4294967296 ∧ e6 < 4294967296 ∧ e7 < 4294967296 ∧ e8 e0 e1 e2 e3 e4 e5 e6 e7 = x.natAbs ∧ PureX Tryz.prog 56 #[wz x] (rt (D8 e0 e1 e2 e3 e4 e5 e6 e7)) := by
  obtain ⟨e0, e1, e2, e3, e4, e5, e6, e7, h0, h1, h2, h3, h4, h5, h6, h7, he, hp⟩ := digits_x (siz (nz x))
  refine ⟨e0, e1, e2, e3, e4, e5, e6, e7, h0, h1, h2, h3, h4, h5, h6, h7, by rw [he, siz_z h], ?_⟩
  have l := low_x (nz x)
  unfold siz at hp
  generalize ng (nz x) = b at l hp
  cases b
  · exact runA_pure mix (rsize_raw2 (nz x) e0 e1 e2 e3 e4 e5 e6 e7 false) ⟨l, rfl, hp, trivial⟩ rfl rfl
  · exact runA_pure mix (rsize_raw1 (nz x) (dif 0 (nz x)) e0 e1 e2 e3 e4 e5 e6 e7 true (subO 0 (nz x))) ⟨l, rfl, rneg_x (nz x), hp, trivial⟩ rfl rfl
def fn8 (e0 e1 e2 e3 e4 e5 e6 e7 : Nat) : Nat → Nat
  | 0 => e0
  | 1 => e1
  | 2 => e2
  | 3 => e3
  | 4 => e4
  | 5 => e5
  | 6 => e6
  | 7 => e7
  | _ => 0
theorem fn8_digs {e0 e1 e2 e3 e4 e5 e6 e7 : Nat} (h0 : e0 < 4294967296) (h1 : e1 < 4294967296) (h2 : e2 < 4294967296) (h3 : e3 < 4294967296) (h4 : e4 < 4294967296) (h5 : e5 < 4294967296) (h6 : e6 < 4294967296) (h7 : e7 < 4294967296) : Digs (fn8 e0 e1 e2 e3 e4 e5 e6 e7) := by
  intro i
  unfold fn8
  split <;> first | assumption | decide
theorem times_c {e0 e1 e2 e3 e4 e5 e6 e7 f0 f1 f2 f3 f4 f5 f6 f7 : Nat} (h0 : e0 < 4294967296) (h1 : e1 < 4294967296) (h2 : e2 < 4294967296) (h3 : e3 < 4294967296) (h4 : e4 < 4294967296) (h5 : e5 < 4294967296) (h6 : e6 < 4294967296) (h7 : e7 < 4294967296) (g0 : f0 < 4294967296) (g1 : f1 < 4294967296) (g2 : f2 < 4294967296) (g3 : f3 < 4294967296) (g4 : f4 < 4294967296) (g5 : f5 < 4294967296) (g6 : f6 < 4294967296) (g7 : f7 < 4294967296) :
    ∃ d0 d1 d2 d3 d4 d5 d6 d7 d8 d9 d10 d11 d12 d13 d14 d15, d0 < 4294967296 ∧ d1 < 4294967296 ∧ d2 < 4294967296 ∧ d3 < 4294967296 ∧ d4 < 4294967296 ∧ d5 < 4294967296 ∧ d6 < 4294967296 ∧ d7 < 4294967296 ∧ d8 < 4294967296 ∧ d9 < 4294967296 ∧ d10 < 4294967296 ∧ d11 < 4294967296 ∧ d12 < 4294967296 ∧ d13 < 4294967296 ∧ d14 < 4294967296 ∧ d15 < 4294967296 ∧ e8 d0 d1 d2 d3 d4 d5 d6 d7 + Mw * e8 d8 d9 d10 d11 d12 d13 d14 d15 = e8 e0 e1 e2 e3 e4 e5 e6 e7 * e8 f0 f1 f2 f3 f4 f5 f6 f7 ∧ PureX Tryz.prog 55 #[D8 e0 e1 e2 e3 e4 e5 e6 e7, D8 f0 f1 f2 f3 f4 f5 f6 f7] (rt (D16 d0 d1 d2 d3 d4 d5 d6 d7 d8 d9 d10 d11 d12 d13 d14 d15)) := by
  have ha := fn8_digs h0 h1 h2 h3 h4 h5 h6 h7
  have hb := fn8_digs g0 g1 g2 g3 g4 g5 g6 g7
  have hv := timesR_val (fn8 e0 e1 e2 e3 e4 e5 e6 e7) (fn8 f0 f1 f2 f3 f4 f5 f6 f7)
  have hd := timesR_digs ha hb
  have hr : PureX Tryz.prog 55 #[D8 e0 e1 e2 e3 e4 e5 e6 e7, D8 f0 f1 f2 f3 f4 f5 f6 f7] (rt (D16 (timesR (fn8 e0 e1 e2 e3 e4 e5 e6 e7) (fn8 f0 f1 f2 f3 f4 f5 f6 f7) 0) (timesR (fn8 e0 e1 e2 e3 e4 e5 e6 e7) (fn8 f0 f1 f2 f3 f4 f5 f6 f7) 1) (timesR (fn8 e0 e1 e2 e3 e4 e5 e6 e7) (fn8 f0 f1 f2 f3 f4 f5 f6 f7) 2) (timesR (fn8 e0 e1 e2 e3 e4 e5 e6 e7) (fn8 f0 f1 f2 f3 f4 f5 f6 f7) 3) (timesR (fn8 e0 e1 e2 e3 e4 e5 e6 e7) (fn8 f0 f1 f2 f3 f4 f5 f6 f7) 4) (timesR (fn8 e0 e1 e2 e3 e4 e5 e6 e7) (fn8 f0 f1 f2 f3 f4 f5 f6 f7) 5) (timesR (fn8 e0 e1 e2 e3 e4 e5 e6 e7) (fn8 f0 f1 f2 f3 f4 f5 f6 f7) 6) (timesR (fn8 e0 e1 e2 e3 e4 e5 e6 e7) (fn8 f0 f1 f2 f3 f4 f5 f6 f7) 7) (timesR (fn8 e0 e1 e2 e3 e4 e5 e6 e7) (fn8 f0 f1 f2 f3 f4 f5 f6 f7) 8) (timesR (fn8 e0 e1 e2 e3 e4 e5 e6 e7) (fn8 f0 f1 f2 f3 f4 f5 f6 f7) 9) (timesR (fn8 e0 e1 e2 e3 e4 e5 e6 e7) (fn8 f0 f1 f2 f3 f4 f5 f6 f7) 10) (timesR (fn8 e0 e1 e2 e3 e4 e5 e6 e7) (fn8 f0 f1 f2 f3 f4 f5 f6 f7) 11) (timesR (fn8 e0 e1 e2 e3 e4 e5 e6 e7) (fn8 f0 f1 f2 f3 f4 f5 f6 f7) 12) (timesR (fn8 e0 e1 e2 e3 e4 e5 e6 e7) (fn8 f0 f1 f2 f3 f4 f5 f6 f7) 13) (timesR (fn8 e0 e1 e2 e3 e4 e5 e6 e7) (fn8 f0 f1 f2 f3 f4 f5 f6 f7) 14) (timesR (fn8 e0 e1 e2 e3 e4 e5 e6 e7) (fn8 f0 f1 f2 f3 f4 f5 f6 f7) 15))) := fun w _ => (times_r _ _ ha hb w).mono (fun e w' h => h)
  have k : ∀ a : Nat → Nat, dval a = e8 (a 0) (a 1) (a 2) (a 3) (a 4) (a 5) (a 6) (a 7) := by
    intro a
    unfold dval e8
    simp only [nm]
    generalize a 0 = a0, a 1 = a1, a 2 = a2, a 3 = a3, a 4 = a4, a 5 = a5, a 6 = a6, a 7 = a7
    omega
  have k2 : ∀ a : Nat → Nat, nm 4294967296 a 16 = e8 (a 0) (a 1) (a 2) (a 3) (a 4) (a 5) (a 6) (a 7) + Mw * e8 (a 8) (a 9) (a 10) (a 11) (a 12) (a 13) (a 14) (a 15) := by
    intro a
    rw [← k]
    unfold dval e8
    simp only [nm]
    generalize a 0 + a 1 = zz
    generalize a 8 = a8, a 9 = a9, a 10 = a10, a 11 = a11, a 12 = a12, a 13 = a13, a 14 = a14, a 15 = a15
    simp only [Nat.mul_add, ← Nat.mul_assoc, Mw]
    omega
  rw [k2, k, k] at hv
  exact ⟨_, _, _, _, _, _, _, _, _, _, _, _, _, _, _, _, hd 0, hd 1, hd 2, hd 3, hd 4, hd 5, hd 6, hd 7, hd 8, hd 9, hd 10, hd 11, hd 12, hd 13, hd 14, hd 15, hv, hr⟩

theorem e8_lt {d0 d1 d2 d3 d4 d5 d6 d7 : Nat} (h0 : d0 < 4294967296) (h1 : d1 < 4294967296) (h2 : d2 < 4294967296) (h3 : d3 < 4294967296) (h4 : d4 < 4294967296) (h5 : d5 < 4294967296) (h6 : d6 < 4294967296) (h7 : d7 < 4294967296) : e8 d0 d1 d2 d3 d4 d5 d6 d7 < Mw := by
  unfold e8
  simp only [Mw]
  omega
theorem rmul_z {x y : Int} (hx : inR x) (hy : inR y) : PureX Tryz.prog 38 #[wz x, wz y] (rt (tp [wz (x * y), bb (decide (¬ inR (x * y)))])) := by
  obtain ⟨e0, e1, e2, e3, e4, e5, e6, e7, he0, he1, he2, he3, he4, he5, he6, he7, ee, pe⟩ := rsize_z hx
  obtain ⟨f0, f1, f2, f3, f4, f5, f6, f7, hf0, hf1, hf2, hf3, hf4, hf5, hf6, hf7, ef, pf⟩ := rsize_z hy
  obtain ⟨d0, d1, d2, d3, d4, d5, d6, d7, d8, d9, d10, d11, d12, d13, d14, d15, hd0, hd1, hd2, hd3, hd4, hd5, hd6, hd7, hd8, hd9, hd10, hd11, hd12, hd13, hd14, hd15, ed, pd⟩ := times_c he0 he1 he2 he3 he4 he5 he6 he7 hf0 hf1 hf2 hf3 hf4 hf5 hf6 hf7
  rw [ee, ef] at ed
  obtain ⟨P, hP⟩ : ∃ P, P = x.natAbs * y.natAbs := ⟨_, rfl⟩
  rw [← hP] at ed
  have hc := mul_case hP
  have pw := wide_c hd0 hd1 hd2 hd3 hd4 hd5 hd6 hd7
  have hlo : e8 d0 d1 d2 d3 d4 d5 d6 d7 < Mw := e8_lt hd0 hd1 hd2 hd3 hd4 hd5 hd6 hd7
  have hhi : e8 d8 d9 d10 d11 d12 d13 d14 d15 = 0 ↔ d8 = 0 ∧ d9 = 0 ∧ d10 = 0 ∧ d11 = 0 ∧ d12 = 0 ∧ d13 = 0 ∧ d14 = 0 ∧ d15 = 0 := by
    unfold e8
    omega
  generalize e8 d8 d9 d10 d11 d12 d13 d14 d15 = hi at ed hhi
  generalize e8 d0 d1 d2 d3 d4 d5 d6 d7 = lo at ed hlo pw
  have hz : wv lo = wv P := wv_mod (by rw [← ed, Nat.add_mul_mod_self_left])
  rw [hz] at pw
  have hbig : hi = 0 ↔ P < Mw := by
    constructor
    · rintro rfl
      omega
    · intro h
      rcases Nat.eq_zero_or_pos hi with h0 | h0
      · exact h0
      · have := Nat.mul_le_mul_left Mw h0
        omega
  have l1 := low_x (nz x)
  have l2 := low_x (nz y)
  have l3 := low_x P
  have he := eqv_dec P 0
  rw [Nat.zero_mod] at he
  have n3 := rneg_x P
  have w3 := (dif_neg P).1
  rw [w3] at n3
  have l4 := low_x (nz (-(P : Int)))
  rw [ng_z hx] at l1
  rw [ng_z hy] at l2
  clear ed ee ef hP hx hy hz w3 he0 hf0 he1 hf1 he2 hf2 he3 hf3 he4 hf4 he5 hf5 he6 hf6 he7 hf7
  generalize decide (x < 0) = A at l1 hc
  generalize decide (y < 0) = B at l2 hc
  by_cases hAB : A = B
  · have hv := hc.1 hAB
    rw [hv, ← wz_nat]
    have hq : (A == B) = true := by rw [hAB]; exact beq_self_eq_true B
    have big : hi ≠ 0 → decide (¬ inR (P : Int)) = true := by
      intro hn
      have : ¬ P < Mw := fun c => hn (hbig.2 c)
      rw [decide_eq_true_eq]
      unfold inR
      simp only [Mw] at this
      omega
    by_cases c8 : 0 < d8
    · rw [big (fun c => by have := (hhi.1 c); omega)]
      exact runA_pure mix (rmul_raws0 (nz x) (nz y) P e0 e1 e2 e3 e4 e5 e6 e7 f0 f1 f2 f3 f4 f5 f6 f7 d0 d1 d2 d3 d4 d5 d6 d7 d8 d9 d10 d11 d12 d13 d14 d15 A B) ⟨pe, pf, pd, lt_t c8, pw, l1, l2, hq, trivial⟩ rfl rfl
    by_cases c9 : 0 < d9
    · rw [big (fun c => by have := (hhi.1 c); omega)]
      exact runA_pure mix (rmul_raws1 (nz x) (nz y) P e0 e1 e2 e3 e4 e5 e6 e7 f0 f1 f2 f3 f4 f5 f6 f7 d0 d1 d2 d3 d4 d5 d6 d7 d8 d9 d10 d11 d12 d13 d14 d15 A B) ⟨pe, pf, pd, lt_f c8, lt_t c9, pw, l1, l2, hq, trivial⟩ rfl rfl
    by_cases c10 : 0 < d10
    · rw [big (fun c => by have := (hhi.1 c); omega)]
      exact runA_pure mix (rmul_raws2 (nz x) (nz y) P e0 e1 e2 e3 e4 e5 e6 e7 f0 f1 f2 f3 f4 f5 f6 f7 d0 d1 d2 d3 d4 d5 d6 d7 d8 d9 d10 d11 d12 d13 d14 d15 A B) ⟨pe, pf, pd, lt_f c8, lt_f c9, lt_t c10, pw, l1, l2, hq, trivial⟩ rfl rfl
    by_cases c11 : 0 < d11
    · rw [big (fun c => by have := (hhi.1 c); omega)]
      exact runA_pure mix (rmul_raws3 (nz x) (nz y) P e0 e1 e2 e3 e4 e5 e6 e7 f0 f1 f2 f3 f4 f5 f6 f7 d0 d1 d2 d3 d4 d5 d6 d7 d8 d9 d10 d11 d12 d13 d14 d15 A B) ⟨pe, pf, pd, lt_f c8, lt_f c9, lt_f c10, lt_t c11, pw, l1, l2, hq, trivial⟩ rfl rfl
    by_cases c12 : 0 < d12
    · rw [big (fun c => by have := (hhi.1 c); omega)]
      exact runA_pure mix (rmul_raws4 (nz x) (nz y) P e0 e1 e2 e3 e4 e5 e6 e7 f0 f1 f2 f3 f4 f5 f6 f7 d0 d1 d2 d3 d4 d5 d6 d7 d8 d9 d10 d11 d12 d13 d14 d15 A B) ⟨pe, pf, pd, lt_f c8, lt_f c9, lt_f c10, lt_f c11, lt_t c12, pw, l1, l2, hq, trivial⟩ rfl rfl
    by_cases c13 : 0 < d13
    · rw [big (fun c => by have := (hhi.1 c); omega)]
      exact runA_pure mix (rmul_raws5 (nz x) (nz y) P e0 e1 e2 e3 e4 e5 e6 e7 f0 f1 f2 f3 f4 f5 f6 f7 d0 d1 d2 d3 d4 d5 d6 d7 d8 d9 d10 d11 d12 d13 d14 d15 A B) ⟨pe, pf, pd, lt_f c8, lt_f c9, lt_f c10, lt_f c11, lt_f c12, lt_t c13, pw, l1, l2, hq, trivial⟩ rfl rfl
    by_cases c14 : 0 < d14
    · rw [big (fun c => by have := (hhi.1 c); omega)]
      exact runA_pure mix (rmul_raws6 (nz x) (nz y) P e0 e1 e2 e3 e4 e5 e6 e7 f0 f1 f2 f3 f4 f5 f6 f7 d0 d1 d2 d3 d4 d5 d6 d7 d8 d9 d10 d11 d12 d13 d14 d15 A B) ⟨pe, pf, pd, lt_f c8, lt_f c9, lt_f c10, lt_f c11, lt_f c12, lt_f c13, lt_t c14, pw, l1, l2, hq, trivial⟩ rfl rfl
    by_cases c15 : 0 < d15
    · rw [big (fun c => by have := (hhi.1 c); omega)]
      exact runA_pure mix (rmul_raws7 (nz x) (nz y) P e0 e1 e2 e3 e4 e5 e6 e7 f0 f1 f2 f3 f4 f5 f6 f7 d0 d1 d2 d3 d4 d5 d6 d7 d8 d9 d10 d11 d12 d13 d14 d15 A B) ⟨pe, pf, pd, lt_f c8, lt_f c9, lt_f c10, lt_f c11, lt_f c12, lt_f c13, lt_f c14, pw, l1, l2, hq, lt_t c15, trivial⟩ rfl rfl
    have hz : hi = 0 := hhi.2 (by omega)
    have hlt := hbig.1 hz
    have hr : decide (¬ inR (P : Int)) = ng P := by
      unfold ng
      rw [Nat.mod_eq_of_lt hlt, decide_eq_decide]
      unfold inR
      simp only [Mw] at hlt
      omega
    rw [hr]
    exact runA_pure mix (rmul_raws8 (nz x) (nz y) P e0 e1 e2 e3 e4 e5 e6 e7 f0 f1 f2 f3 f4 f5 f6 f7 d0 d1 d2 d3 d4 d5 d6 d7 d8 d9 d10 d11 d12 d13 d14 d15 A B (ng P)) ⟨pe, pf, pd, lt_f c8, lt_f c9, lt_f c10, lt_f c11, lt_f c12, lt_f c13, lt_f c14, pw, l1, l2, hq, lt_f c15, l3, trivial⟩ rfl rfl
  · have hv := hc.2 hAB
    rw [hv]
    have hq : (A == B) = false := by simpa using hAB
    have big : hi ≠ 0 → decide (¬ inR (-(P : Int))) = true := by
      intro hn
      have : ¬ P < Mw := fun c => hn (hbig.2 c)
      rw [decide_eq_true_eq]
      unfold inR
      simp only [Mw] at this
      omega
    by_cases c8 : 0 < d8
    · rw [big (fun c => by have := (hhi.1 c); omega)]
      exact runA_pure mix (rmul_rawd0 (nz x) (nz y) P (nz (-(P : Int))) e0 e1 e2 e3 e4 e5 e6 e7 f0 f1 f2 f3 f4 f5 f6 f7 d0 d1 d2 d3 d4 d5 d6 d7 d8 d9 d10 d11 d12 d13 d14 d15 A B (subO 0 P)) ⟨pe, pf, pd, lt_t c8, pw, l1, l2, hq, n3, trivial⟩ rfl rfl
    by_cases c9 : 0 < d9
    · rw [big (fun c => by have := (hhi.1 c); omega)]
      exact runA_pure mix (rmul_rawd1 (nz x) (nz y) P (nz (-(P : Int))) e0 e1 e2 e3 e4 e5 e6 e7 f0 f1 f2 f3 f4 f5 f6 f7 d0 d1 d2 d3 d4 d5 d6 d7 d8 d9 d10 d11 d12 d13 d14 d15 A B (subO 0 P)) ⟨pe, pf, pd, lt_f c8, lt_t c9, pw, l1, l2, hq, n3, trivial⟩ rfl rfl
    by_cases c10 : 0 < d10
    · rw [big (fun c => by have := (hhi.1 c); omega)]
      exact runA_pure mix (rmul_rawd2 (nz x) (nz y) P (nz (-(P : Int))) e0 e1 e2 e3 e4 e5 e6 e7 f0 f1 f2 f3 f4 f5 f6 f7 d0 d1 d2 d3 d4 d5 d6 d7 d8 d9 d10 d11 d12 d13 d14 d15 A B (subO 0 P)) ⟨pe, pf, pd, lt_f c8, lt_f c9, lt_t c10, pw, l1, l2, hq, n3, trivial⟩ rfl rfl
    by_cases c11 : 0 < d11
    · rw [big (fun c => by have := (hhi.1 c); omega)]
      exact runA_pure mix (rmul_rawd3 (nz x) (nz y) P (nz (-(P : Int))) e0 e1 e2 e3 e4 e5 e6 e7 f0 f1 f2 f3 f4 f5 f6 f7 d0 d1 d2 d3 d4 d5 d6 d7 d8 d9 d10 d11 d12 d13 d14 d15 A B (subO 0 P)) ⟨pe, pf, pd, lt_f c8, lt_f c9, lt_f c10, lt_t c11, pw, l1, l2, hq, n3, trivial⟩ rfl rfl
    by_cases c12 : 0 < d12
    · rw [big (fun c => by have := (hhi.1 c); omega)]
      exact runA_pure mix (rmul_rawd4 (nz x) (nz y) P (nz (-(P : Int))) e0 e1 e2 e3 e4 e5 e6 e7 f0 f1 f2 f3 f4 f5 f6 f7 d0 d1 d2 d3 d4 d5 d6 d7 d8 d9 d10 d11 d12 d13 d14 d15 A B (subO 0 P)) ⟨pe, pf, pd, lt_f c8, lt_f c9, lt_f c10, lt_f c11, lt_t c12, pw, l1, l2, hq, n3, trivial⟩ rfl rfl
    by_cases c13 : 0 < d13
    · rw [big (fun c => by have := (hhi.1 c); omega)]
      exact runA_pure mix (rmul_rawd5 (nz x) (nz y) P (nz (-(P : Int))) e0 e1 e2 e3 e4 e5 e6 e7 f0 f1 f2 f3 f4 f5 f6 f7 d0 d1 d2 d3 d4 d5 d6 d7 d8 d9 d10 d11 d12 d13 d14 d15 A B (subO 0 P)) ⟨pe, pf, pd, lt_f c8, lt_f c9, lt_f c10, lt_f c11, lt_f c12, lt_t c13, pw, l1, l2, hq, n3, trivial⟩ rfl rfl
    by_cases c14 : 0 < d14
    · rw [big (fun c => by have := (hhi.1 c); omega)]
      exact runA_pure mix (rmul_rawd6 (nz x) (nz y) P (nz (-(P : Int))) e0 e1 e2 e3 e4 e5 e6 e7 f0 f1 f2 f3 f4 f5 f6 f7 d0 d1 d2 d3 d4 d5 d6 d7 d8 d9 d10 d11 d12 d13 d14 d15 A B (subO 0 P)) ⟨pe, pf, pd, lt_f c8, lt_f c9, lt_f c10, lt_f c11, lt_f c12, lt_f c13, lt_t c14, pw, l1, l2, hq, n3, trivial⟩ rfl rfl
    by_cases c15 : 0 < d15
    · rw [big (fun c => by have := (hhi.1 c); omega)]
      exact runA_pure mix (rmul_rawd7 (nz x) (nz y) P (nz (-(P : Int))) e0 e1 e2 e3 e4 e5 e6 e7 f0 f1 f2 f3 f4 f5 f6 f7 d0 d1 d2 d3 d4 d5 d6 d7 d8 d9 d10 d11 d12 d13 d14 d15 A B (subO 0 P)) ⟨pe, pf, pd, lt_f c8, lt_f c9, lt_f c10, lt_f c11, lt_f c12, lt_f c13, lt_f c14, pw, l1, l2, hq, n3, lt_t c15, trivial⟩ rfl rfl
    have hz : hi = 0 := hhi.2 (by omega)
    have hlt := hbig.1 hz
    rw [Nat.mod_eq_of_lt hlt] at he
    by_cases hP0 : P = 0
    · have hr : decide (¬ inR (-(P : Int))) = false := by rw [hP0]; decide
      rw [hr]
      rw [decide_eq_true hP0] at he
      exact runA_pure mix (rmul_rawz (nz x) (nz y) P (nz (-(P : Int))) e0 e1 e2 e3 e4 e5 e6 e7 f0 f1 f2 f3 f4 f5 f6 f7 d0 d1 d2 d3 d4 d5 d6 d7 d8 d9 d10 d11 d12 d13 d14 d15 A B (subO 0 P) false) ⟨pe, pf, pd, lt_f c8, lt_f c9, lt_f c10, lt_f c11, lt_f c12, lt_f c13, lt_f c14, pw, l1, l2, hq, n3, lt_f c15, by rw [he]; rfl, trivial⟩ rfl rfl
    · have hr : decide (¬ inR (-(P : Int))) = !(ng (nz (-(P : Int)))) := by
        rw [ng_mz, ← decide_not, decide_eq_decide]
        unfold inR
        simp only [Mw] at hlt ⊢
        omega
      rw [hr]
      rw [decide_eq_false hP0] at he
      exact runA_pure mix (rmul_rawd8 (nz x) (nz y) P (nz (-(P : Int))) e0 e1 e2 e3 e4 e5 e6 e7 f0 f1 f2 f3 f4 f5 f6 f7 d0 d1 d2 d3 d4 d5 d6 d7 d8 d9 d10 d11 d12 d13 d14 d15 A B (subO 0 P) (ng (nz (-(P : Int))))) ⟨pe, pf, pd, lt_f c8, lt_f c9, lt_f c10, lt_f c11, lt_f c12, lt_f c13, lt_f c14, pw, l1, l2, hq, n3, lt_f c15, by rw [he]; rfl, l4, trivial⟩ rfl rfl

end Go.Proofs.YtcmfgabhgodlaaaGreatDoor

/- A division's floor, ceiling, whole. -/
namespace Go.Proofs.YtcmfgabhgodlaaaGreatDoor
open Go Go.RowKit
set_option linter.unusedSimpArgs false
set_option linter.unusedVariables false

/-- A division: times, left, by, below. -/
def DV (a b c : Nat) (s : Bool) : Value := .agg ⟨[u (a % 18446744073709551616), u (a / 18446744073709551616 % 18446744073709551616), u (a / 340282366920938463463374607431768211456 % 18446744073709551616), u (a / 6277101735386680763835789423207666416102355444464034512896 % 18446744073709551616), u (b % 18446744073709551616), u (b / 18446744073709551616 % 18446744073709551616), u (b / 340282366920938463463374607431768211456 % 18446744073709551616), u (b / 6277101735386680763835789423207666416102355444464034512896 % 18446744073709551616), u (c % 18446744073709551616), u (c / 18446744073709551616 % 18446744073709551616), u (c / 340282366920938463463374607431768211456 % 18446744073709551616), u (c / 6277101735386680763835789423207666416102355444464034512896 % 18446744073709551616), bb s]⟩
theorem qsize_raw1 (x y : Nat) (s : Int) (p : Bool) : runA Tryz.prog 98 #[wv x] [t] [(77, rt (.int .i64 (s))), (76, rt (tp [wv y, bb (p)]))] =
    some (rt (wv y), [PureX Tryz.prog 77 #[wv x] (rt (.int .i64 (s))), (decide (s < 0)) = true, PureX Tryz.prog 76 #[wv x] (rt (tp [wv y, bb (p)]))]) := by kernel_rfl
theorem qsize_raw2 (x : Nat) (s : Int) : runA Tryz.prog 98 #[wv x] [f] [(77, rt (.int .i64 (s)))] =
    some (rt (wv x), [PureX Tryz.prog 77 #[wv x] (rt (.int .i64 (s))), (decide (s < 0)) = false]) := by kernel_rfl
theorem exact_raw (a b c : Nat) (s : Bool) : runA Tryz.prog 101 #[DV a b c s] [] [] =
    some (rt (bb (eqv b 0)), []) := by kernel_rfl
theorem whole_raw1 (a b c : Nat) : runA Tryz.prog 100 #[DV a b c false, bb (false)] [] [] =
    some (rt (wv a), []) := by kernel_rfl
theorem whole_raw2 (a b c y : Nat) (o : Bool) : runA Tryz.prog 100 #[DV a b c true, bb (false)] [] [(76, rt (tp [wv y, bb (o)]))] =
    some (rt (wv y), [PureX Tryz.prog 76 #[wv a] (rt (tp [wv y, bb (o)]))]) := by kernel_rfl
theorem whole_raw3 (a b c y : Nat) (o : Bool) : runA Tryz.prog 100 #[DV a b c false, bb (true)] [] [(68, rt (tp [wv y, bb (o)]))] =
    some (rt (wv y), [PureX Tryz.prog 68 #[wv a, wv 1] (rt (tp [wv y, bb (o)]))]) := by kernel_rfl
theorem whole_raw4 (a b c y z : Nat) (o q : Bool) : runA Tryz.prog 100 #[DV a b c true, bb (true)] [] [(68, rt (tp [wv y, bb (o)])), (76, rt (tp [wv z, bb (q)]))] =
    some (rt (wv z), [PureX Tryz.prog 68 #[wv a, wv 1] (rt (tp [wv y, bb (o)])), PureX Tryz.prog 76 #[wv y] (rt (tp [wv z, bb (q)]))]) := by kernel_rfl
theorem floor_raw1 (a b c y : Nat) : runA Tryz.prog 89 #[DV a b c false] [] [(100, rt (wv y))] =
    some (rt (wv y), [PureX Tryz.prog 100 #[DV a b c false, bb (false)] (rt (wv y))]) := by kernel_rfl
theorem floor_raw2 (a b c y : Nat) (e : Bool) : runA Tryz.prog 89 #[DV a b c true] [] [(101, rt (bb (e))), (100, rt (wv y))] =
    some (rt (wv y), [PureX Tryz.prog 101 #[DV a b c true] (rt (bb (e))), PureX Tryz.prog 100 #[DV a b c true, bb (!(e))] (rt (wv y))]) := by kernel_rfl
theorem qsize_z {z : Int} (h : inR z) : PureX Tryz.prog 98 #[wz z] (rt (wv z.natAbs)) := by
  have hs := sign_z h
  by_cases h0 : z < 0
  · have hn := neg_z h
    have e : wz (-z) = wv z.natAbs := by
      rw [wz_nat]
      congr 1
      omega
    rw [e] at hn
    exact runA_pure mix (qsize_raw1 (nz z) z.natAbs z.sign _) ⟨hs, decide_eq_true (Int.sign_neg_iff.2 h0), hn, trivial⟩ rfl rfl
  · have e : wz z = wv z.natAbs := by
      rw [wz_nat]
      congr 1
      omega
    have hd : decide (z.sign < 0) = false := decide_eq_false (fun c => h0 (Int.sign_neg_iff.1 c))
    have := runA_pure mix (qsize_raw2 (nz z) z.sign) ⟨hs, hd, trivial⟩ rfl rfl
    rw [← e]
    exact this
/-- What a division's whole comes to. -/
def whl (T : Nat) (s far : Bool) : Int := if s = true then -((T : Int) + if far = true then 1 else 0) else (T : Int) + if far = true then 1 else 0
theorem whole_x (T R C : Nat) (s far : Bool) : PureX Tryz.prog 100 #[DV T R C s, bb far] (rt (wz (whl T s far))) := by
  have ha := add_x T 1
  have hn := neg_x T
  have hn1 := neg_x (T + 1)
  have d0 := (dif_neg T).1
  have d1 := (dif_neg (T + 1)).1
  rw [d0] at hn
  rw [d1] at hn1
  have w0 := wz_nat T
  have w1 := wz_nat (T + 1)
  unfold whl
  cases s <;> cases far <;> simp only [if_true, if_false, Bool.false_eq_true, Int.add_zero]
  · rw [← w0]
    exact runA_pure mix (whole_raw1 T R C) trivial rfl rfl
  · rw [show (T : Int) + 1 = ((T + 1 : Nat) : Int) by omega, ← w1]
    exact runA_pure mix (whole_raw3 T R C (T + 1) (addO T 1)) ⟨ha, trivial⟩ rfl rfl
  · exact runA_pure mix (whole_raw2 T R C (nz (-(T : Int))) (subO 0 T)) ⟨hn, trivial⟩ rfl rfl
  · rw [show -((T : Int) + 1) = -((T + 1 : Nat) : Int) by omega]
    exact runA_pure mix (whole_raw4 T R C (T + 1) (nz (-((T + 1 : Nat) : Int))) (addO T 1) (subO 0 (T + 1))) ⟨ha, hn1, trivial⟩ rfl rfl
theorem exact_x (T R C : Nat) (s : Bool) : PureX Tryz.prog 101 #[DV T R C s] (rt (bb (decide (R % Mw = 0)))) := by
  have h := runA_pure mix (exact_raw T R C s) trivial rfl rfl
  rw [eqv_dec, Nat.zero_mod] at h
  exact h
theorem floor_x (T R C : Nat) (s : Bool) : PureX Tryz.prog 89 #[DV T R C s] (rt (wz (whl T s (s && !(decide (R % Mw = 0)))))) := by
  have he := exact_x T R C s
  generalize decide (R % Mw = 0) = e at he ⊢
  cases s
  · exact runA_pure mix (floor_raw1 T R C _) ⟨whole_x T R C false false, trivial⟩ rfl rfl
  · simp only [Bool.true_and]
    exact runA_pure mix (floor_raw2 T R C _ e) ⟨he, whole_x T R C true (!e), trivial⟩ rfl rfl
end Go.Proofs.YtcmfgabhgodlaaaGreatDoor

/- The mathematics of signed quotients: sizes divided, signs told beside them. -/
namespace Go.Proofs.YtcmfgabhgodlaaaGreatDoor
open Go Go.RowKit
set_option linter.unusedSimpArgs false
set_option linter.unusedVariables false

/-- The quotient's sign, from the two numbers' signs. -/
def belowI (A B : Int) : Prop := (A < 0 ∧ 0 < B) ∨ (0 < A ∧ B < 0)
instance (A B : Int) : Decidable (belowI A B) := by unfold belowI; infer_instance
/-- The quotient of the sizes, with its sign; one farther from 0 if f. -/
def wholeI (A B : Int) (q : Nat) (f : Bool) : Int := if belowI A B then -((q : Int) + (if f then 1 else 0)) else (q : Int) + (if f then 1 else 0)

theorem sizes_signed {A B : Int} {q r : Nat} (h : A.natAbs = B.natAbs * q + r) : (0 ≤ B → (0 ≤ A → A = B * q + r) ∧ (A ≤ 0 → A = -(B * q) - r)) ∧ (B ≤ 0 → (0 ≤ A → A = -(B * q) + r) ∧ (A ≤ 0 → A = B * q - r)) := by
  have h2 : (A.natAbs : Int) = (B.natAbs : Int) * (q : Int) + (r : Int) := by exact_mod_cast h
  refine ⟨fun hB => ?_, fun hB => ?_⟩
  · have e : (B.natAbs : Int) = B := by omega
    rw [e] at h2
    generalize B * (q : Int) = P at *
    exact ⟨fun hA => by omega, fun hA => by omega⟩
  · have e : (B.natAbs : Int) = -B := by omega
    rw [e, Int.neg_mul] at h2
    generalize B * (q : Int) = P at *
    exact ⟨fun hA => by omega, fun hA => by omega⟩

/-- The rest lies between 0 and b, on b's side. -/
def OnSide (R B : Int) : Prop := (0 ≤ R ∧ R < B) ∨ (B < R ∧ R ≤ 0)

theorem floor_int {A B : Int} {q r : Nat} (hB : B ≠ 0) (h : A.natAbs = B.natAbs * q + r) (hr : r < B.natAbs) :
    OnSide (A - B * wholeI A B q (decide (belowI A B) && !decide (r = 0))) B := by
  obtain ⟨hp, hn⟩ := sizes_signed h
  unfold wholeI
  by_cases hb : belowI A B
  · rw [if_pos hb]
    by_cases h0 : r = 0
    · simp only [hb, h0, decide_true, Bool.not_true, Bool.and_false, Bool.false_eq_true, if_false, Int.add_zero, Int.mul_neg]
      subst h0
      generalize B * (q : Int) = P at *
      unfold OnSide belowI at *
      rcases hb with ⟨h1, h2⟩ | ⟨h1, h2⟩
      · have := (hp (by omega)).2 (by omega); omega
      · have := (hn (by omega)).1 (by omega); omega
    · simp only [hb, h0, decide_true, decide_false, Bool.not_false, Bool.and_true, if_true, Int.mul_neg, Int.mul_add, Int.mul_one]
      generalize B * (q : Int) = P at *
      unfold OnSide belowI at *
      rcases hb with ⟨h1, h2⟩ | ⟨h1, h2⟩
      · have := (hp (by omega)).2 (by omega); omega
      · have := (hn (by omega)).1 (by omega); omega
  · rw [if_neg hb]
    simp only [hb, decide_false, Bool.false_and, Bool.false_eq_true, if_false, Int.add_zero]
    by_cases hA : A = 0
    · have hq : q = 0 ∧ r = 0 := by
        rw [hA] at h
        have hz : B.natAbs * q = 0 := by omega
        rcases Nat.mul_eq_zero.1 hz with hz | hz
        · omega
        · exact ⟨hz, by omega⟩
      rw [hq.1, hA]
      unfold OnSide
      simp
      omega
    · generalize B * (q : Int) = P at *
      unfold OnSide belowI at *
      by_cases hs : 0 < B
      · have := (hp (by omega)).1 (by omega); omega
      · have := (hn (by omega)).2 (by omega); omega

theorem ceil_int {A B : Int} {q r : Nat} (hB : B ≠ 0) (h : A.natAbs = B.natAbs * q + r) (hr : r < B.natAbs) :
    OnSide (B * wholeI A B q (!decide (belowI A B) && !decide (r = 0)) - A) B := by
  obtain ⟨hp, hn⟩ := sizes_signed h
  unfold wholeI
  by_cases hA : A = 0
  · have hq : q = 0 ∧ r = 0 := by
      rw [hA] at h
      have hz : B.natAbs * q = 0 := by omega
      rcases Nat.mul_eq_zero.1 hz with hz | hz
      · omega
      · exact ⟨hz, by omega⟩
    have hb : ¬ belowI A B := by unfold belowI; omega
    rw [if_neg hb, hq.1, hq.2, hA]
    unfold OnSide
    simp
    omega
  · by_cases hb : belowI A B
    · rw [if_pos hb]
      simp only [hb, decide_true, Bool.not_true, Bool.false_and, Bool.false_eq_true, if_false, Int.add_zero, Int.mul_neg]
      generalize B * (q : Int) = P at *
      unfold OnSide belowI at *
      rcases hb with ⟨h1, h2⟩ | ⟨h1, h2⟩
      · have := (hp (by omega)).2 (by omega); omega
      · have := (hn (by omega)).1 (by omega); omega
    · rw [if_neg hb]
      by_cases h0 : r = 0
      · simp only [hb, h0, decide_true, decide_false, Bool.not_true, Bool.and_false, Bool.false_eq_true, if_false, Int.add_zero]
        generalize B * (q : Int) = P at *
        unfold OnSide belowI at *
        by_cases hs : 0 < B
        · have := (hp (by omega)).1 (by omega); omega
        · have := (hn (by omega)).2 (by omega); omega
      · simp only [hb, h0, decide_false, Bool.not_false, Bool.and_true, if_true, Int.mul_add, Int.mul_one]
        generalize B * (q : Int) = P at *
        unfold OnSide belowI at *
        by_cases hs : 0 < B
        · have := (hp (by omega)).1 (by omega); omega
        · have := (hn (by omega)).2 (by omega); omega

/-- The nearest whole number; from the middle away from 0. -/
def Nearest (A B F : Int) : Prop := 2 * (A - B * F).natAbs ≤ B.natAbs ∧ (2 * (A - B * F).natAbs = B.natAbs → A.natAbs < (B * F).natAbs)
theorem near_int {A B : Int} {q r : Nat} (hB : B ≠ 0) (h : A.natAbs = B.natAbs * q + r) (hr : r < B.natAbs) :
    Nearest A B (wholeI A B q (decide (B.natAbs - r ≤ r))) := by
  obtain ⟨hp, hn⟩ := sizes_signed h
  unfold wholeI Nearest
  by_cases hA : A = 0
  · have hq : q = 0 ∧ r = 0 := by
      rw [hA] at h
      have hz : B.natAbs * q = 0 := by omega
      rcases Nat.mul_eq_zero.1 hz with hz | hz
      · omega
      · exact ⟨hz, by omega⟩
    have hb : ¬ belowI A B := by unfold belowI; omega
    have hd : decide (B.natAbs - r ≤ r) = false := by rw [decide_eq_false_iff_not]; omega
    rw [if_neg hb, hd, hq.1, hA]
    simp
    omega
  · have hPs : 0 ≤ (B * (q : Int)) * B := by
      rw [Int.mul_comm, ← Int.mul_assoc]
      exact Int.mul_nonneg (by rcases Int.le_total 0 B with hb | hb; exact Int.mul_nonneg hb hb; exact Int.mul_nonneg_of_nonpos_of_nonpos hb hb) (by omega)
    have hP1 : 0 < B → 0 ≤ B * (q : Int) := fun hb => Int.mul_nonneg (by omega) (by omega)
    have hP2 : B < 0 → B * (q : Int) ≤ 0 := fun hb => Int.mul_nonpos_of_nonpos_of_nonneg (by omega) (by omega)
    clear hPs
    by_cases hb : belowI A B
    · rw [if_pos hb]
      by_cases h0 : B.natAbs - r ≤ r
      · rw [decide_eq_true h0]
        simp only [if_true, Int.mul_neg, Int.mul_add, Int.mul_one]
        generalize B * (q : Int) = P at *
        unfold belowI at *
        rcases hb with ⟨h1, h2⟩ | ⟨h1, h2⟩
        · have := (hp (by omega)).2 (by omega); omega
        · have := (hn (by omega)).1 (by omega); omega
      · rw [decide_eq_false h0]
        simp only [Bool.false_eq_true, if_false, Int.add_zero, Int.mul_neg]
        generalize B * (q : Int) = P at *
        unfold belowI at *
        rcases hb with ⟨h1, h2⟩ | ⟨h1, h2⟩
        · have := (hp (by omega)).2 (by omega); omega
        · have := (hn (by omega)).1 (by omega); omega
    · rw [if_neg hb]
      by_cases h0 : B.natAbs - r ≤ r
      · rw [decide_eq_true h0]
        simp only [if_true, Int.mul_add, Int.mul_one]
        generalize B * (q : Int) = P at *
        unfold belowI at *
        by_cases hs : 0 < B
        · have := (hp (by omega)).1 (by omega); omega
        · have := (hn (by omega)).2 (by omega); omega
      · rw [decide_eq_false h0]
        simp only [Bool.false_eq_true, if_false, Int.add_zero]
        generalize B * (q : Int) = P at *
        unfold belowI at *
        by_cases hs : 0 < B
        · have := (hp (by omega)).1 (by omega); omega
        · have := (hn (by omega)).2 (by omega); omega

end Go.Proofs.YtcmfgabhgodlaaaGreatDoor

/- A division, by sizes; Floor, Ceil and their like told. -/
namespace Go.Proofs.YtcmfgabhgodlaaaGreatDoor
open Go Go.RowKit
set_option linter.unusedSimpArgs false
set_option linter.unusedVariables false

theorem div_zero (x y : Nat) : runA Tryz.prog 88 #[wv x, wv y] [t] [] =
    some (.pan ([{ v := Value.iface 24 (Value.int .i64 30), recovered := false }]), [(eqv y 0) = true]) := by kernel_rfl
theorem div_over1 (x y : Nat) : runA Tryz.prog 88 #[wv x, wv y] [f, t, n, n, n] [] =
    some (.pan ([{ v := Value.iface 24 (Value.int .i64 20), recovered := false }]), [(eqv y 0) = false, (eqv x 57896044618658097711785492504343953926634992332820282019728792003956564819968) = true]) := by kernel_rfl
theorem div_over2 (x y : Nat) : runA Tryz.prog 88 #[wv x, wv y] [f, f, n, n, t] [] =
    some (.pan ([{ v := Value.iface 24 (Value.int .i64 20), recovered := false }]), [(eqv y 0) = false, (eqv x 57896044618658097711785492504343953926634992332820282019728792003956564819968) = false, (eqv y 57896044618658097711785492504343953926634992332820282019728792003956564819968) = true]) := by kernel_rfl
theorem div_raw (x y ax ay q r : Nat) (s k : Int) : runA Tryz.prog 88 #[wv x, wv y] [f, f, n, n, f] [(98, rt (wv ay)), (98, rt (wv ax)), (99, rt (tp [wv q, wv r])), (77, rt (.int .i64 (s))), (77, rt (.int .i64 (k)))] =
    some (rt (DV q r ay (decide (IntKind.i64.wrap (s * k) < 0))), [(eqv y 0) = false, (eqv x 57896044618658097711785492504343953926634992332820282019728792003956564819968) = false, (eqv y 57896044618658097711785492504343953926634992332820282019728792003956564819968) = false, PureX Tryz.prog 98 #[wv y] (rt (wv ay)), PureX Tryz.prog 98 #[wv x] (rt (wv ax)), PureX Tryz.prog 99 #[wv ax, wv ay] (rt (tp [wv q, wv r])), PureX Tryz.prog 77 #[wv x] (rt (.int .i64 (s))), PureX Tryz.prog 77 #[wv y] (rt (.int .i64 (k)))]) := by kernel_rfl
theorem qfloor_ok (x y z q r c : Nat) (s : Bool) : runA Tryz.prog 70 #[wv x, wv y] [] [(88, rt (DV q r c (s))), (89, rt (wv z))] =
    some (rt (tp [wv z, .int .i64 (0)]), [PureX Tryz.prog 88 #[wv x, wv y] (rt (DV q r c (s))), PureX Tryz.prog 89 #[DV q r c (s)] (rt (wv z))]) := by kernel_rfl
theorem qfloor_pan (x y : Nat) (v : Int) : runA Tryz.prog 70 #[wv x, wv y] [] [(88, .pan ([{ v := Value.iface 24 (Value.int .i64 v), recovered := false }]))] =
    some (rt (tp [wv 0, .int .i64 (v)]), [PureX Tryz.prog 88 #[wv x, wv y] (.pan ([{ v := Value.iface 24 (Value.int .i64 v), recovered := false }]))]) := by kernel_rfl
/-- The division of sizes, owed. -/
def DivOK : Prop := ∀ a b : Nat, a < Mw → 0 < b → b < Mw → PureX Tryz.prog 99 #[wv a, wv b] (rt (tp [wv (a / b), wv (a % b)]))
abbrev least : Int := -57896044618658097711785492504343953926634992332820282019728792003956564819968
def errs (v : Int) : Res := .pan [{ v := .iface 24 (.int .i64 v), recovered := false }]
theorem eqv_z {x y : Int} (hx : inR x) (hy : inR y) : eqv (nz x) (nz y) = decide (x = y) := by
  rw [eqv_dec, Nat.mod_eq_of_lt (nz_lt x), Nat.mod_eq_of_lt (nz_lt y), decide_eq_decide]
  constructor
  · intro h
    have e : (nz x : Int) = (nz y : Int) := by rw [h]
    rw [nz_cast, nz_cast] at e
    unfold inR at *
    simp only [Mw] at e
    omega
  · rintro rfl
    rfl
theorem nz_least : nz least = 57896044618658097711785492504343953926634992332820282019728792003956564819968 := rfl
theorem least_in : inR least := by decide
theorem divide_zero {x : Int} (hx : inR x) : PureX Tryz.prog 88 #[wz x, wz 0] (errs 30) :=
  runA_pure mix (div_zero (nz x) (nz 0)) ⟨rfl, trivial⟩ rfl rfl
theorem divide_over {x y : Int} (hx : inR x) (hy : inR y) (h0 : y ≠ 0) (h : x = least ∨ y = least) : PureX Tryz.prog 88 #[wz x, wz y] (errs 20) := by
  have e0 : eqv (nz y) 0 = false := by
    rw [show (0 : Nat) = nz 0 from rfl, eqv_z hy (by decide), decide_eq_false h0]
  have e1 := eqv_z hx least_in
  have e2 := eqv_z hy least_in
  rw [nz_least] at e1 e2
  by_cases hl : x = least
  · exact runA_pure mix (div_over1 (nz x) (nz y)) ⟨e0, by rw [e1, decide_eq_true hl], trivial⟩ rfl rfl
  · have hl2 : y = least := h.resolve_left hl
    exact runA_pure mix (div_over2 (nz x) (nz y)) ⟨e0, by rw [e1, decide_eq_false hl], by rw [e2, decide_eq_true hl2], trivial⟩ rfl rfl
theorem below_dec (x y : Int) : decide (IntKind.i64.wrap (x.sign * y.sign) < 0) = decide (belowI x y) := by
  have k : ∀ z : Int, (z < 0 ∧ z.sign = -1) ∨ (z = 0 ∧ z.sign = 0) ∨ (0 < z ∧ z.sign = 1) := by
    intro z
    rcases Int.lt_trichotomy z 0 with h | h | h
    · exact .inl ⟨h, Int.sign_eq_neg_one_of_neg h⟩
    · exact .inr (.inl ⟨h, by rw [h]; rfl⟩)
    · exact .inr (.inr ⟨h, Int.sign_eq_one_of_pos h⟩)
  have hw : ∀ w : Int, w = -1 ∨ w = 0 ∨ w = 1 → decide (IntKind.i64.wrap w < 0) = decide (w < 0) := by
    rintro w (rfl | rfl | rfl) <;> decide
  rcases k x with ⟨h1, h2⟩ | ⟨h1, h2⟩ | ⟨h1, h2⟩ <;> rcases k y with ⟨g1, g2⟩ | ⟨g1, g2⟩ | ⟨g1, g2⟩ <;> rw [h2, g2, hw _ (by decide), decide_eq_decide] <;> unfold belowI <;> omega
theorem divide_z (hd : DivOK) {x y : Int} (hx : inR x) (hy : inR y) (h0 : y ≠ 0) (hx1 : x ≠ least) (hy1 : y ≠ least) :
    PureX Tryz.prog 88 #[wz x, wz y] (rt (DV (x.natAbs / y.natAbs) (x.natAbs % y.natAbs) y.natAbs (decide (belowI x y)))) := by
  have e0 : eqv (nz y) 0 = false := by
    rw [show (0 : Nat) = nz 0 from rfl, eqv_z hy (by decide), decide_eq_false h0]
  have e1 := eqv_z hx least_in
  have e2 := eqv_z hy least_in
  rw [nz_least] at e1 e2
  have a1 := abs_le hx
  have a2 := abs_le hy
  have hq := hd x.natAbs y.natAbs (Nat.lt_of_le_of_lt a1 (by decide)) (by omega) (Nat.lt_of_le_of_lt a2 (by decide))
  have h := runA_pure mix (div_raw (nz x) (nz y) x.natAbs y.natAbs (x.natAbs / y.natAbs) (x.natAbs % y.natAbs) x.sign y.sign) ⟨e0, by rw [e1, decide_eq_false hx1], by rw [e2, decide_eq_false hy1], qsize_z hy, qsize_z hx, hq, sign_z hx, sign_z hy, trivial⟩ rfl rfl
  rw [below_dec] at h
  exact h

theorem whl_int (x y : Int) (T : Nat) (far : Bool) : whl T (decide (belowI x y)) far = wholeI x y T far := by
  unfold whl wholeI
  by_cases h : belowI x y
  · rw [if_pos (decide_eq_true h), if_pos h]
  · rw [if_neg (by simpa using h), if_neg h]
/-- The floor; the ceiling. -/
def flI (x y : Int) : Int := wholeI x y (x.natAbs / y.natAbs) (decide (belowI x y) && !decide (x.natAbs % y.natAbs = 0))
def ceI (x y : Int) : Int := wholeI x y (x.natAbs / y.natAbs) (!decide (belowI x y) && !decide (x.natAbs % y.natAbs = 0))
theorem rest_mod {x y : Int} (hy : inR y) (h0 : y ≠ 0) : x.natAbs % y.natAbs % Mw = x.natAbs % y.natAbs := by
  have := Nat.mod_lt x.natAbs (show 0 < y.natAbs by omega)
  have a2 := abs_le hy
  exact Nat.mod_eq_of_lt (Nat.lt_trans this (Nat.lt_of_le_of_lt a2 (by decide)))
theorem flo_z (hd : DivOK) {x y : Int} (hx : inR x) (hy : inR y) (h0 : y ≠ 0) (hx1 : x ≠ least) (hy1 : y ≠ least) : PureX Tryz.prog 70 #[wz x, wz y] (rt (tp [wz (flI x y), .int .i64 0])) := by
  have h1 := divide_z hd hx hy h0 hx1 hy1
  have h2 := floor_x (x.natAbs / y.natAbs) (x.natAbs % y.natAbs) y.natAbs (decide (belowI x y))
  rw [rest_mod hy h0, whl_int] at h2
  exact runA_pure mix (qfloor_ok (nz x) (nz y) (nz (flI x y)) _ _ _ _) ⟨h1, h2, trivial⟩ rfl rfl
theorem flo_zero {x : Int} (hx : inR x) : PureX Tryz.prog 70 #[wz x, wz 0] (rt (tp [wz 0, .int .i64 30])) := runA_pure mix (qfloor_pan (nz x) (nz 0) 30) ⟨divide_zero hx, trivial⟩ rfl rfl
theorem flo_over {x y : Int} (hx : inR x) (hy : inR y) (h0 : y ≠ 0) (h : x = least ∨ y = least) : PureX Tryz.prog 70 #[wz x, wz y] (rt (tp [wz 0, .int .i64 20])) := runA_pure mix (qfloor_pan (nz x) (nz y) 20) ⟨divide_over hx hy h0 h, trivial⟩ rfl rfl
end Go.Proofs.YtcmfgabhgodlaaaGreatDoor

/- The law QuotFloor, path by path (answers foretold). -/
namespace Go.Proofs.YtcmfgabhgodlaaaGreatDoor
open Go Go.RowKit
set_option linter.unusedSimpArgs false
set_option linter.unusedVariables false

end Go.Proofs.YtcmfgabhgodlaaaGreatDoor
