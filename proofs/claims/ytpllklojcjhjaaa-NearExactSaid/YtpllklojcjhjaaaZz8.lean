/- Texts of the seat, joined. -/
import Derived.Test.YtpllklojcjhjaaaZz4
import Derived.Test.YtpllklojcjhjaaaRows
import Derived.WalkKit
import Derived.Outline
import Derived.RangeFuncNested
import Derived.RangeFuncBound
import Derived.RangeFuncCalls
import Derived.RangeFuncLeaves
import Derived.RangeFuncBox
import Derived.Shelf.Abstract
import Derived.Shelf.RegionOpen
import Derived.OwnWalkIn
import Derived.TacticsInMore
import Derived.LoopNIn
import Derived.LoopIn
import Derived.Maps.AppendAt
import Derived.Lib.Hide
import Derived.Lib.Mul64
import Derived.Laws.Bits64b
import Derived.Laws.Externs
/- Sums and differences of wide numbers: their numbers. -/
namespace Go.Proofs.Ytpllklojcjhjaaa
open Go Go.RowKit
set_option linter.unusedSimpArgs false
set_option linter.unusedVariables false

/-- A wide number of any number, by its rest by 2^256. -/
def wv (x : Nat) : Value := W4 (x % 18446744073709551616) (x / 18446744073709551616 % 18446744073709551616) (x / 340282366920938463463374607431768211456 % 18446744073709551616) (x / 6277101735386680763835789423207666416102355444464034512896 % 18446744073709551616)
def vl (a b c d : Nat) : Nat := a + 18446744073709551616 * (b + 18446744073709551616 * (c + 18446744073709551616 * d))
theorem wv_vl {a b c d : Nat} (ha : a < 18446744073709551616) (hb : b < 18446744073709551616) (hc : c < 18446744073709551616) (hd : d < 18446744073709551616) : wv (vl a b c d) = W4 a b c d := by
  have e0 : vl a b c d % 18446744073709551616 = a := by unfold vl; omega
  have e1 : vl a b c d / 18446744073709551616 = b + 18446744073709551616 * (c + 18446744073709551616 * d) := by unfold vl; omega
  have e2 : vl a b c d / 340282366920938463463374607431768211456 = c + 18446744073709551616 * d := by
    rw [show (340282366920938463463374607431768211456 : Nat) = 18446744073709551616 * 18446744073709551616 from rfl, ← Nat.div_div_eq_div_mul, e1]; omega
  have e3 : vl a b c d / 6277101735386680763835789423207666416102355444464034512896 = d := by
    rw [show (6277101735386680763835789423207666416102355444464034512896 : Nat) = 340282366920938463463374607431768211456 * 18446744073709551616 from rfl, ← Nat.div_div_eq_div_mul, e2]; omega
  unfold wv
  rw [e0, e1, e2, e3]
  congr 1 <;> omega
theorem vl_wv (x : Nat) : ∃ a b c d, a < 18446744073709551616 ∧ b < 18446744073709551616 ∧ c < 18446744073709551616 ∧ d < 18446744073709551616 ∧ vl a b c d = x % Mw ∧ wv x = W4 a b c d ∧ d = x / 6277101735386680763835789423207666416102355444464034512896 % 18446744073709551616 := by
  refine ⟨x % 18446744073709551616, x / 18446744073709551616 % 18446744073709551616, x / 340282366920938463463374607431768211456 % 18446744073709551616, x / 6277101735386680763835789423207666416102355444464034512896 % 18446744073709551616, by omega, by omega, by omega, by omega, ?_, rfl, rfl⟩
  have h2 : x / 340282366920938463463374607431768211456 = x / 18446744073709551616 / 18446744073709551616 := by rw [Nat.div_div_eq_div_mul]
  have h3 : x / 6277101735386680763835789423207666416102355444464034512896 = x / 18446744073709551616 / 18446744073709551616 / 18446744073709551616 := by rw [Nat.div_div_eq_div_mul, Nat.div_div_eq_div_mul]
  have h4 : x % Mw = x % (18446744073709551616 * (18446744073709551616 * (18446744073709551616 * 18446744073709551616))) := rfl
  unfold vl
  rw [h2, h3, h4, Nat.mod_mul, Nat.mod_mul, Nat.mod_mul]
theorem wv_mod {x y : Nat} (h : x % Mw = y % Mw) : wv x = wv y := by
  obtain ⟨a, b, c, d, ha, hb, hc, hd, e, e2, _⟩ := vl_wv x
  obtain ⟨a', b', c', d', ha', hb', hc', hd', e', e2', _⟩ := vl_wv y
  rw [e2, e2', ← wv_vl ha hb hc hd, ← wv_vl ha' hb' hc' hd', e, e', h]
theorem vl_lt {a b c d : Nat} (ha : a < 18446744073709551616) (hb : b < 18446744073709551616) (hc : c < 18446744073709551616) (hd : d < 18446744073709551616) : vl a b c d < Mw := by
  unfold vl
  simp only [Mw]
  omega
/-- Is it below 0? -/
def ng (x : Nat) : Bool := decide (57896044618658097711785492504343953926634992332820282019728792003956564819968 ≤ x % Mw)
theorem ng_top {a b c d : Nat} (ha : a < 18446744073709551616) (hb : b < 18446744073709551616) (hc : c < 18446744073709551616) (hd : d < 18446744073709551616) : ng (vl a b c d) = decide (9223372036854775808 ≤ d) := by
  unfold ng
  rw [decide_eq_decide, Nat.mod_eq_of_lt (vl_lt ha hb hc hd)]
  unfold vl
  omega
theorem ng_mod {x y : Nat} (h : x % Mw = y % Mw) : ng x = ng y := by unfold ng; rw [h]
theorem below_x (x : Nat) : PureX Try.prog 79 #[wv x] (rt (bb (ng x))) := by
  obtain ⟨a, b, c, d, ha, hb, hc, hd, e, e2, _⟩ := vl_wv x
  rw [e2, ng_mod (x := x) (y := vl a b c d) (by rw [e, Nat.mod_mod]), ng_top ha hb hc hd]
  exact below_c hd


/-- x less y, by rest. -/
def dif (x y : Nat) : Nat := x + (Mw - y % Mw)
def addO (x y : Nat) : Bool := (ng x == ng y) && !(ng (x + y) == ng x)
def subO (x y : Nat) : Bool := !(ng x == ng y) && !(ng (dif x y) == ng x)
theorem ad_spec {x y c : Nat} (hx : x < 18446744073709551616) (hy : y < 18446744073709551616) (hc : c ≤ 1) : ad x y c < 18446744073709551616 ∧ ac x y c ≤ 1 ∧ ad x y c + 18446744073709551616 * ac x y c = x + y + c := by
  unfold ad ac
  simp only [Bw]
  omega
theorem sb_spec {x y c : Nat} (hx : x < 18446744073709551616) (hy : y < 18446744073709551616) (hc : c ≤ 1) : sb x y c < 18446744073709551616 ∧ sc x y c ≤ 1 ∧ sb x y c + y + c = x + 18446744073709551616 * sc x y c := by
  unfold sb sc
  simp only [Bw]
  split <;> omega
theorem add_words {a0 a1 a2 a3 b0 b1 b2 b3 x y : Nat} (ha0 : a0 < 18446744073709551616) (ha1 : a1 < 18446744073709551616) (ha2 : a2 < 18446744073709551616) (ha3 : a3 < 18446744073709551616) (hb0 : b0 < 18446744073709551616) (hb1 : b1 < 18446744073709551616) (hb2 : b2 < 18446744073709551616) (hb3 : b3 < 18446744073709551616) (ea : vl a0 a1 a2 a3 = x % Mw) (eb : vl b0 b1 b2 b3 = y % Mw) :
    wv (x + y) = W4 (ad a0 b0 0) (ad a1 b1 (ac a0 b0 0)) (ad a2 b2 (ac a1 b1 (ac a0 b0 0))) (ad a3 b3 (ac a2 b2 (ac a1 b1 (ac a0 b0 0)))) ∧ (x + y) % Mw = vl (ad a0 b0 0) (ad a1 b1 (ac a0 b0 0)) (ad a2 b2 (ac a1 b1 (ac a0 b0 0))) (ad a3 b3 (ac a2 b2 (ac a1 b1 (ac a0 b0 0)))) % Mw ∧ decide ((ac a0 b0 0) > 1) = false ∧ decide ((ac a1 b1 (ac a0 b0 0)) > 1) = false ∧ decide ((ac a2 b2 (ac a1 b1 (ac a0 b0 0))) > 1) = false ∧ (ad a0 b0 0) < 18446744073709551616 ∧ (ad a1 b1 (ac a0 b0 0)) < 18446744073709551616 ∧ (ad a2 b2 (ac a1 b1 (ac a0 b0 0))) < 18446744073709551616 ∧ (ad a3 b3 (ac a2 b2 (ac a1 b1 (ac a0 b0 0)))) < 18446744073709551616 := by
  have k0 := ad_spec ha0 hb0 (c := 0) (by decide)
  have k1 := ad_spec ha1 hb1 (c := (ac a0 b0 0)) k0.2.1
  have k2 := ad_spec ha2 hb2 (c := (ac a1 b1 (ac a0 b0 0))) k1.2.1
  have k3 := ad_spec ha3 hb3 (c := (ac a2 b2 (ac a1 b1 (ac a0 b0 0)))) k2.2.1
  generalize (ad a3 b3 (ac a2 b2 (ac a1 b1 (ac a0 b0 0)))) = r3, (ac a3 b3 (ac a2 b2 (ac a1 b1 (ac a0 b0 0)))) = c4 at k3 ⊢
  generalize (ad a2 b2 (ac a1 b1 (ac a0 b0 0))) = r2, (ac a2 b2 (ac a1 b1 (ac a0 b0 0))) = c3 at k2 k3 ⊢
  generalize (ad a1 b1 (ac a0 b0 0)) = r1, (ac a1 b1 (ac a0 b0 0)) = c2 at k1 k2 ⊢
  generalize (ad a0 b0 0) = r0, (ac a0 b0 0) = c1 at k0 k1 ⊢
  obtain ⟨r0l, c0l, e0⟩ := k0
  obtain ⟨r1l, c1l, e1⟩ := k1
  obtain ⟨r2l, c2l, e2⟩ := k2
  obtain ⟨r3l, c3l, e3⟩ := k3
  have key : vl a0 a1 a2 a3 + vl b0 b1 b2 b3 = vl r0 r1 r2 r3 + Mw * c4 := by
    clear ea eb
    unfold vl
    simp only [Mw]
    omega
  have hz : (x + y) % Mw = vl r0 r1 r2 r3 % Mw := by
    rw [Nat.add_mod, ← ea, ← eb, key, Nat.add_mul_mod_self_left]
  refine ⟨?_, hz, by simp; omega, by simp; omega, by simp; omega, r0l, r1l, r2l, r3l⟩
  rw [← wv_vl r0l r1l r2l r3l]
  exact wv_mod hz

theorem sub_words {a0 a1 a2 a3 b0 b1 b2 b3 x y : Nat} (ha0 : a0 < 18446744073709551616) (ha1 : a1 < 18446744073709551616) (ha2 : a2 < 18446744073709551616) (ha3 : a3 < 18446744073709551616) (hb0 : b0 < 18446744073709551616) (hb1 : b1 < 18446744073709551616) (hb2 : b2 < 18446744073709551616) (hb3 : b3 < 18446744073709551616) (ea : vl a0 a1 a2 a3 = x % Mw) (eb : vl b0 b1 b2 b3 = y % Mw) :
    wv (dif x y) = W4 (sb a0 b0 0) (sb a1 b1 (sc a0 b0 0)) (sb a2 b2 (sc a1 b1 (sc a0 b0 0))) (sb a3 b3 (sc a2 b2 (sc a1 b1 (sc a0 b0 0)))) ∧ (dif x y) % Mw = vl (sb a0 b0 0) (sb a1 b1 (sc a0 b0 0)) (sb a2 b2 (sc a1 b1 (sc a0 b0 0))) (sb a3 b3 (sc a2 b2 (sc a1 b1 (sc a0 b0 0)))) % Mw ∧ decide ((sc a0 b0 0) > 1) = false ∧ decide ((sc a1 b1 (sc a0 b0 0)) > 1) = false ∧ decide ((sc a2 b2 (sc a1 b1 (sc a0 b0 0))) > 1) = false ∧ (sb a0 b0 0) < 18446744073709551616 ∧ (sb a1 b1 (sc a0 b0 0)) < 18446744073709551616 ∧ (sb a2 b2 (sc a1 b1 (sc a0 b0 0))) < 18446744073709551616 ∧ (sb a3 b3 (sc a2 b2 (sc a1 b1 (sc a0 b0 0)))) < 18446744073709551616 := by
  have k0 := sb_spec ha0 hb0 (c := 0) (by decide)
  have k1 := sb_spec ha1 hb1 (c := (sc a0 b0 0)) k0.2.1
  have k2 := sb_spec ha2 hb2 (c := (sc a1 b1 (sc a0 b0 0))) k1.2.1
  have k3 := sb_spec ha3 hb3 (c := (sc a2 b2 (sc a1 b1 (sc a0 b0 0)))) k2.2.1
  generalize (sb a3 b3 (sc a2 b2 (sc a1 b1 (sc a0 b0 0)))) = r3, (sc a3 b3 (sc a2 b2 (sc a1 b1 (sc a0 b0 0)))) = c4 at k3 ⊢
  generalize (sb a2 b2 (sc a1 b1 (sc a0 b0 0))) = r2, (sc a2 b2 (sc a1 b1 (sc a0 b0 0))) = c3 at k2 k3 ⊢
  generalize (sb a1 b1 (sc a0 b0 0)) = r1, (sc a1 b1 (sc a0 b0 0)) = c2 at k1 k2 ⊢
  generalize (sb a0 b0 0) = r0, (sc a0 b0 0) = c1 at k0 k1 ⊢
  obtain ⟨r0l, c0l, e0⟩ := k0
  obtain ⟨r1l, c1l, e1⟩ := k1
  obtain ⟨r2l, c2l, e2⟩ := k2
  obtain ⟨r3l, c3l, e3⟩ := k3
  have key : vl r0 r1 r2 r3 + vl b0 b1 b2 b3 = vl a0 a1 a2 a3 + Mw * c4 := by
    clear ea eb
    unfold vl
    simp only [Mw]
    omega
  have hz : (dif x y) % Mw = vl r0 r1 r2 r3 % Mw := by
    have hl := vl_lt hb0 hb1 hb2 hb3
    unfold dif
    rw [← eb, Nat.add_mod, ← ea]
    generalize vl a0 a1 a2 a3 = A at key ⊢
    generalize vl b0 b1 b2 b3 = Bv at key hl ⊢
    generalize vl r0 r1 r2 r3 = R at key ⊢
    have hA : R = A + (Mw * c4 - Bv) ∨ True := .inr trivial
    rcases (show c4 = 0 ∨ c4 = 1 by omega) with rfl | rfl
    · rw [Nat.mul_zero, Nat.add_zero] at key
      rw [Nat.add_mod_mod, show A + (Mw - Bv) = R + Mw by omega, Nat.add_mod_right]
    · rw [Nat.mul_one] at key
      rw [Nat.add_mod_mod, show A + (Mw - Bv) = R by omega]
  refine ⟨?_, hz, by simp; omega, by simp; omega, by simp; omega, r0l, r1l, r2l, r3l⟩
  rw [← wv_vl r0l r1l r2l r3l]
  exact wv_mod hz

theorem sub_x (x y : Nat) : PureX Try.prog 60 #[wv x, wv y] (rt (tp [wv (dif x y), bb (subO x y)])) := by
  obtain ⟨a0, a1, a2, a3, ha0, ha1, ha2, ha3, ea, ea2, _⟩ := vl_wv x
  obtain ⟨b0, b1, b2, b3, hb0, hb1, hb2, hb3, eb, eb2, _⟩ := vl_wv y
  obtain ⟨hw, hz, hc1, hc2, hc3, hr0, hr1, hr2, hr3⟩ := sub_words ha0 ha1 ha2 ha3 hb0 hb1 hb2 hb3 ea eb
  have n1 := below_c (a0 := a0) (a1 := a1) (a2 := a2) ha3
  have n2 := below_c (a0 := b0) (a1 := b1) (a2 := b2) hb3
  have n3 := below_c (a0 := (sb a0 b0 0)) (a1 := (sb a1 b1 (sc a0 b0 0))) (a2 := (sb a2 b2 (sc a1 b1 (sc a0 b0 0)))) hr3
  have g1 : ng x = decide (9223372036854775808 ≤ a3) := by rw [ng_mod (x := x) (y := vl a0 a1 a2 a3) (by rw [ea, Nat.mod_mod]), ng_top ha0 ha1 ha2 ha3]
  have g2 : ng y = decide (9223372036854775808 ≤ b3) := by rw [ng_mod (x := y) (y := vl b0 b1 b2 b3) (by rw [eb, Nat.mod_mod]), ng_top hb0 hb1 hb2 hb3]
  have g3 : ng (dif x y) = decide (9223372036854775808 ≤ (sb a3 b3 (sc a2 b2 (sc a1 b1 (sc a0 b0 0))))) := by rw [ng_mod hz, ng_top hr0 hr1 hr2 hr3]
  rw [ea2, eb2, hw]
  clear hw hz ea2 eb2 ea eb
  unfold subO
  rw [g1, g2, g3]
  clear g1 g2 g3
  generalize decide (9223372036854775808 ≤ a3) = A at n1 ⊢
  generalize decide (9223372036854775808 ≤ b3) = B at n2 ⊢
  generalize decide (9223372036854775808 ≤ (sb a3 b3 (sc a2 b2 (sc a1 b1 (sc a0 b0 0))))) = R at n3 ⊢
  cases hq : (A == B) <;> simp only [Bool.not_false, Bool.not_true, Bool.true_and, Bool.false_and]
  · have hq2 : (!(A == B)) = true := by rw [hq]; rfl
    exact runA_pure mix (sub_raw1 a0 a1 a2 a3 b0 b1 b2 b3 A B R A) ⟨hc1, hc2, hc3, n1, n2, hq2, n3, n1, trivial⟩ rfl rfl
  · refine runA_pure mix (sub_raw2 a0 a1 a2 a3 b0 b1 b2 b3 _ _ true true) ⟨hc1, hc2, hc3, n1, n2, by rw [hq]; rfl, trivial⟩ rfl rfl

end Go.Proofs.Ytpllklojcjhjaaa

/- Wide numbers as integers; Neg, Sign, size, Add, Sub. -/
namespace Go.Proofs.Ytpllklojcjhjaaa
open Go Go.RowKit
set_option linter.unusedSimpArgs false
set_option linter.unusedVariables false

/-- Are two wide numbers the same? -/
def eqv (x y : Nat) : Bool :=
  (Int.ofNat (x % 18446744073709551616) == Int.ofNat (y % 18446744073709551616)) &&
    ((Int.ofNat (x / 18446744073709551616 % 18446744073709551616) == Int.ofNat (y / 18446744073709551616 % 18446744073709551616)) &&
      ((Int.ofNat (x / 340282366920938463463374607431768211456 % 18446744073709551616) == Int.ofNat (y / 340282366920938463463374607431768211456 % 18446744073709551616)) &&
        ((Int.ofNat (x / 6277101735386680763835789423207666416102355444464034512896 % 18446744073709551616) == Int.ofNat (y / 6277101735386680763835789423207666416102355444464034512896 % 18446744073709551616)) && true)))
theorem eqv_dec (x y : Nat) : eqv x y = decide (x % Mw = y % Mw) := by
  rw [Bool.eq_iff_iff, decide_eq_true_iff]
  unfold eqv
  simp only [Bool.and_eq_true, beq_iff_eq, Int.ofNat.injEq, and_true]
  constructor
  · rintro ⟨h0, h1, h2, h3⟩
    have ex : ∀ x, x % Mw = vl (x % 18446744073709551616) (x / 18446744073709551616 % 18446744073709551616) (x / 340282366920938463463374607431768211456 % 18446744073709551616) (x / 6277101735386680763835789423207666416102355444464034512896 % 18446744073709551616) := by
      intro x
      have h2 : x / 340282366920938463463374607431768211456 = x / 18446744073709551616 / 18446744073709551616 := by rw [Nat.div_div_eq_div_mul]
      have h3 : x / 6277101735386680763835789423207666416102355444464034512896 = x / 18446744073709551616 / 18446744073709551616 / 18446744073709551616 := by rw [Nat.div_div_eq_div_mul, Nat.div_div_eq_div_mul]
      have h4 : x % Mw = x % (18446744073709551616 * (18446744073709551616 * (18446744073709551616 * 18446744073709551616))) := rfl
      unfold vl
      rw [h2, h3, h4, Nat.mod_mul, Nat.mod_mul, Nat.mod_mul]
    rw [ex x, ex y, h0, h1, h2, h3]
  · intro h
    have := wv_mod h
    unfold wv W4 at this
    simp only [Value.agg.injEq, Array.mk.injEq, List.cons.injEq, Value.int.injEq, true_and, and_true, Int.ofNat.injEq] at this
    exact this

theorem sign_raw1 (x : Nat) : runA Try.prog 63 #[wv x] [t] [] =
    some (rt (.int .i64 (0)), [(eqv x 0) = true]) := by kernel_rfl
theorem sign_raw2 (x : Nat) (o : Bool) : runA Try.prog 63 #[wv x] [f, t] [(79, rt (bb (o)))] =
    some (rt (.int .i64 (-1)), [(eqv x 0) = false, PureX Try.prog 79 #[wv x] (rt (bb (o))), (o) = true]) := by kernel_rfl
theorem sign_raw3 (x : Nat) (o : Bool) : runA Try.prog 63 #[wv x] [f, f] [(79, rt (bb (o)))] =
    some (rt (.int .i64 (1)), [(eqv x 0) = false, PureX Try.prog 79 #[wv x] (rt (bb (o))), (o) = false]) := by kernel_rfl

/-- A number without its sign. -/
def siz (x : Nat) : Nat := if ng x = true then dif 0 x else x
/-- The sign. -/
def sg (x : Nat) : Int := if x % Mw = 0 then 0 else if ng x = true then -1 else 1
theorem sign_x (x : Nat) : PureX Try.prog 63 #[wv x] (rt (.int .i64 (sg x))) := by
  have he := eqv_dec x 0
  have hb := below_x x
  unfold sg
  rw [Nat.zero_mod] at he
  by_cases h0 : x % Mw = 0
  · rw [if_pos h0]
    rw [decide_eq_true h0] at he
    exact runA_pure mix (sign_raw1 x) ⟨he, trivial⟩ rfl rfl
  · rw [if_neg h0]
    rw [decide_eq_false h0] at he
    generalize ng x = b at hb ⊢
    cases b
    · exact runA_pure mix (sign_raw3 x false) ⟨he, hb, rfl, trivial⟩ rfl rfl
    · exact runA_pure mix (sign_raw2 x true) ⟨he, hb, rfl, trivial⟩ rfl rfl

/-! ### As integers. -/
abbrev Hw : Nat := 57896044618658097711785492504343953926634992332820282019728792003956564819968
def nz (z : Int) : Nat := (z % (Mw : Int)).toNat
/-- A wide number of an integer, by its rest. -/
def wz (z : Int) : Value := wv (nz z)
/-- Does it fit? -/
def inR (z : Int) : Prop := -57896044618658097711785492504343953926634992332820282019728792003956564819968 ≤ z ∧ z < 57896044618658097711785492504343953926634992332820282019728792003956564819968
instance (z : Int) : Decidable (inR z) := inferInstanceAs (Decidable (_ ∧ _))
theorem nz_lt (z : Int) : nz z < Mw := by
  unfold nz
  simp only [Mw]
  omega
theorem nz_cast (z : Int) : ((nz z : Nat) : Int) = z % (Mw : Int) := by
  unfold nz
  exact Int.toNat_of_nonneg (Int.emod_nonneg _ (by decide))
theorem nz_of {z : Int} {x : Nat} (h : (x : Int) % (Mw : Int) = z % (Mw : Int)) : wv x = wz z := by
  unfold wz
  apply wv_mod
  have e : ((x % Mw : Nat) : Int) = ((nz z % Mw : Nat) : Int) := by
    rw [Int.natCast_emod, Int.natCast_emod, nz_cast, h, Int.emod_emod_of_dvd _ (Int.dvd_refl _)]
  exact Int.ofNat.inj e
theorem ng_z {z : Int} (h : inR z) : ng (nz z) = decide (z < 0) := by
  unfold ng inR at *
  rw [decide_eq_decide, Nat.mod_eq_of_lt (nz_lt z)]
  have e := nz_cast z
  generalize nz z = m at e ⊢
  simp only [Mw] at e
  omega
theorem ng_mz (z : Int) : ng (nz z) = decide (57896044618658097711785492504343953926634992332820282019728792003956564819968 ≤ z % (Mw : Int)) := by
  unfold ng
  rw [decide_eq_decide, Nat.mod_eq_of_lt (nz_lt z)]
  have e := nz_cast z
  rw [← e]
  omega
theorem add_wv (x y : Int) : wv (nz x + nz y) = wz (x + y) ∧ ng (nz x + nz y) = ng (nz (x + y)) := by
  have h : ((nz x + nz y : Nat) : Int) % (Mw : Int) = (x + y) % (Mw : Int) := by
    rw [Int.natCast_add, nz_cast, nz_cast, ← Int.add_emod]
  refine ⟨nz_of h, ng_mod ?_⟩
  have e : (((nz x + nz y) % Mw : Nat) : Int) = ((nz (x + y) % Mw : Nat) : Int) := by
    rw [Int.natCast_emod, Int.natCast_emod, h, nz_cast, Int.emod_emod_of_dvd _ (Int.dvd_refl _)]
  exact Int.ofNat.inj e
theorem dif_wv (x y : Int) : wv (dif (nz x) (nz y)) = wz (x - y) ∧ ng (dif (nz x) (nz y)) = ng (nz (x - y)) := by
  have h : ((dif (nz x) (nz y) : Nat) : Int) % (Mw : Int) = (x - y) % (Mw : Int) := by
    unfold dif
    have hy := nz_lt y
    rw [Nat.mod_eq_of_lt hy, Int.natCast_add, Int.natCast_sub (Nat.le_of_lt hy), nz_cast, nz_cast]
    rw [show x % (Mw : Int) + ((Mw : Int) - y % (Mw : Int)) = (x % (Mw : Int) - y % (Mw : Int)) + (Mw : Int) by omega, Int.add_emod_right, ← Int.sub_emod]
  refine ⟨nz_of h, ng_mod ?_⟩
  have e : ((dif (nz x) (nz y) % Mw : Nat) : Int) = ((nz (x - y) % Mw : Nat) : Int) := by
    rw [Int.natCast_emod, Int.natCast_emod, h, nz_cast, Int.emod_emod_of_dvd _ (Int.dvd_refl _)]
  exact Int.ofNat.inj e

theorem over_add {x y : Int} (hx : inR x) (hy : inR y) : addO (nz x) (nz y) = decide (¬ inR (x + y)) := by
  unfold addO
  rw [(add_wv x y).2, ng_z hx, ng_z hy, ng_mz (x + y)]
  unfold inR at *
  simp only [Mw]
  rw [Bool.eq_iff_iff]
  simp only [Bool.and_eq_true, Bool.not_eq_true', beq_iff_eq, beq_eq_false_iff_ne, ne_eq, decide_eq_decide, decide_eq_true_eq]
  omega
theorem over_sub {x y : Int} (hx : inR x) (hy : inR y) : subO (nz x) (nz y) = decide (¬ inR (x - y)) := by
  unfold subO
  rw [(dif_wv x y).2, ng_z hx, ng_z hy, ng_mz (x - y)]
  unfold inR at *
  simp only [Mw]
  rw [Bool.eq_iff_iff]
  simp only [Bool.and_eq_true, Bool.not_eq_true', beq_iff_eq, beq_eq_false_iff_ne, ne_eq, decide_eq_decide, decide_eq_true_eq]
  omega
theorem sub_z {x y : Int} (hx : inR x) (hy : inR y) : PureX Try.prog 60 #[wz x, wz y] (rt (tp [wz (x - y), bb (decide (¬ inR (x - y)))])) := by
  have h := sub_x (nz x) (nz y)
  rw [(dif_wv x y).1, over_sub hx hy] at h
  exact h
theorem sg_z {z : Int} (h : inR z) : sg (nz z) = z.sign := by
  unfold sg
  rw [ng_z h, Nat.mod_eq_of_lt (nz_lt z)]
  have e := nz_cast z
  have hz : nz z = 0 ↔ z = 0 := by
    generalize nz z = m at e ⊢
    unfold inR at h
    simp only [Mw] at e
    omega
  by_cases h0 : z = 0
  · rw [if_pos (hz.2 h0), h0]; rfl
  · rw [if_neg (fun c => h0 (hz.1 c))]
    by_cases h1 : z < 0
    · rw [if_pos (by simpa using h1), Int.sign_eq_neg_one_of_neg h1]
    · rw [if_neg (by simpa using h1), Int.sign_eq_one_of_pos (by omega)]
theorem sign_z {z : Int} (h : inR z) : PureX Try.prog 63 #[wz z] (rt (.int .i64 z.sign)) := by
  have := sign_x (nz z)
  rw [sg_z h] at this
  exact this

end Go.Proofs.Ytpllklojcjhjaaa

/- The product of two wide numbers. -/
namespace Go.Proofs.Ytpllklojcjhjaaa
open Go Go.RowKit Go.Shelf Go.Lib
set_option linter.unusedSimpArgs false
set_option linter.unusedVariables false

attribute [local go_sem] Oper.semAt_some

theorem maskN (a : Nat) (ha : a < 18446744073709551616) : bits .and .u64 (a : Int) 4294967295 = ((a % 4294967296 : Nat) : Int) := by
  have h := bits_and_u64_nat a 4294967295 ha (by omega)
  have e : a &&& 4294967295 = a % 4294967296 := Nat.and_two_pow_sub_one_eq_mod a 32
  rw [e] at h
  exact h
theorem divN (a : Nat) : (a : Int) / 4294967296 = ((a / 4294967296 : Nat) : Int) := by omega
theorem mulN (a b : Nat) : (a : Int) * (b : Int) = ((a * b : Nat) : Int) := (Int.natCast_mul a b).symm
theorem addN (a b : Nat) : (a : Int) + (b : Int) = ((a + b : Nat) : Int) := (Int.natCast_add a b).symm
theorem wrapN (a : Nat) (ha : a < 18446744073709551616) : IntKind.u64.wrap (a : Int) = (a : Int) := by rw [IntKind.wrap_u64]; omega
theorem wrapM (a : Nat) : IntKind.u64.wrap (a : Int) = ((a % 18446744073709551616 : Nat) : Int) := by rw [IntKind.wrap_u64]; omega

theorem sq_le {x y : Nat} (hx : x < 18446744073709551616) (hy : y < 18446744073709551616) : x * y ≤ 340282366920938463426481119284349108225 := Nat.mul_le_mul (Nat.le_of_lt_succ hx) (Nat.le_of_lt_succ hy)

theorem row_sum {x0 x1 x2 x3 l0 l1 l2 l3 h0 h1 h2 h3 p0 p1 p2 p3 : Nat}
    (e0 : l0 + 18446744073709551616 * h0 = p0 + x0 + 0) (e1 : l1 + 18446744073709551616 * h1 = p1 + x1 + h0) (e2 : l2 + 18446744073709551616 * h2 = p2 + x2 + h1) (e3 : l3 + 18446744073709551616 * h3 = p3 + x3 + h2) :
    l0 + l1 * 18446744073709551616 + l2 * (18446744073709551616 * 18446744073709551616) + l3 * (18446744073709551616 * 18446744073709551616 * 18446744073709551616) + h3 * (18446744073709551616 * 18446744073709551616 * 18446744073709551616 * 18446744073709551616) =
    x0 + x1 * 18446744073709551616 + x2 * (18446744073709551616 * 18446744073709551616) + x3 * (18446744073709551616 * 18446744073709551616 * 18446744073709551616) + (p0 + p1 * 18446744073709551616 + p2 * (18446744073709551616 * 18446744073709551616) + p3 * (18446744073709551616 * 18446744073709551616 * 18446744073709551616)) := by
  omega
theorem four_rows (K q0 q1 q2 q3 c0 t0 t1 t2 t3 c1 v0 v1 v2 v3 c2 w0 w1 w2 w3 c3 y0 y1 y2 y3 : Nat)
    (s0 : q0 + q1 * K + q2 * (K * K) + q3 * (K * K * K) + c0 * (K * K * K * K) = y0)
    (s1 : t0 + t1 * K + t2 * (K * K) + t3 * (K * K * K) + c1 * (K * K * K * K) = q1 + q2 * K + q3 * (K * K) + c0 * (K * K * K) + y1)
    (s2 : v0 + v1 * K + v2 * (K * K) + v3 * (K * K * K) + c2 * (K * K * K * K) = t1 + t2 * K + t3 * (K * K) + c1 * (K * K * K) + y2)
    (s3 : w0 + w1 * K + w2 * (K * K) + w3 * (K * K * K) + c3 * (K * K * K * K) = v1 + v2 * K + v3 * (K * K) + c2 * (K * K * K) + y3) :
    q0 + t0 * K + v0 * (K * K) + w0 * (K * K * K) + (w1 + w2 * K + w3 * (K * K) + c3 * (K * K * K)) * (K * K * K * K) = y0 + y1 * K + y2 * (K * K) + y3 * (K * K * K) := by
  have e1 := congrArg (· * K) s1
  have e2 := congrArg (· * (K * K)) s2
  have e3 := congrArg (· * (K * K * K)) s3
  subst s0
  clear s1 s2 s3
  simp only [Nat.add_mul, Nat.mul_add, Nat.mul_assoc, Nat.mul_comm, Nat.mul_left_comm] at e1 e2 e3 ⊢
  omega

end Go.Proofs.Ytpllklojcjhjaaa

/- Mul of wide numbers. -/
namespace Go.Proofs.Ytpllklojcjhjaaa
open Go Go.RowKit
set_option linter.unusedSimpArgs false
set_option linter.unusedVariables false

theorem siz_z {z : Int} (h : inR z) : siz (nz z) % Mw = z.natAbs := by
  unfold siz
  rw [ng_z h]
  have e := nz_cast z
  have hl := nz_lt z
  unfold inR at h
  by_cases h0 : z < 0
  · rw [if_pos (by simpa using h0)]
    unfold dif
    rw [Nat.mod_eq_of_lt hl]
    generalize nz z = m at e hl ⊢
    simp only [Mw] at e hl ⊢
    omega
  · rw [if_neg (by simpa using h0), Nat.mod_eq_of_lt hl]
    generalize nz z = m at e hl ⊢
    simp only [Mw] at e hl
    omega
theorem abs_le {z : Int} (h : inR z) : z.natAbs ≤ Hw := by
  unfold inR at h
  simp only [Hw]
  omega
theorem mul_case {x y : Int} {P : Nat} (hP : P = x.natAbs * y.natAbs) : (decide (x < 0) = decide (y < 0) → x * y = (P : Int)) ∧ (¬ decide (x < 0) = decide (y < 0) → x * y = -(P : Int)) := by
  have hc : (P : Int) = (x.natAbs : Int) * (y.natAbs : Int) := by rw [hP, Int.natCast_mul]
  rw [hc, decide_eq_decide]
  by_cases hx : x < 0 <;> by_cases hy : y < 0
  · rw [show (x.natAbs : Int) = -x by omega, show (y.natAbs : Int) = -y by omega]
    exact ⟨fun _ => (Int.neg_mul_neg x y).symm, fun c => absurd (by simp [hx, hy]) c⟩
  · rw [show (x.natAbs : Int) = -x by omega, show (y.natAbs : Int) = y by omega]
    exact ⟨fun c => absurd (c.1 hx) hy, fun _ => by rw [Int.neg_mul, Int.neg_neg]⟩
  · rw [show (x.natAbs : Int) = x by omega, show (y.natAbs : Int) = -y by omega]
    exact ⟨fun c => absurd (c.2 hy) hx, fun _ => by rw [Int.mul_neg, Int.neg_neg]⟩
  · rw [show (x.natAbs : Int) = x by omega, show (y.natAbs : Int) = y by omega]
    exact ⟨fun _ => rfl, fun c => absurd (by simp [hx, hy]) c⟩
theorem wz_nat (P : Nat) : wv P = wz (P : Int) := nz_of rfl
theorem dif_neg (P : Nat) : wv (dif 0 P) = wz (-(P : Int)) ∧ sg (dif 0 P) = (if P % Mw = 0 then 0 else if P % Mw ≤ Hw then -1 else 1) := by
  have hl : P % Mw < Mw := Nat.mod_lt _ (by decide)
  constructor
  · apply nz_of
    unfold dif
    rw [Nat.zero_add, Int.natCast_sub (Nat.le_of_lt hl), Int.natCast_emod]
    have h0 : (0 : Int) % (Mw : Int) = 0 := rfl
    rw [show (Mw : Int) - (P : Int) % (Mw : Int) = ((0 : Int) % (Mw : Int) - (P : Int) % (Mw : Int)) + (Mw : Int) by rw [h0]; omega, Int.add_emod_right, ← Int.sub_emod, Int.zero_sub]
  · unfold sg ng dif
    rw [Nat.zero_add]
    generalize P % Mw = m at hl ⊢
    by_cases h0 : m = 0
    · subst h0
      simp
    · have h1 : (Mw - m) % Mw = Mw - m := Nat.mod_eq_of_lt (by omega)
      rw [h1, if_neg (by omega), if_neg h0]
      simp only [Mw, Hw, decide_eq_true_eq] at hl ⊢
      by_cases h2 : m ≤ 57896044618658097711785492504343953926634992332820282019728792003956564819968
      · rw [if_pos (by omega), if_pos h2]
      · rw [if_neg (by omega), if_neg h2]
end Go.Proofs.Ytpllklojcjhjaaa

/- The document's own digits, sums and differences. -/
namespace Go.Proofs.Ytpllklojcjhjaaa
open Go Go.RowKit
set_option linter.unusedSimpArgs false
set_option linter.unusedVariables false

def D8 (a b c d e f g h : Nat) : Value := .agg #[u a, u b, u c, u d, u e, u f, u g, u h]
/-- Eight digits' number. -/
def e8 (a b c d e f g h : Nat) : Nat := a + 4294967296 * (b + 4294967296 * (c + 4294967296 * (d + 4294967296 * (e + 4294967296 * (f + 4294967296 * (g + 4294967296 * h))))))
def pd (x y c : Nat) : Nat := ((x + y) % 18446744073709551616 + c) % 18446744073709551616 % 4294967296
def pc (x y c : Nat) : Nat := ((x + y) % 18446744073709551616 + c) % 18446744073709551616 / 4294967296 % 18446744073709551616
theorem pd_spec {x y c : Nat} (hx : x < 4294967296) (hy : y < 4294967296) (hc : c ≤ 1) : pd x y c < 4294967296 ∧ pc x y c ≤ 1 ∧ pd x y c + 4294967296 * pc x y c = x + y + c := by
  unfold pd pc
  omega
theorem digits_raw (a0 a1 a2 a3 : Nat) : runA Try.prog 52 #[W4 a0 a1 a2 a3] [] [] =
    some (rt (.agg ⟨[u (a0 % 4294967296), .int .u64 (IntKind.u64.wrap (Int.ofNat (a0 / 4294967296))), u (a1 % 4294967296), .int .u64 (IntKind.u64.wrap (Int.ofNat (a1 / 4294967296))), u (a2 % 4294967296), .int .u64 (IntKind.u64.wrap (Int.ofNat (a2 / 4294967296))), u (a3 % 4294967296), .int .u64 (IntKind.u64.wrap (Int.ofNat (a3 / 4294967296)))]⟩), []) := by kernel_rfl
theorem not_raw (d0 d1 d2 d3 d4 d5 d6 d7 : Nat) : runA Try.prog 54 #[D8 d0 d1 d2 d3 d4 d5 d6 d7] [] [] =
    some (rt (.agg ⟨[.int .u64 (IntKind.u64.wrap (4294967295 - Int.ofNat d0)), .int .u64 (IntKind.u64.wrap (4294967295 - Int.ofNat d1)), .int .u64 (IntKind.u64.wrap (4294967295 - Int.ofNat d2)), .int .u64 (IntKind.u64.wrap (4294967295 - Int.ofNat d3)), .int .u64 (IntKind.u64.wrap (4294967295 - Int.ofNat d4)), .int .u64 (IntKind.u64.wrap (4294967295 - Int.ofNat d5)), .int .u64 (IntKind.u64.wrap (4294967295 - Int.ofNat d6)), .int .u64 (IntKind.u64.wrap (4294967295 - Int.ofNat d7))]⟩), []) := by kernel_rfl
theorem wide_raw (d0 d1 d2 d3 d4 d5 d6 d7 : Nat) : runA Try.prog 35 #[D8 d0 d1 d2 d3 d4 d5 d6 d7] [] [] =
    some (rt (.agg ⟨[.int .u64 (IntKind.u64.wrap (IntKind.u64.wrap (Int.ofNat d1 * 4294967296) + Int.ofNat d0)), .int .u64 (IntKind.u64.wrap (IntKind.u64.wrap (Int.ofNat d3 * 4294967296) + Int.ofNat d2)), .int .u64 (IntKind.u64.wrap (IntKind.u64.wrap (Int.ofNat d5 * 4294967296) + Int.ofNat d4)), .int .u64 (IntKind.u64.wrap (IntKind.u64.wrap (Int.ofNat d7 * 4294967296) + Int.ofNat d6))]⟩), []) := by kernel_rfl
theorem low_raw (a0 a1 a2 a3 : Nat) : runA Try.prog 36 #[W4 a0 a1 a2 a3] [] [] =
    some (rt (bb ((Int.ofNat a3).fdiv (2 ^ Int.toNat 63) == 1)), []) := by kernel_rfl
theorem plus_raw (d0 d1 d2 d3 d4 d5 d6 d7 e0 e1 e2 e3 e4 e5 e6 e7 c : Nat) : runA Try.prog 53 #[D8 d0 d1 d2 d3 d4 d5 d6 d7, D8 e0 e1 e2 e3 e4 e5 e6 e7, u c] [] [] =
    some (rt (D8 (pd d0 e0 c) (pd d1 e1 (pc d0 e0 c)) (pd d2 e2 (pc d1 e1 (pc d0 e0 c))) (pd d3 e3 (pc d2 e2 (pc d1 e1 (pc d0 e0 c)))) (pd d4 e4 (pc d3 e3 (pc d2 e2 (pc d1 e1 (pc d0 e0 c))))) (pd d5 e5 (pc d4 e4 (pc d3 e3 (pc d2 e2 (pc d1 e1 (pc d0 e0 c)))))) (pd d6 e6 (pc d5 e5 (pc d4 e4 (pc d3 e3 (pc d2 e2 (pc d1 e1 (pc d0 e0 c))))))) (pd d7 e7 (pc d6 e6 (pc d5 e5 (pc d4 e4 (pc d3 e3 (pc d2 e2 (pc d1 e1 (pc d0 e0 c))))))))), []) := by kernel_rfl
theorem rneg_raw1 (x z d0 d1 d2 d3 d4 d5 d6 d7 f0 f1 f2 f3 f4 f5 f6 f7 r0 r1 r2 r3 r4 r5 r6 r7 : Nat) (p q : Bool) : runA Try.prog 37 #[wv x] [t, n] [(52, rt (D8 d0 d1 d2 d3 d4 d5 d6 d7)), (54, rt (D8 f0 f1 f2 f3 f4 f5 f6 f7)), (53, rt (D8 r0 r1 r2 r3 r4 r5 r6 r7)), (35, rt (wv z)), (36, rt (bb (p))), (36, rt (bb (q)))] =
    some (rt (tp [wv z, bb (q)]), [PureX Try.prog 52 #[wv x] (rt (D8 d0 d1 d2 d3 d4 d5 d6 d7)), PureX Try.prog 54 #[D8 d0 d1 d2 d3 d4 d5 d6 d7] (rt (D8 f0 f1 f2 f3 f4 f5 f6 f7)), PureX Try.prog 53 #[D8 f0 f1 f2 f3 f4 f5 f6 f7, D8 0 0 0 0 0 0 0 0, u 1] (rt (D8 r0 r1 r2 r3 r4 r5 r6 r7)), PureX Try.prog 35 #[D8 r0 r1 r2 r3 r4 r5 r6 r7] (rt (wv z)), PureX Try.prog 36 #[wv x] (rt (bb (p))), (p) = true, PureX Try.prog 36 #[wv z] (rt (bb (q)))]) := by kernel_rfl
theorem rneg_raw2 (x z d0 d1 d2 d3 d4 d5 d6 d7 f0 f1 f2 f3 f4 f5 f6 f7 r0 r1 r2 r3 r4 r5 r6 r7 : Nat) (p : Bool) : runA Try.prog 37 #[wv x] [f, n] [(52, rt (D8 d0 d1 d2 d3 d4 d5 d6 d7)), (54, rt (D8 f0 f1 f2 f3 f4 f5 f6 f7)), (53, rt (D8 r0 r1 r2 r3 r4 r5 r6 r7)), (35, rt (wv z)), (36, rt (bb (p)))] =
    some (rt (tp [wv z, bb (false)]), [PureX Try.prog 52 #[wv x] (rt (D8 d0 d1 d2 d3 d4 d5 d6 d7)), PureX Try.prog 54 #[D8 d0 d1 d2 d3 d4 d5 d6 d7] (rt (D8 f0 f1 f2 f3 f4 f5 f6 f7)), PureX Try.prog 53 #[D8 f0 f1 f2 f3 f4 f5 f6 f7, D8 0 0 0 0 0 0 0 0, u 1] (rt (D8 r0 r1 r2 r3 r4 r5 r6 r7)), PureX Try.prog 35 #[D8 r0 r1 r2 r3 r4 r5 r6 r7] (rt (wv z)), PureX Try.prog 36 #[wv x] (rt (bb (p))), (p) = false]) := by kernel_rfl

theorem wrapu {a : Nat} (ha : a < 18446744073709551616) : IntKind.u64.wrap (Int.ofNat a) = Int.ofNat a := by
  rw [IntKind.wrap_u64]
  simp only [Int.ofNat_eq_natCast]
  omega
theorem digits_x (x : Nat) : ∃ d0 d1 d2 d3 d4 d5 d6 d7, d0 < 4294967296 ∧ d1 < 4294967296 ∧ d2 < 4294967296 ∧ d3 < 4294967296 ∧ d4 < 4294967296 ∧ d5 < 4294967296 ∧ d6 < 4294967296 ∧ d7 < 4294967296 ∧ e8 d0 d1 d2 d3 d4 d5 d6 d7 = x % Mw ∧ PureX Try.prog 52 #[wv x] (rt (D8 d0 d1 d2 d3 d4 d5 d6 d7)) := by
  obtain ⟨a0, a1, a2, a3, ha0, ha1, ha2, ha3, ea, ea2, _⟩ := vl_wv x
  have h := runA_pure mix (digits_raw a0 a1 a2 a3) trivial rfl rfl
  rw [wrapu (show a0 / 4294967296 < 18446744073709551616 by omega), wrapu (show a1 / 4294967296 < 18446744073709551616 by omega), wrapu (show a2 / 4294967296 < 18446744073709551616 by omega), wrapu (show a3 / 4294967296 < 18446744073709551616 by omega)] at h
  refine ⟨a0 % 4294967296, a0 / 4294967296, a1 % 4294967296, a1 / 4294967296, a2 % 4294967296, a2 / 4294967296, a3 % 4294967296, a3 / 4294967296, by omega, by omega, by omega, by omega, by omega, by omega, by omega, by omega, ?_, ?_⟩
  · rw [← ea]
    unfold e8 vl
    have k : ∀ a r : Nat, a % 4294967296 + 4294967296 * (a / 4294967296 + 4294967296 * r) = a + 18446744073709551616 * r := by omega
    have k3 : a3 % 4294967296 + 4294967296 * (a3 / 4294967296) = a3 := by omega
    rw [k3, k, k, k]
  · rw [ea2]
    exact h
theorem not_c {d0 d1 d2 d3 d4 d5 d6 d7 : Nat} (hd0 : d0 < 4294967296) (hd1 : d1 < 4294967296) (hd2 : d2 < 4294967296) (hd3 : d3 < 4294967296) (hd4 : d4 < 4294967296) (hd5 : d5 < 4294967296) (hd6 : d6 < 4294967296) (hd7 : d7 < 4294967296) : PureX Try.prog 54 #[D8 d0 d1 d2 d3 d4 d5 d6 d7] (rt (D8 (4294967295 - d0) (4294967295 - d1) (4294967295 - d2) (4294967295 - d3) (4294967295 - d4) (4294967295 - d5) (4294967295 - d6) (4294967295 - d7))) := by
  have h := runA_pure mix (not_raw d0 d1 d2 d3 d4 d5 d6 d7) trivial rfl rfl
  have k : ∀ a : Nat, a < 4294967296 → IntKind.u64.wrap (4294967295 - Int.ofNat a) = Int.ofNat (4294967295 - a) := by
    intro a ha
    rw [IntKind.wrap_u64]
    simp only [Int.ofNat_eq_natCast]
    omega
  rw [k d0 hd0, k d1 hd1, k d2 hd2, k d3 hd3, k d4 hd4, k d5 hd5, k d6 hd6, k d7 hd7] at h
  exact h
theorem wide_c {d0 d1 d2 d3 d4 d5 d6 d7 : Nat} (hd0 : d0 < 4294967296) (hd1 : d1 < 4294967296) (hd2 : d2 < 4294967296) (hd3 : d3 < 4294967296) (hd4 : d4 < 4294967296) (hd5 : d5 < 4294967296) (hd6 : d6 < 4294967296) (hd7 : d7 < 4294967296) : PureX Try.prog 35 #[D8 d0 d1 d2 d3 d4 d5 d6 d7] (rt (wv (e8 d0 d1 d2 d3 d4 d5 d6 d7))) := by
  have h := runA_pure mix (wide_raw d0 d1 d2 d3 d4 d5 d6 d7) trivial rfl rfl
  have k : ∀ a b : Nat, a < 4294967296 → b < 4294967296 → IntKind.u64.wrap (IntKind.u64.wrap (Int.ofNat b * 4294967296) + Int.ofNat a) = Int.ofNat (a + 4294967296 * b) := by
    intro a b ha hb
    rw [IntKind.wrap_u64, IntKind.wrap_u64]
    simp only [Int.ofNat_eq_natCast]
    omega
  rw [k d0 d1 hd0 hd1, k d2 d3 hd2 hd3, k d4 d5 hd4 hd5, k d6 d7 hd6 hd7] at h
  have e : e8 d0 d1 d2 d3 d4 d5 d6 d7 = vl (d0 + 4294967296 * d1) (d2 + 4294967296 * d3) (d4 + 4294967296 * d5) (d6 + 4294967296 * d7) := by
    unfold e8 vl
    have k : ∀ a b r : Nat, a + 4294967296 * (b + 4294967296 * r) = a + 4294967296 * b + 18446744073709551616 * r := by omega
    rw [k, k, k]
  rw [e, wv_vl (by omega) (by omega) (by omega) (by omega)]
  exact h
theorem low_x (x : Nat) : PureX Try.prog 36 #[wv x] (rt (bb (ng x))) := by
  obtain ⟨a0, a1, a2, a3, ha0, ha1, ha2, ha3, ea, ea2, _⟩ := vl_wv x
  have h := runA_pure mix (low_raw a0 a1 a2 a3) trivial rfl rfl
  rw [ea2, ng_mod (x := x) (y := vl a0 a1 a2 a3) (by rw [ea, Nat.mod_mod]), ng_top ha0 ha1 ha2 ha3]
  have e : ((Int.ofNat a3).fdiv (2 ^ Int.toNat 63) == 1) = decide (9223372036854775808 ≤ a3) := by
    rw [Bool.eq_iff_iff, beq_iff_eq, decide_eq_true_iff]
    rw [show ((2 : Int) ^ Int.toNat 63) = 9223372036854775808 from rfl, Int.fdiv_eq_ediv_of_nonneg _ (by decide)]
    simp only [Int.ofNat_eq_natCast]
    omega
  rw [e] at h
  exact h
theorem plus_c {d0 d1 d2 d3 d4 d5 d6 d7 e0 e1 e2 e3 e4 e5 e6 e7 c : Nat} (hd0 : d0 < 4294967296) (hd1 : d1 < 4294967296) (hd2 : d2 < 4294967296) (hd3 : d3 < 4294967296) (hd4 : d4 < 4294967296) (hd5 : d5 < 4294967296) (hd6 : d6 < 4294967296) (hd7 : d7 < 4294967296) (he0 : e0 < 4294967296) (he1 : e1 < 4294967296) (he2 : e2 < 4294967296) (he3 : e3 < 4294967296) (he4 : e4 < 4294967296) (he5 : e5 < 4294967296) (he6 : e6 < 4294967296) (he7 : e7 < 4294967296) (hc : c ≤ 1) : ∃ r0 r1 r2 r3 r4 r5 r6 r7 k, r0 < 4294967296 ∧ r1 < 4294967296 ∧ r2 < 4294967296 ∧ r3 < 4294967296 ∧ r4 < 4294967296 ∧ r5 < 4294967296 ∧ r6 < 4294967296 ∧ r7 < 4294967296 ∧ k ≤ 1 ∧ e8 r0 r1 r2 r3 r4 r5 r6 r7 + Mw * k = e8 d0 d1 d2 d3 d4 d5 d6 d7 + e8 e0 e1 e2 e3 e4 e5 e6 e7 + c ∧ PureX Try.prog 53 #[D8 d0 d1 d2 d3 d4 d5 d6 d7, D8 e0 e1 e2 e3 e4 e5 e6 e7, u c] (rt (D8 r0 r1 r2 r3 r4 r5 r6 r7)) := by
  have h := runA_pure mix (plus_raw d0 d1 d2 d3 d4 d5 d6 d7 e0 e1 e2 e3 e4 e5 e6 e7 c) trivial rfl rfl
  have k0 := pd_spec hd0 he0 hc
  have k1 := pd_spec hd1 he1 k0.2.1
  have k2 := pd_spec hd2 he2 k1.2.1
  have k3 := pd_spec hd3 he3 k2.2.1
  have k4 := pd_spec hd4 he4 k3.2.1
  have k5 := pd_spec hd5 he5 k4.2.1
  have k6 := pd_spec hd6 he6 k5.2.1
  have k7 := pd_spec hd7 he7 k6.2.1
  generalize (pd d7 e7 (pc d6 e6 (pc d5 e5 (pc d4 e4 (pc d3 e3 (pc d2 e2 (pc d1 e1 (pc d0 e0 c)))))))) = r7 at k7 h
  generalize (pc d7 e7 (pc d6 e6 (pc d5 e5 (pc d4 e4 (pc d3 e3 (pc d2 e2 (pc d1 e1 (pc d0 e0 c)))))))) = c8 at k7
  generalize (pd d6 e6 (pc d5 e5 (pc d4 e4 (pc d3 e3 (pc d2 e2 (pc d1 e1 (pc d0 e0 c))))))) = r6 at k6 h
  generalize (pc d6 e6 (pc d5 e5 (pc d4 e4 (pc d3 e3 (pc d2 e2 (pc d1 e1 (pc d0 e0 c))))))) = c7 at k6 k7
  generalize (pd d5 e5 (pc d4 e4 (pc d3 e3 (pc d2 e2 (pc d1 e1 (pc d0 e0 c)))))) = r5 at k5 h
  generalize (pc d5 e5 (pc d4 e4 (pc d3 e3 (pc d2 e2 (pc d1 e1 (pc d0 e0 c)))))) = c6 at k5 k6
  generalize (pd d4 e4 (pc d3 e3 (pc d2 e2 (pc d1 e1 (pc d0 e0 c))))) = r4 at k4 h
  generalize (pc d4 e4 (pc d3 e3 (pc d2 e2 (pc d1 e1 (pc d0 e0 c))))) = c5 at k4 k5
  generalize (pd d3 e3 (pc d2 e2 (pc d1 e1 (pc d0 e0 c)))) = r3 at k3 h
  generalize (pc d3 e3 (pc d2 e2 (pc d1 e1 (pc d0 e0 c)))) = c4 at k3 k4
  generalize (pd d2 e2 (pc d1 e1 (pc d0 e0 c))) = r2 at k2 h
  generalize (pc d2 e2 (pc d1 e1 (pc d0 e0 c))) = c3 at k2 k3
  generalize (pd d1 e1 (pc d0 e0 c)) = r1 at k1 h
  generalize (pc d1 e1 (pc d0 e0 c)) = c2 at k1 k2
  generalize (pd d0 e0 c) = r0 at k0 h
  generalize (pc d0 e0 c) = c1 at k0 k1
  refine ⟨r0, r1, r2, r3, r4, r5, r6, r7, c8, k0.1, k1.1, k2.1, k3.1, k4.1, k5.1, k6.1, k7.1, k7.2.1, ?_, h⟩
  replace k0 := k0.2.2
  replace k1 := k1.2.2
  replace k2 := k2.2.2
  replace k3 := k3.2.2
  replace k4 := k4.2.2
  replace k5 := k5.2.2
  replace k6 := k6.2.2
  replace k7 := k7.2.2
  unfold e8
  simp only [Mw]
  clear h
  omega

theorem e8_not {d0 d1 d2 d3 d4 d5 d6 d7 : Nat} (hd0 : d0 < 4294967296) (hd1 : d1 < 4294967296) (hd2 : d2 < 4294967296) (hd3 : d3 < 4294967296) (hd4 : d4 < 4294967296) (hd5 : d5 < 4294967296) (hd6 : d6 < 4294967296) (hd7 : d7 < 4294967296) : e8 (4294967295 - d0) (4294967295 - d1) (4294967295 - d2) (4294967295 - d3) (4294967295 - d4) (4294967295 - d5) (4294967295 - d6) (4294967295 - d7) + e8 d0 d1 d2 d3 d4 d5 d6 d7 + 1 = Mw := by
  obtain ⟨f0, e0⟩ : ∃ f, f = 4294967295 - d0 := ⟨_, rfl⟩
  have g0 : f0 + d0 = 4294967295 := by omega
  rw [← e0]
  clear e0 hd0
  obtain ⟨f1, e1⟩ : ∃ f, f = 4294967295 - d1 := ⟨_, rfl⟩
  have g1 : f1 + d1 = 4294967295 := by omega
  rw [← e1]
  clear e1 hd1
  obtain ⟨f2, e2⟩ : ∃ f, f = 4294967295 - d2 := ⟨_, rfl⟩
  have g2 : f2 + d2 = 4294967295 := by omega
  rw [← e2]
  clear e2 hd2
  obtain ⟨f3, e3⟩ : ∃ f, f = 4294967295 - d3 := ⟨_, rfl⟩
  have g3 : f3 + d3 = 4294967295 := by omega
  rw [← e3]
  clear e3 hd3
  obtain ⟨f4, e4⟩ : ∃ f, f = 4294967295 - d4 := ⟨_, rfl⟩
  have g4 : f4 + d4 = 4294967295 := by omega
  rw [← e4]
  clear e4 hd4
  obtain ⟨f5, e5⟩ : ∃ f, f = 4294967295 - d5 := ⟨_, rfl⟩
  have g5 : f5 + d5 = 4294967295 := by omega
  rw [← e5]
  clear e5 hd5
  obtain ⟨f6, e6⟩ : ∃ f, f = 4294967295 - d6 := ⟨_, rfl⟩
  have g6 : f6 + d6 = 4294967295 := by omega
  rw [← e6]
  clear e6 hd6
  obtain ⟨f7, e7⟩ : ∃ f, f = 4294967295 - d7 := ⟨_, rfl⟩
  have g7 : f7 + d7 = 4294967295 := by omega
  rw [← e7]
  clear e7 hd7
  have s : ∀ f d F D : Nat, f + d = 4294967295 → f + 4294967296 * F + (d + 4294967296 * D) + 1 = 4294967296 * (F + D + 1) := by
    intro f d F D h
    omega
  unfold e8
  rw [s _ _ _ _ g0, s _ _ _ _ g1, s _ _ _ _ g2, s _ _ _ _ g3, s _ _ _ _ g4, s _ _ _ _ g5, s _ _ _ _ g6, show f7 + d7 + 1 = 4294967296 by omega]
theorem rneg_x (x : Nat) : PureX Try.prog 37 #[wv x] (rt (tp [wv (dif 0 x), bb (subO 0 x)])) := by
  obtain ⟨d0, d1, d2, d3, d4, d5, d6, d7, hd0, hd1, hd2, hd3, hd4, hd5, hd6, hd7, ed, qd⟩ := digits_x x
  have qn := not_c hd0 hd1 hd2 hd3 hd4 hd5 hd6 hd7
  have en := e8_not hd0 hd1 hd2 hd3 hd4 hd5 hd6 hd7
  obtain ⟨r0, r1, r2, r3, r4, r5, r6, r7, k, hr0, hr1, hr2, hr3, hr4, hr5, hr6, hr7, hk, er, qr⟩ := plus_c (show 4294967295 - d0 < 4294967296 by omega) (show 4294967295 - d1 < 4294967296 by omega) (show 4294967295 - d2 < 4294967296 by omega) (show 4294967295 - d3 < 4294967296 by omega) (show 4294967295 - d4 < 4294967296 by omega) (show 4294967295 - d5 < 4294967296 by omega) (show 4294967295 - d6 < 4294967296 by omega) (show 4294967295 - d7 < 4294967296 by omega) (show 0 < 4294967296 by decide) (show 0 < 4294967296 by decide) (show 0 < 4294967296 by decide) (show 0 < 4294967296 by decide) (show 0 < 4294967296 by decide) (show 0 < 4294967296 by decide) (show 0 < 4294967296 by decide) (show 0 < 4294967296 by decide) (c := 1) (by decide)
  have qw := wide_c hr0 hr1 hr2 hr3 hr4 hr5 hr6 hr7
  rw [ed] at en
  generalize e8 (4294967295 - d0) (4294967295 - d1) (4294967295 - d2) (4294967295 - d3) (4294967295 - d4) (4294967295 - d5) (4294967295 - d6) (4294967295 - d7) = N at en er
  rw [show e8 0 0 0 0 0 0 0 0 = 0 from rfl] at er
  have hl : x % Mw < Mw := Nat.mod_lt _ (by decide)
  have hz : dif 0 x % Mw = e8 r0 r1 r2 r3 r4 r5 r6 r7 % Mw := by
    have h2 := congrArg (· % Mw) er
    simp only [Nat.add_mul_mod_self_left] at h2
    rw [h2]
    unfold dif
    rw [show N + 0 + 1 = 0 + (Mw - x % Mw) by omega]
  rw [wv_mod hz.symm] at qw
  clear hz er ed en hl
  have l1 := low_x x
  have l3 := low_x (dif 0 x)
  unfold subO
  rw [show ng 0 = false from rfl]
  generalize ng x = A at l1 ⊢
  generalize ng (dif 0 x) = R at l3 ⊢
  generalize dif 0 x = z at l3 qw ⊢
  cases A
  · exact runA_pure mix (rneg_raw2 x z d0 d1 d2 d3 d4 d5 d6 d7 (4294967295 - d0) (4294967295 - d1) (4294967295 - d2) (4294967295 - d3) (4294967295 - d4) (4294967295 - d5) (4294967295 - d6) (4294967295 - d7) r0 r1 r2 r3 r4 r5 r6 r7 false) ⟨qd, qn, qr, qw, l1, rfl, trivial⟩ rfl rfl
  · have e : (!(false == true) && !(R == false)) = R := by cases R <;> rfl
    rw [e]
    exact runA_pure mix (rneg_raw1 x z d0 d1 d2 d3 d4 d5 d6 d7 (4294967295 - d0) (4294967295 - d1) (4294967295 - d2) (4294967295 - d3) (4294967295 - d4) (4294967295 - d5) (4294967295 - d6) (4294967295 - d7) r0 r1 r2 r3 r4 r5 r6 r7 true R) ⟨qd, qn, qr, qw, l1, rfl, l3, trivial⟩ rfl rfl
theorem rneg_z {x : Int} (hx : inR x) : PureX Try.prog 37 #[wz x] (rt (tp [wz (-x), bb (decide (¬ inR (-x)))])) := by
  have h := rneg_x (nz x)
  have e0 : (0 : Nat) = nz 0 := rfl
  rw [e0, (dif_wv 0 x).1, over_sub (by decide) hx, show (0 : Int) - x = -x by omega] at h
  exact h

end Go.Proofs.Ytpllklojcjhjaaa

/- The document's own Cmp, Sign, Of. -/
namespace Go.Proofs.Ytpllklojcjhjaaa
open Go Go.RowKit
set_option linter.unusedSimpArgs false
set_option linter.unusedVariables false

theorem rcmp_raw1 (x y : Nat) (p q r : Bool) : runA Try.prog 22 #[wv x, wv y] [t, t] [(36, rt (bb (p))), (36, rt (bb (q))), (36, rt (bb (r)))] =
    some (rt (.int .i64 (-1)), [PureX Try.prog 36 #[wv x] (rt (bb (p))), PureX Try.prog 36 #[wv y] (rt (bb (q))), (!(p == q)) = true, PureX Try.prog 36 #[wv x] (rt (bb (r))), (r) = true]) := by kernel_rfl
theorem rcmp_raw2 (x y : Nat) (p q r : Bool) : runA Try.prog 22 #[wv x, wv y] [t, f] [(36, rt (bb (p))), (36, rt (bb (q))), (36, rt (bb (r)))] =
    some (rt (.int .i64 (1)), [PureX Try.prog 36 #[wv x] (rt (bb (p))), PureX Try.prog 36 #[wv y] (rt (bb (q))), (!(p == q)) = true, PureX Try.prog 36 #[wv x] (rt (bb (r))), (r) = false]) := by kernel_rfl
theorem rcmp_a3 (a0 a1 a2 a3 b0 b1 b2 b3 : Nat) (p q : Bool) : runA Try.prog 22 #[W4 a0 a1 a2 a3, W4 b0 b1 b2 b3] [f, n, t] [(36, rt (bb (p))), (36, rt (bb (q)))] =
    some (rt (.int .i64 (-1)), [PureX Try.prog 36 #[W4 a0 a1 a2 a3] (rt (bb (p))), PureX Try.prog 36 #[W4 b0 b1 b2 b3] (rt (bb (q))), (!(p == q)) = false, (decide (Int.ofNat a3 < Int.ofNat b3)) = true]) := by kernel_rfl
theorem rcmp_b3 (a0 a1 a2 a3 b0 b1 b2 b3 : Nat) (p q : Bool) : runA Try.prog 22 #[W4 a0 a1 a2 a3, W4 b0 b1 b2 b3] [f, n, f, t] [(36, rt (bb (p))), (36, rt (bb (q)))] =
    some (rt (.int .i64 (1)), [PureX Try.prog 36 #[W4 a0 a1 a2 a3] (rt (bb (p))), PureX Try.prog 36 #[W4 b0 b1 b2 b3] (rt (bb (q))), (!(p == q)) = false, (decide (Int.ofNat a3 < Int.ofNat b3)) = false, (decide (Int.ofNat b3 < Int.ofNat a3)) = true]) := by kernel_rfl
theorem rcmp_a2 (a0 a1 a2 a3 b0 b1 b2 b3 : Nat) (p q : Bool) : runA Try.prog 22 #[W4 a0 a1 a2 a3, W4 b0 b1 b2 b3] [f, n, f, f, n, t] [(36, rt (bb (p))), (36, rt (bb (q)))] =
    some (rt (.int .i64 (-1)), [PureX Try.prog 36 #[W4 a0 a1 a2 a3] (rt (bb (p))), PureX Try.prog 36 #[W4 b0 b1 b2 b3] (rt (bb (q))), (!(p == q)) = false, (decide (Int.ofNat a3 < Int.ofNat b3)) = false, (decide (Int.ofNat b3 < Int.ofNat a3)) = false, (decide (Int.ofNat a2 < Int.ofNat b2)) = true]) := by kernel_rfl
theorem rcmp_b2 (a0 a1 a2 a3 b0 b1 b2 b3 : Nat) (p q : Bool) : runA Try.prog 22 #[W4 a0 a1 a2 a3, W4 b0 b1 b2 b3] [f, n, f, f, n, f, t] [(36, rt (bb (p))), (36, rt (bb (q)))] =
    some (rt (.int .i64 (1)), [PureX Try.prog 36 #[W4 a0 a1 a2 a3] (rt (bb (p))), PureX Try.prog 36 #[W4 b0 b1 b2 b3] (rt (bb (q))), (!(p == q)) = false, (decide (Int.ofNat a3 < Int.ofNat b3)) = false, (decide (Int.ofNat b3 < Int.ofNat a3)) = false, (decide (Int.ofNat a2 < Int.ofNat b2)) = false, (decide (Int.ofNat b2 < Int.ofNat a2)) = true]) := by kernel_rfl
theorem rcmp_a1 (a0 a1 a2 a3 b0 b1 b2 b3 : Nat) (p q : Bool) : runA Try.prog 22 #[W4 a0 a1 a2 a3, W4 b0 b1 b2 b3] [f, n, f, f, n, f, f, n, t] [(36, rt (bb (p))), (36, rt (bb (q)))] =
    some (rt (.int .i64 (-1)), [PureX Try.prog 36 #[W4 a0 a1 a2 a3] (rt (bb (p))), PureX Try.prog 36 #[W4 b0 b1 b2 b3] (rt (bb (q))), (!(p == q)) = false, (decide (Int.ofNat a3 < Int.ofNat b3)) = false, (decide (Int.ofNat b3 < Int.ofNat a3)) = false, (decide (Int.ofNat a2 < Int.ofNat b2)) = false, (decide (Int.ofNat b2 < Int.ofNat a2)) = false, (decide (Int.ofNat a1 < Int.ofNat b1)) = true]) := by kernel_rfl
theorem rcmp_b1 (a0 a1 a2 a3 b0 b1 b2 b3 : Nat) (p q : Bool) : runA Try.prog 22 #[W4 a0 a1 a2 a3, W4 b0 b1 b2 b3] [f, n, f, f, n, f, f, n, f, t] [(36, rt (bb (p))), (36, rt (bb (q)))] =
    some (rt (.int .i64 (1)), [PureX Try.prog 36 #[W4 a0 a1 a2 a3] (rt (bb (p))), PureX Try.prog 36 #[W4 b0 b1 b2 b3] (rt (bb (q))), (!(p == q)) = false, (decide (Int.ofNat a3 < Int.ofNat b3)) = false, (decide (Int.ofNat b3 < Int.ofNat a3)) = false, (decide (Int.ofNat a2 < Int.ofNat b2)) = false, (decide (Int.ofNat b2 < Int.ofNat a2)) = false, (decide (Int.ofNat a1 < Int.ofNat b1)) = false, (decide (Int.ofNat b1 < Int.ofNat a1)) = true]) := by kernel_rfl
theorem rcmp_a0 (a0 a1 a2 a3 b0 b1 b2 b3 : Nat) (p q : Bool) : runA Try.prog 22 #[W4 a0 a1 a2 a3, W4 b0 b1 b2 b3] [f, n, f, f, n, f, f, n, f, f, n, t] [(36, rt (bb (p))), (36, rt (bb (q)))] =
    some (rt (.int .i64 (-1)), [PureX Try.prog 36 #[W4 a0 a1 a2 a3] (rt (bb (p))), PureX Try.prog 36 #[W4 b0 b1 b2 b3] (rt (bb (q))), (!(p == q)) = false, (decide (Int.ofNat a3 < Int.ofNat b3)) = false, (decide (Int.ofNat b3 < Int.ofNat a3)) = false, (decide (Int.ofNat a2 < Int.ofNat b2)) = false, (decide (Int.ofNat b2 < Int.ofNat a2)) = false, (decide (Int.ofNat a1 < Int.ofNat b1)) = false, (decide (Int.ofNat b1 < Int.ofNat a1)) = false, (decide (Int.ofNat a0 < Int.ofNat b0)) = true]) := by kernel_rfl
theorem rcmp_b0 (a0 a1 a2 a3 b0 b1 b2 b3 : Nat) (p q : Bool) : runA Try.prog 22 #[W4 a0 a1 a2 a3, W4 b0 b1 b2 b3] [f, n, f, f, n, f, f, n, f, f, n, f, t] [(36, rt (bb (p))), (36, rt (bb (q)))] =
    some (rt (.int .i64 (1)), [PureX Try.prog 36 #[W4 a0 a1 a2 a3] (rt (bb (p))), PureX Try.prog 36 #[W4 b0 b1 b2 b3] (rt (bb (q))), (!(p == q)) = false, (decide (Int.ofNat a3 < Int.ofNat b3)) = false, (decide (Int.ofNat b3 < Int.ofNat a3)) = false, (decide (Int.ofNat a2 < Int.ofNat b2)) = false, (decide (Int.ofNat b2 < Int.ofNat a2)) = false, (decide (Int.ofNat a1 < Int.ofNat b1)) = false, (decide (Int.ofNat b1 < Int.ofNat a1)) = false, (decide (Int.ofNat a0 < Int.ofNat b0)) = false, (decide (Int.ofNat b0 < Int.ofNat a0)) = true]) := by kernel_rfl
theorem rcmp_e (a0 a1 a2 a3 b0 b1 b2 b3 : Nat) (p q : Bool) : runA Try.prog 22 #[W4 a0 a1 a2 a3, W4 b0 b1 b2 b3] [f, n, f, f, n, f, f, n, f, f, n, f, f, n] [(36, rt (bb (p))), (36, rt (bb (q)))] =
    some (rt (.int .i64 (0)), [PureX Try.prog 36 #[W4 a0 a1 a2 a3] (rt (bb (p))), PureX Try.prog 36 #[W4 b0 b1 b2 b3] (rt (bb (q))), (!(p == q)) = false, (decide (Int.ofNat a3 < Int.ofNat b3)) = false, (decide (Int.ofNat b3 < Int.ofNat a3)) = false, (decide (Int.ofNat a2 < Int.ofNat b2)) = false, (decide (Int.ofNat b2 < Int.ofNat a2)) = false, (decide (Int.ofNat a1 < Int.ofNat b1)) = false, (decide (Int.ofNat b1 < Int.ofNat a1)) = false, (decide (Int.ofNat a0 < Int.ofNat b0)) = false, (decide (Int.ofNat b0 < Int.ofNat a0)) = false]) := by kernel_rfl
theorem rof_raw1 (x : Int) : runA Try.prog 20 #[.int .i64 (x)] [n, n, f] [] =
    some (rt (.agg ⟨[.int .u64 (IntKind.u64.wrap x), u 0, u 0, u 0]⟩), [(decide (x < 0)) = false]) := by kernel_rfl
theorem rof_raw2 (x : Int) : runA Try.prog 20 #[.int .i64 (x)] [n, n, t, n, n, t, n, n, t, n, n, n] [] =
    some (rt (.agg ⟨[.int .u64 (IntKind.u64.wrap x), .int .u64 (18446744073709551615), .int .u64 (18446744073709551615), .int .u64 (18446744073709551615)]⟩), [(decide (x < 0)) = true, (decide (x < 0)) = true, (decide (x < 0)) = true]) := by kernel_rfl
theorem rof1 (x : Nat) : runA Try.prog 20 #[.int .i64 (1)] [] [] =
    some (rt (wv 1), []) := by kernel_rfl
theorem lt_t {a b : Nat} (h : a < b) : (decide (Int.ofNat a < Int.ofNat b)) = true := by
  rw [decide_eq_true_eq]
  exact Int.ofNat_lt.2 h
theorem lt_f {a b : Nat} (h : ¬ a < b) : (decide (Int.ofNat a < Int.ofNat b)) = false := by
  rw [decide_eq_false_iff_not]
  exact fun c => h (Int.ofNat_lt.1 c)
/-- The order of words, the highest first. -/
theorem rcmp_w {a0 a1 a2 a3 b0 b1 b2 b3 : Nat} (ha0 : a0 < 18446744073709551616) (ha1 : a1 < 18446744073709551616) (ha2 : a2 < 18446744073709551616) (ha3 : a3 < 18446744073709551616) (hb0 : b0 < 18446744073709551616) (hb1 : b1 < 18446744073709551616) (hb2 : b2 < 18446744073709551616) (hb3 : b3 < 18446744073709551616) {p q : Bool}
    (l1 : PureX Try.prog 36 #[W4 a0 a1 a2 a3] (rt (bb p))) (l2 : PureX Try.prog 36 #[W4 b0 b1 b2 b3] (rt (bb q))) (hq : (!(p == q)) = false) :
    PureX Try.prog 22 #[W4 a0 a1 a2 a3, W4 b0 b1 b2 b3] (rt (.int .i64 ((vl a0 a1 a2 a3 : Int) - (vl b0 b1 b2 b3 : Int)).sign)) := by
  by_cases c3 : a3 < b3
  · rw [Int.sign_eq_neg_one_of_neg (by unfold vl; omega)]
    exact runA_pure mix (rcmp_a3 a0 a1 a2 a3 b0 b1 b2 b3 p q) ⟨l1, l2, hq, lt_t c3, trivial⟩ rfl rfl
  by_cases d3 : b3 < a3
  · rw [Int.sign_eq_one_of_pos (by unfold vl; omega)]
    exact runA_pure mix (rcmp_b3 a0 a1 a2 a3 b0 b1 b2 b3 p q) ⟨l1, l2, hq, lt_f c3, lt_t d3, trivial⟩ rfl rfl
  have e3 : a3 = b3 := by omega
  by_cases c2 : a2 < b2
  · rw [Int.sign_eq_neg_one_of_neg (by subst e3; unfold vl; omega)]
    exact runA_pure mix (rcmp_a2 a0 a1 a2 a3 b0 b1 b2 b3 p q) ⟨l1, l2, hq, lt_f c3, lt_f d3, lt_t c2, trivial⟩ rfl rfl
  by_cases d2 : b2 < a2
  · rw [Int.sign_eq_one_of_pos (by subst e3; unfold vl; omega)]
    exact runA_pure mix (rcmp_b2 a0 a1 a2 a3 b0 b1 b2 b3 p q) ⟨l1, l2, hq, lt_f c3, lt_f d3, lt_f c2, lt_t d2, trivial⟩ rfl rfl
  have e2 : a2 = b2 := by omega
  by_cases c1 : a1 < b1
  · rw [Int.sign_eq_neg_one_of_neg (by subst e3 e2; unfold vl; omega)]
    exact runA_pure mix (rcmp_a1 a0 a1 a2 a3 b0 b1 b2 b3 p q) ⟨l1, l2, hq, lt_f c3, lt_f d3, lt_f c2, lt_f d2, lt_t c1, trivial⟩ rfl rfl
  by_cases d1 : b1 < a1
  · rw [Int.sign_eq_one_of_pos (by subst e3 e2; unfold vl; omega)]
    exact runA_pure mix (rcmp_b1 a0 a1 a2 a3 b0 b1 b2 b3 p q) ⟨l1, l2, hq, lt_f c3, lt_f d3, lt_f c2, lt_f d2, lt_f c1, lt_t d1, trivial⟩ rfl rfl
  have e1 : a1 = b1 := by omega
  by_cases c0 : a0 < b0
  · rw [Int.sign_eq_neg_one_of_neg (by subst e3 e2 e1; unfold vl; omega)]
    exact runA_pure mix (rcmp_a0 a0 a1 a2 a3 b0 b1 b2 b3 p q) ⟨l1, l2, hq, lt_f c3, lt_f d3, lt_f c2, lt_f d2, lt_f c1, lt_f d1, lt_t c0, trivial⟩ rfl rfl
  by_cases d0 : b0 < a0
  · rw [Int.sign_eq_one_of_pos (by subst e3 e2 e1; unfold vl; omega)]
    exact runA_pure mix (rcmp_b0 a0 a1 a2 a3 b0 b1 b2 b3 p q) ⟨l1, l2, hq, lt_f c3, lt_f d3, lt_f c2, lt_f d2, lt_f c1, lt_f d1, lt_f c0, lt_t d0, trivial⟩ rfl rfl
  have e0 : a0 = b0 := by omega
  have es : ((vl a0 a1 a2 a3 : Int) - (vl b0 b1 b2 b3 : Int)).sign = 0 := by rw [e3, e2, e1, e0, Int.sub_self]; rfl
  rw [es]
  exact runA_pure mix (rcmp_e a0 a1 a2 a3 b0 b1 b2 b3 p q) ⟨l1, l2, hq, lt_f c3, lt_f d3, lt_f c2, lt_f d2, lt_f c1, lt_f d1, lt_f c0, lt_f d0, trivial⟩ rfl rfl
theorem nz_diff {x y : Int} (hx : inR x) (hy : inR y) (h : decide (x < 0) = decide (y < 0)) : (nz x : Int) - (nz y : Int) = x - y := by
  rw [decide_eq_decide] at h
  rw [nz_cast, nz_cast]
  unfold inR at *
  simp only [Mw]
  omega
theorem rcmp_z {x y : Int} (hx : inR x) (hy : inR y) : PureX Try.prog 22 #[wz x, wz y] (rt (.int .i64 (x - y).sign)) := by
  have l1 := low_x (nz x)
  have l2 := low_x (nz y)
  rw [ng_z hx] at l1
  rw [ng_z hy] at l2
  by_cases hs : decide (x < 0) = decide (y < 0)
  · rw [← nz_diff hx hy hs]
    unfold wz at *
    obtain ⟨a0, a1, a2, a3, ha0, ha1, ha2, ha3, ea, ea2, _⟩ := vl_wv (nz x)
    obtain ⟨b0, b1, b2, b3, hb0, hb1, hb2, hb3, eb, eb2, _⟩ := vl_wv (nz y)
    rw [Nat.mod_eq_of_lt (nz_lt x)] at ea
    rw [Nat.mod_eq_of_lt (nz_lt y)] at eb
    rw [ea2] at l1 ⊢
    rw [eb2] at l2 ⊢
    rw [← ea, ← eb]
    exact rcmp_w ha0 ha1 ha2 ha3 hb0 hb1 hb2 hb3 l1 l2 (by rw [hs, beq_self_eq_true]; rfl)
  · have hq : (!(decide (x < 0) == decide (y < 0))) = true := by
      rw [Bool.not_eq_true', beq_eq_false_iff_ne]
      exact hs
    rw [decide_eq_decide] at hs
    by_cases hx0 : x < 0
    · have hy0 : ¬ y < 0 := fun c => hs ⟨fun _ => c, fun _ => hx0⟩
      rw [Int.sign_eq_neg_one_of_neg (by omega)]
      exact runA_pure mix (rcmp_raw1 (nz x) (nz y) _ _ _) ⟨l1, l2, hq, l1, decide_eq_true hx0, trivial⟩ rfl rfl
    · have hy0 : y < 0 := by
        by_cases c : y < 0
        · exact c
        · exact absurd ⟨fun h => absurd h hx0, fun h => absurd h c⟩ hs
      rw [Int.sign_eq_one_of_pos (by omega)]
      exact runA_pure mix (rcmp_raw2 (nz x) (nz y) _ _ _) ⟨l1, l2, hq, l1, decide_eq_false hx0, trivial⟩ rfl rfl
theorem rof_z {x : Int} (h1 : -9223372036854775808 ≤ x) (h2 : x < 9223372036854775808) : PureX Try.prog 20 #[.int .i64 x] (rt (wz x)) := by
  have hm : ((x % 18446744073709551616).toNat : Int) = x % 18446744073709551616 := Int.toNat_of_nonneg (Int.emod_nonneg _ (by decide))
  have hw : IntKind.u64.wrap x = Int.ofNat (x % 18446744073709551616).toNat := by
    rw [IntKind.wrap_u64, Int.ofNat_eq_natCast, hm]
  have hlt : (x % 18446744073709551616).toNat < 18446744073709551616 := by omega
  by_cases hx : x < 0
  · have h := runA_pure mix (rof_raw2 x) ⟨decide_eq_true hx, decide_eq_true hx, decide_eq_true hx, trivial⟩ rfl rfl
    rw [hw] at h
    have e : wz x = W4 (x % 18446744073709551616).toNat 18446744073709551615 18446744073709551615 18446744073709551615 := by
      rw [← wv_vl hlt (by decide) (by decide) (by decide)]
      symm
      apply nz_of
      unfold vl
      simp only [Mw]
      omega
    rw [e]
    exact h
  · have h := runA_pure mix (rof_raw1 x) ⟨decide_eq_false hx, trivial⟩ rfl rfl
    rw [hw] at h
    have e : wz x = W4 (x % 18446744073709551616).toNat 0 0 0 := by
      rw [← wv_vl hlt (by decide) (by decide) (by decide)]
      symm
      apply nz_of
      unfold vl
      simp only [Mw]
      omega
    rw [e]
    exact h

end Go.Proofs.Ytpllklojcjhjaaa
