/- RootRises, RootFraction, RootHalf, walked. -/
import Derived.Test.YtpbhoamojocbpaaGb
/- RootRises, walked. -/
namespace Go.Proofs.Ytpbhoamojocbpaa
open Go Go.RowKit
set_option linter.unusedSimpArgs false
set_option linter.unusedVariables false

theorem l9_skip1 (a b : Nat) (k : Int) : runA Try.prog 9 #[wv a, wv b, .int .i64 (k)] [] [(32, rt (.int .i64 (-1))), (49, rt (bb (true)))] =
    some (rt (bb (true)), [PureX Try.prog 32 #[wv a] (rt (.int .i64 (-1))), PureX Try.prog 49 #[] (rt (bb (true)))]) := by kernel_rfl
theorem l9_skip2 (a b : Nat) (k s : Int) : runA Try.prog 9 #[wv a, wv b, .int .i64 (k)] [f, n, n, n, n, n] [(32, rt (.int .i64 (s))), (32, rt (.int .i64 (-1))), (49, rt (bb (true)))] =
    some (rt (bb (true)), [PureX Try.prog 32 #[wv a] (rt (.int .i64 (s))), (decide (s < 0)) = false, PureX Try.prog 32 #[wv b] (rt (.int .i64 (-1))), PureX Try.prog 49 #[] (rt (bb (true)))]) := by kernel_rfl
theorem l9_skip3 (a b : Nat) (k s s2 : Int) : runA Try.prog 9 #[wv a, wv b, .int .i64 (k)] [f, n, n, f, n, t] [(32, rt (.int .i64 (s))), (32, rt (.int .i64 (s2))), (49, rt (bb (true)))] =
    some (rt (bb (true)), [PureX Try.prog 32 #[wv a] (rt (.int .i64 (s))), (decide (s < 0)) = false, PureX Try.prog 32 #[wv b] (rt (.int .i64 (s2))), (decide (s2 < 0)) = false, (decide (k < 0)) = true, PureX Try.prog 49 #[] (rt (bb (true)))]) := by kernel_rfl
theorem l9_main (a b x y nn sq r : Nat) (k s s2 i c1 c2 e1 e2 : Int) : runA Try.prog 9 #[wv a, wv b, .int .i64 (k)] [f, n, n, f, n, f, n, n, n, n, n, n, n, n, f, n, f, n, f, n, n, n, n, f, n, n, n, n, n, n, n, f, n, n, n, t] [(32, rt (.int .i64 (s))), (32, rt (.int .i64 (s2))), (37, rt (tp [wv x, .int .i64 (e1)])), (37, rt (tp [wv y, .int .i64 (e2)])), (50, rt (wv nn)), (50, rt (wv nn)), (28, rt (tp [wv sq, bb (false)])), (37, rt (tp [wv r, .int .i64 (0)])), (45, rt (tp [.int .i64 (i), .int .i64 (0)])), (50, rt (wv nn)), (33, rt (.int .i64 (c1))), (33, rt (.int .i64 (c2))), (49, rt (bb (true)))] =
    some (rt (bb (true)), [PureX Try.prog 32 #[wv a] (rt (.int .i64 (s))), (decide (s < 0)) = false, PureX Try.prog 32 #[wv b] (rt (.int .i64 (s2))), (decide (s2 < 0)) = false, (decide (k < 0)) = false, PureX Try.prog 37 #[wv a] (rt (tp [wv x, .int .i64 (e1)])), PureX Try.prog 37 #[wv b] (rt (tp [wv y, .int .i64 (e2)])), PureX Try.prog 50 #[.int .i64 (k)] (rt (wv nn)), PureX Try.prog 50 #[.int .i64 (k)] (rt (wv nn)), PureX Try.prog 28 #[wv nn, wv nn] (rt (tp [wv sq, bb (false)])), PureX Try.prog 37 #[wv sq] (rt (tp [wv r, .int .i64 (0)])), PureX Try.prog 45 #[.int .i64 (k)] (rt (tp [.int .i64 (i), .int .i64 (0)])), PureX Try.prog 50 #[.int .i64 (k)] (rt (wv nn)), (!(eqv r nn)) = false, (decide (i < 0)) = false, (decide (4294967296 < i)) = false, (decide (k < IntKind.i64.wrap (i * i))) = false, (decide (IntKind.i64.wrap (IntKind.i64.wrap (i + 1) * IntKind.i64.wrap (i + 1)) ≤ k)) = false, PureX Try.prog 33 #[wv a, wv b] (rt (.int .i64 (c1))), PureX Try.prog 33 #[wv x, wv y] (rt (.int .i64 (c2))), (decide (0 ≤ IntKind.i64.wrap (c1 * c2))) = true, PureX Try.prog 49 #[] (rt (bb (true)))]) := by kernel_rfl
theorem l9_main2 (a b x y nn sq r : Nat) (k s s2 i c1 c2 e1 e2 : Int) : runA Try.prog 9 #[wv a, wv b, .int .i64 (k)] [f, n, n, f, n, f, n, n, n, n, n, n, n, n, f, n, f, n, f, n, n, n, n, f, n, n, n, n, n, n, n, t, n, n, f, t] [(32, rt (.int .i64 (s))), (32, rt (.int .i64 (s2))), (37, rt (tp [wv x, .int .i64 (e1)])), (37, rt (tp [wv y, .int .i64 (e2)])), (50, rt (wv nn)), (50, rt (wv nn)), (28, rt (tp [wv sq, bb (false)])), (37, rt (tp [wv r, .int .i64 (0)])), (45, rt (tp [.int .i64 (i), .int .i64 (0)])), (50, rt (wv nn)), (33, rt (.int .i64 (c1))), (33, rt (.int .i64 (c2))), (49, rt (bb (true)))] =
    some (rt (bb (true)), [PureX Try.prog 32 #[wv a] (rt (.int .i64 (s))), (decide (s < 0)) = false, PureX Try.prog 32 #[wv b] (rt (.int .i64 (s2))), (decide (s2 < 0)) = false, (decide (k < 0)) = false, PureX Try.prog 37 #[wv a] (rt (tp [wv x, .int .i64 (e1)])), PureX Try.prog 37 #[wv b] (rt (tp [wv y, .int .i64 (e2)])), PureX Try.prog 50 #[.int .i64 (k)] (rt (wv nn)), PureX Try.prog 50 #[.int .i64 (k)] (rt (wv nn)), PureX Try.prog 28 #[wv nn, wv nn] (rt (tp [wv sq, bb (false)])), PureX Try.prog 37 #[wv sq] (rt (tp [wv r, .int .i64 (0)])), PureX Try.prog 45 #[.int .i64 (k)] (rt (tp [.int .i64 (i), .int .i64 (0)])), PureX Try.prog 50 #[.int .i64 (k)] (rt (wv nn)), (!(eqv r nn)) = false, (decide (i < 0)) = false, (decide (4294967296 < i)) = false, (decide (k < IntKind.i64.wrap (i * i))) = false, (decide (IntKind.i64.wrap (IntKind.i64.wrap (i + 1) * IntKind.i64.wrap (i + 1)) ≤ k)) = true, (decide (i < 3037000499)) = false, PureX Try.prog 33 #[wv a, wv b] (rt (.int .i64 (c1))), PureX Try.prog 33 #[wv x, wv y] (rt (.int .i64 (c2))), (decide (0 ≤ IntKind.i64.wrap (c1 * c2))) = true, PureX Try.prog 49 #[] (rt (bb (true)))]) := by kernel_rfl

theorem sign_ge {a : Int} (h : 0 ≤ a) : decide (a.sign < 0) = false := by
  rcases (show a = 0 ∨ 0 < a by omega) with h | h
  · rw [h]; rfl
  · rw [Int.sign_eq_one_of_pos h]; rfl
theorem isq_mono {x y : Nat} (hx : x < 57896044618658097711785492504343953926634992332820282019728792003956564819968) (hy : y < 57896044618658097711785492504343953926634992332820282019728792003956564819968) (h : x ≤ y) : isq x ≤ isq y := by
  refine Nat.le_of_not_lt (fun hc => ?_)
  have h1 := Nat.mul_le_mul (show isq y + 1 ≤ isq x from hc) (show isq y + 1 ≤ isq x from hc)
  have h2 := (isq_ok hx).1
  have h3 := (isq_ok hy).2
  omega
theorem rise_sign {x y : Nat} (hx : x < 57896044618658097711785492504343953926634992332820282019728792003956564819968) (hy : y < 57896044618658097711785492504343953926634992332820282019728792003956564819968) :
    decide (0 ≤ IntKind.i64.wrap (((x : Int) - (y : Int)).sign * ((isq x : Int) - (isq y : Int)).sign)) = true := by
  have w0 : decide (0 ≤ IntKind.i64.wrap 0) = true := by decide
  have w1 : decide (0 ≤ IntKind.i64.wrap 1) = true := by decide
  rcases Nat.lt_trichotomy x y with h | h | h
  · have hm := isq_mono hx hy (Nat.le_of_lt h)
    rw [Int.sign_eq_neg_one_of_neg (show (x : Int) - (y : Int) < 0 by omega)]
    rcases Nat.lt_or_eq_of_le hm with h2 | h2
    · rw [Int.sign_eq_neg_one_of_neg (show (isq x : Int) - (isq y : Int) < 0 by omega)]; exact w1
    · rw [h2, Int.sub_self]; exact w0
  · rw [h, Int.sub_self]; rw [Int.sub_self]; exact w0
  · have hm := isq_mono hy hx (Nat.le_of_lt h)
    rw [Int.sign_eq_one_of_pos (show 0 < (x : Int) - (y : Int) by omega)]
    rcases Nat.lt_or_eq_of_le hm with h2 | h2
    · rw [Int.sign_eq_one_of_pos (show 0 < (isq x : Int) - (isq y : Int) by omega)]; exact w1
    · rw [h2, Int.sub_self]; exact w0
theorem rises_walk {a b k : Int} (ha : inR a) (hb : inR b) (hk : isI k) : PureX Try.prog 9 #[wz a, wz b, .int .i64 k] (rt (bb true)) := by
  have s1 := rsign_z ha
  have s2 := rsign_z hb
  by_cases ca : a < 0
  · rw [Int.sign_eq_neg_one_of_neg ca] at s1
    exact runA_pure mix (l9_skip1 (nz a) (nz b) k) ⟨s1, wakes4_c, trivial⟩ rfl rfl
  have da := sign_ge (show 0 ≤ a by omega)
  by_cases cb : b < 0
  · rw [Int.sign_eq_neg_one_of_neg cb] at s2
    exact runA_pure mix (l9_skip2 (nz a) (nz b) k a.sign) ⟨s1, da, s2, wakes4_c, trivial⟩ rfl rfl
  have db := sign_ge (show 0 ≤ b by omega)
  by_cases ck : k < 0
  · exact runA_pure mix (l9_skip3 (nz a) (nz b) k a.sign b.sign) ⟨s1, da, s2, db, decide_eq_true ck, wakes4_c, trivial⟩ rfl rfl
  obtain ⟨x, rfl⟩ := Int.eq_ofNat_of_zero_le (show 0 ≤ a by omega)
  obtain ⟨y, rfl⟩ := Int.eq_ofNat_of_zero_le (show 0 ≤ b by omega)
  obtain ⟨n0, rfl⟩ := Int.eq_ofNat_of_zero_le (show 0 ≤ k by omega)
  have hx : x < 57896044618658097711785492504343953926634992332820282019728792003956564819968 := by unfold inR at ha; omega
  have hy : y < 57896044618658097711785492504343953926634992332820282019728792003956564819968 := by unfold inR at hb; omega
  have hn : n0 < 9223372036854775808 := by unfold isI at hk; omega
  have f1 := rfl_z hx
  have f2 := rfl_z hy
  have o1 := rof_z hk.1 hk.2
  have hsq : n0 * n0 ≤ 9223372036854775808 * 9223372036854775808 := Nat.mul_le_mul (Nat.le_of_lt hn) (Nat.le_of_lt hn)
  have hsm : n0 * n0 < 57896044618658097711785492504343953926634992332820282019728792003956564819968 := Nat.lt_of_le_of_lt hsq (by decide)
  have m1 := rmul_z (isI_in hk) (isI_in hk)
  rw [show (n0 : Int) * (n0 : Int) = ((n0 * n0 : Nat) : Int) by simp, decide_eq_false (not_not_intro (nat_in hsm).1)] at m1
  have f3 := rfl_z hsm
  have e3 : isq (n0 * n0) = n0 := isq_is hsm (Nat.le_refl _) (Nat.mul_lt_mul_of_lt_of_lt (Nat.lt_succ_self _) (Nat.lt_succ_self _))
  rw [e3] at f3
  have f4 := rint_ok hn
  have c1 := rcmp_z ha hb
  have ix := isq_lt hx
  have iy := isq_lt hy
  have c2 := rcmp_z (x := (isq x : Int)) (y := (isq y : Int)) (by unfold inR; omega) (by unfold inR; omega)
  have q1 : (!(eqv (nz (n0 : Int)) (nz (n0 : Int)))) = false := by rw [eqv_true (isI_in hk) (isI_in hk) rfl]; rfl
  have hkk : decide ((n0 : Int) < 0) = false := decide_eq_false (by omega)
  have hi := isq_ok (x := n0) (by omega)
  obtain ⟨i, hie⟩ : ∃ i, isq n0 = i := ⟨_, rfl⟩
  rw [hie] at hi f4
  have hib : i ≤ 3037000499 := by
    refine Nat.le_of_not_lt (fun hc => ?_)
    have := Nat.mul_le_mul (show 3037000500 ≤ i from hc) (show 3037000500 ≤ i from hc)
    omega
  have t1 : decide ((i : Int) < 0) = false := decide_eq_false (by omega)
  have t2 : decide (4294967296 < (i : Int)) = false := decide_eq_false (by omega)
  have w1 : IntKind.i64.wrap ((i : Int) * (i : Int)) = ((i * i : Nat) : Int) := by
    rw [show (i : Int) * (i : Int) = ((i * i : Nat) : Int) by simp]
    exact wrap_small ⟨by omega, by omega⟩
  have t3 : decide ((n0 : Int) < IntKind.i64.wrap ((i : Int) * (i : Int))) = false := by rw [w1]; exact decide_eq_false (by omega)
  have w2 : IntKind.i64.wrap ((i : Int) + 1) = ((i + 1 : Nat) : Int) := by
    rw [show (i : Int) + 1 = ((i + 1 : Nat) : Int) by omega]
    exact wrap_small ⟨by omega, by omega⟩
  have g := rise_sign hx hy
  rcases Nat.lt_or_eq_of_le hib with h | h
  · have hle : (i + 1) * (i + 1) ≤ 3037000499 * 3037000499 := Nat.mul_le_mul (by omega) (by omega)
    have t4 : decide (IntKind.i64.wrap (IntKind.i64.wrap ((i : Int) + 1) * IntKind.i64.wrap ((i : Int) + 1)) ≤ (n0 : Int)) = false := by
      rw [w2, show ((i + 1 : Nat) : Int) * ((i + 1 : Nat) : Int) = (((i + 1) * (i + 1) : Nat) : Int) by simp, wrap_small ⟨by omega, by omega⟩]
      exact decide_eq_false (by omega)
    exact runA_pure mix (l9_main (nz (x : Int)) (nz (y : Int)) (nz (isq x : Int)) (nz (isq y : Int)) (nz (n0 : Int)) (nz ((n0 * n0 : Nat) : Int)) (nz (n0 : Int)) (n0 : Int) _ _ (i : Int) _ _ _ _) ⟨s1, da, s2, db, hkk, f1, f2, o1, o1, m1, f3, f4, o1, q1, t1, t2, t3, t4, c1, c2, g, wakes4_c, trivial⟩ rfl rfl
  · subst h
    have t4 : decide (IntKind.i64.wrap (IntKind.i64.wrap (((3037000499 : Nat) : Int) + 1) * IntKind.i64.wrap (((3037000499 : Nat) : Int) + 1)) ≤ (n0 : Int)) = true := by
      rw [w2, show IntKind.i64.wrap (((3037000499 + 1 : Nat) : Int) * ((3037000499 + 1 : Nat) : Int)) = -9223372036709301616 by decide]
      exact decide_eq_true (by omega)
    have t5 : decide (((3037000499 : Nat) : Int) < 3037000499) = false := by decide
    exact runA_pure mix (l9_main2 (nz (x : Int)) (nz (y : Int)) (nz (isq x : Int)) (nz (isq y : Int)) (nz (n0 : Int)) (nz ((n0 * n0 : Nat) : Int)) (nz (n0 : Int)) (n0 : Int) _ _ ((3037000499 : Nat) : Int) _ _ _ _) ⟨s1, da, s2, db, hkk, f1, f2, o1, o1, m1, f3, f4, o1, q1, t1, t2, t3, t4, t5, c1, c2, g, wakes4_c, trivial⟩ rfl rfl

end Go.Proofs.Ytpbhoamojocbpaa

/- RootFraction, walked. -/
namespace Go.Proofs.Ytpbhoamojocbpaa
open Go Go.RowKit
set_option linter.unusedSimpArgs false
set_option linter.unusedVariables false

theorem l10_s1 (a b : Nat) : runA Try.prog 10 #[wv a, wv b] [] [(32, rt (.int .i64 (-1))), (49, rt (bb (true)))] =
    some (rt (bb (true)), [PureX Try.prog 32 #[wv a] (rt (.int .i64 (-1))), PureX Try.prog 49 #[] (rt (bb (true)))]) := by kernel_rfl
theorem l10_s2 (a b : Nat) (s s2 : Int) : runA Try.prog 10 #[wv a, wv b] [f, n, n, t, n, n, n, n, n, n, n, n, n, n, n, n] [(32, rt (.int .i64 (s))), (32, rt (.int .i64 (s2))), (49, rt (bb (true)))] =
    some (rt (bb (true)), [PureX Try.prog 32 #[wv a] (rt (.int .i64 (s))), (decide (s < 0)) = false, PureX Try.prog 32 #[wv b] (rt (.int .i64 (s2))), (decide (s2 ≤ 0)) = true, PureX Try.prog 49 #[] (rt (bb (true)))]) := by kernel_rfl
theorem l10_s3 (a b : Nat) (s s2 : Int) : runA Try.prog 10 #[wv a, wv b] [f, n, n, f, n, n, t, n, n, n, n, n, n, n, n, n] [(32, rt (.int .i64 (s))), (32, rt (.int .i64 (s2))), (49, rt (bb (true)))] =
    some (rt (bb (true)), [PureX Try.prog 32 #[wv a] (rt (.int .i64 (s))), (decide (s < 0)) = false, PureX Try.prog 32 #[wv b] (rt (.int .i64 (s2))), (decide (s2 ≤ 0)) = false, (decide (288230376151711744 ≤ Int.ofNat (a / 6277101735386680763835789423207666416102355444464034512896 % 18446744073709551616))) = true, PureX Try.prog 49 #[] (rt (bb (true)))]) := by kernel_rfl
theorem l10_s4 (a b : Nat) (s s2 : Int) : runA Try.prog 10 #[wv a, wv b] [f, n, n, f, n, n, f, n, n, t, n, n, n, n, n, n] [(32, rt (.int .i64 (s))), (32, rt (.int .i64 (s2))), (49, rt (bb (true)))] =
    some (rt (bb (true)), [PureX Try.prog 32 #[wv a] (rt (.int .i64 (s))), (decide (s < 0)) = false, PureX Try.prog 32 #[wv b] (rt (.int .i64 (s2))), (decide (s2 ≤ 0)) = false, (decide (288230376151711744 ≤ Int.ofNat (a / 6277101735386680763835789423207666416102355444464034512896 % 18446744073709551616))) = false, (decide (1152921504606846976 ≤ Int.ofNat (b / 18446744073709551616 % 18446744073709551616))) = true, PureX Try.prog 49 #[] (rt (bb (true)))]) := by kernel_rfl
theorem l10_s5 (a b : Nat) (s s2 : Int) : runA Try.prog 10 #[wv a, wv b] [f, n, n, f, n, n, f, n, n, f, n, n, t, n, n, n] [(32, rt (.int .i64 (s))), (32, rt (.int .i64 (s2))), (49, rt (bb (true)))] =
    some (rt (bb (true)), [PureX Try.prog 32 #[wv a] (rt (.int .i64 (s))), (decide (s < 0)) = false, PureX Try.prog 32 #[wv b] (rt (.int .i64 (s2))), (decide (s2 ≤ 0)) = false, (decide (288230376151711744 ≤ Int.ofNat (a / 6277101735386680763835789423207666416102355444464034512896 % 18446744073709551616))) = false, (decide (1152921504606846976 ≤ Int.ofNat (b / 18446744073709551616 % 18446744073709551616))) = false, (Int.ofNat (b / 340282366920938463463374607431768211456 % 18446744073709551616) != 0) = true, PureX Try.prog 49 #[] (rt (bb (true)))]) := by kernel_rfl
theorem l10_s6 (a b : Nat) (s s2 : Int) : runA Try.prog 10 #[wv a, wv b] [f, n, n, f, n, n, f, n, n, f, n, n, f, n, n, t] [(32, rt (.int .i64 (s))), (32, rt (.int .i64 (s2))), (49, rt (bb (true)))] =
    some (rt (bb (true)), [PureX Try.prog 32 #[wv a] (rt (.int .i64 (s))), (decide (s < 0)) = false, PureX Try.prog 32 #[wv b] (rt (.int .i64 (s2))), (decide (s2 ≤ 0)) = false, (decide (288230376151711744 ≤ Int.ofNat (a / 6277101735386680763835789423207666416102355444464034512896 % 18446744073709551616))) = false, (decide (1152921504606846976 ≤ Int.ofNat (b / 18446744073709551616 % 18446744073709551616))) = false, (Int.ofNat (b / 340282366920938463463374607431768211456 % 18446744073709551616) != 0) = false, (Int.ofNat (b / 6277101735386680763835789423207666416102355444464034512896 % 18446744073709551616) != 0) = true, PureX Try.prog 49 #[] (rt (bb (true)))]) := by kernel_rfl
theorem l10_a (a b r one nx lo lw hg hh : Nat) (s s2 s3 c1 c2 : Int) (o1 o2 o3 o4 oa : Bool) : runA Try.prog 10 #[wv a, wv b] [f, n, n, f, n, n, f, n, n, f, n, n, f, n, n, f, n, f, f, n, n, f, n, n, n, f, f, f, n, n, n, t] [(32, rt (.int .i64 (s))), (32, rt (.int .i64 (s2))), (41, rt (tp [wv r, .int .i64 (0)])), (50, rt (wv one)), (29, rt (tp [wv nx, bb (oa)])), (28, rt (tp [wv lo, bb (o1)])), (28, rt (tp [wv lw, bb (o2)])), (28, rt (tp [wv hg, bb (o3)])), (28, rt (tp [wv hh, bb (o4)])), (32, rt (.int .i64 (s3))), (33, rt (.int .i64 (c1))), (33, rt (.int .i64 (c2))), (49, rt (bb (true)))] =
    some (rt (bb (true)), [PureX Try.prog 32 #[wv a] (rt (.int .i64 (s))), (decide (s < 0)) = false, PureX Try.prog 32 #[wv b] (rt (.int .i64 (s2))), (decide (s2 ≤ 0)) = false, (decide (288230376151711744 ≤ Int.ofNat (a / 6277101735386680763835789423207666416102355444464034512896 % 18446744073709551616))) = false, (decide (1152921504606846976 ≤ Int.ofNat (b / 18446744073709551616 % 18446744073709551616))) = false, (Int.ofNat (b / 340282366920938463463374607431768211456 % 18446744073709551616) != 0) = false, (Int.ofNat (b / 6277101735386680763835789423207666416102355444464034512896 % 18446744073709551616) != 0) = false, PureX Try.prog 41 #[wv a, wv b] (rt (tp [wv r, .int .i64 (0)])), PureX Try.prog 50 #[.int .i64 (1)] (rt (wv one)), PureX Try.prog 29 #[wv r, wv one] (rt (tp [wv nx, bb (oa)])), PureX Try.prog 28 #[wv r, wv r] (rt (tp [wv lo, bb (o1)])), PureX Try.prog 28 #[wv lo, wv b] (rt (tp [wv lw, bb (o2)])), PureX Try.prog 28 #[wv nx, wv nx] (rt (tp [wv hg, bb (o3)])), PureX Try.prog 28 #[wv hg, wv b] (rt (tp [wv hh, bb (o4)])), (o1) = false, (o2) = false, PureX Try.prog 32 #[wv r] (rt (.int .i64 (s3))), (decide (s3 < 0)) = false, PureX Try.prog 33 #[wv lw, wv a] (rt (.int .i64 (c1))), (decide (0 < c1)) = false, (o3) = false, (o4) = false, PureX Try.prog 33 #[wv hh, wv a] (rt (.int .i64 (c2))), (decide (0 < c2)) = true, PureX Try.prog 49 #[] (rt (bb (true)))]) := by kernel_rfl

/-- r, squared, times b, is at most a; of the next one it is more. -/
theorem frac_sq {a b R : Nat} (hb : 0 < b) (h1 : R * R ≤ a / b) (h2 : a / b < (R + 1) * (R + 1)) : R * R * b ≤ a ∧ a < (R + 1) * (R + 1) * b :=
  ⟨(Nat.le_div_iff_mul_le hb).1 h1, (Nat.div_lt_iff_lt_mul hb).1 h2⟩
theorem frac_small {a b R : Nat} (ha : a < 1809251394333065553493296640760748560207343510400633813116524750123642650624) (hb : b < 21267647932558653966460912964485513216) (hb0 : 0 < b) (h : R * R * b ≤ a) :
    R < 42535295865117307932921825928971026432 ∧ R * b < 196159429230833773869868419475239575503198607639501078528 := by
  constructor
  · refine Nat.lt_of_not_le (fun hc => ?_)
    have h2 := Nat.mul_le_mul hc hc
    have h3 : R * R * 1 ≤ R * R * b := Nat.mul_le_mul_left _ hb0
    omega
  · refine Nat.lt_of_not_le (fun hc => ?_)
    have h2 := Nat.mul_le_mul hc hc
    have h3 : R * b * (R * b) = R * R * b * b := by simp only [Nat.mul_comm, Nat.mul_left_comm, Nat.mul_assoc]
    have h4 : R * R * b * b ≤ a * b := Nat.mul_le_mul_right _ h
    have h5 : a * b ≤ 1809251394333065553493296640760748560207343510400633813116524750123642650624 * 21267647932558653966460912964485513216 := Nat.mul_le_mul (Nat.le_of_lt ha) (Nat.le_of_lt hb)
    rw [h3] at h2
    have h6 : 1809251394333065553493296640760748560207343510400633813116524750123642650624 * 21267647932558653966460912964485513216 < 196159429230833773869868419475239575503198607639501078528 * 196159429230833773869868419475239575503198607639501078528 + 1 := of_decide_eq_true (by kernel_rfl)
    have h7 := Nat.le_trans h2 (Nat.le_trans h4 h5)
    have h8 : a * b < 1809251394333065553493296640760748560207343510400633813116524750123642650624 * 21267647932558653966460912964485513216 := Nat.mul_lt_mul'' ha hb
    have h9 : 1809251394333065553493296640760748560207343510400633813116524750123642650624 * 21267647932558653966460912964485513216 = 196159429230833773869868419475239575503198607639501078528 * 196159429230833773869868419475239575503198607639501078528 := by kernel_rfl
    have h10 := Nat.lt_of_le_of_lt h4 h8
    rw [h9] at h10
    exact Nat.lt_irrefl _ (Nat.lt_of_le_of_lt h2 h10)
theorem ov_false {z : Int} (h : inR z) : decide (¬ inR z) = false := decide_eq_false (not_not_intro h)
theorem natmul (x y : Nat) : ((x : Int) * (y : Int)) = ((x * y : Nat) : Int) := by simp
theorem frac_walk {a b : Int} (ha : inR a) (hb : inR b) : PureX Try.prog 10 #[wz a, wz b] (rt (bb true)) := by
  have s1 := rsign_z ha
  have s2 := rsign_z hb
  by_cases ca : a < 0
  · rw [Int.sign_eq_neg_one_of_neg ca] at s1
    exact runA_pure mix (l10_s1 (nz a) (nz b)) ⟨s1, wakes4_c, trivial⟩ rfl rfl
  have da := sign_ge (show 0 ≤ a by omega)
  by_cases cb : b ≤ 0
  · have db : decide (b.sign ≤ 0) = true := by
      rcases (show b = 0 ∨ b < 0 by omega) with h | h
      · rw [h]; rfl
      · rw [Int.sign_eq_neg_one_of_neg h]; rfl
    exact runA_pure mix (l10_s2 (nz a) (nz b) a.sign b.sign) ⟨s1, da, s2, db, wakes4_c, trivial⟩ rfl rfl
  have db : decide (b.sign ≤ 0) = false := by rw [Int.sign_eq_one_of_pos (by omega)]; rfl
  obtain ⟨x, rfl⟩ := Int.eq_ofNat_of_zero_le (show 0 ≤ a by omega)
  obtain ⟨y, rfl⟩ := Int.eq_ofNat_of_zero_le (show 0 ≤ b by omega)
  have hx : x < 57896044618658097711785492504343953926634992332820282019728792003956564819968 := by unfold inR at ha; omega
  have hy : y < 57896044618658097711785492504343953926634992332820282019728792003956564819968 := by unfold inR at hb; omega
  have nx := nz_nat (x := x) (by unfold Mw; omega)
  have ny := nz_nat (x := y) (by unfold Mw; omega)
  by_cases c3 : (288230376151711744 : Int) ≤ Int.ofNat (nz (x : Int) / 6277101735386680763835789423207666416102355444464034512896 % 18446744073709551616)
  · exact runA_pure mix (l10_s3 (nz (x : Int)) (nz (y : Int)) _ _) ⟨s1, da, s2, db, decide_eq_true c3, wakes4_c, trivial⟩ rfl rfl
  have d3 := decide_eq_false c3
  by_cases c4 : (1152921504606846976 : Int) ≤ Int.ofNat (nz (y : Int) / 18446744073709551616 % 18446744073709551616)
  · exact runA_pure mix (l10_s4 (nz (x : Int)) (nz (y : Int)) _ _) ⟨s1, da, s2, db, d3, decide_eq_true c4, wakes4_c, trivial⟩ rfl rfl
  have d4 := decide_eq_false c4
  by_cases c5 : nz (y : Int) / 340282366920938463463374607431768211456 % 18446744073709551616 = 0
  case neg => exact runA_pure mix (l10_s5 (nz (x : Int)) (nz (y : Int)) _ _) ⟨s1, da, s2, db, d3, d4, ofNat_ne c5, wakes4_c, trivial⟩ rfl rfl
  have d5 : (Int.ofNat (nz (y : Int) / 340282366920938463463374607431768211456 % 18446744073709551616) != 0) = false := by rw [c5]; rfl
  by_cases c6 : nz (y : Int) / 6277101735386680763835789423207666416102355444464034512896 % 18446744073709551616 = 0
  case neg => exact runA_pure mix (l10_s6 (nz (x : Int)) (nz (y : Int)) _ _) ⟨s1, da, s2, db, d3, d4, d5, ofNat_ne c6, wakes4_c, trivial⟩ rfl rfl
  have d6 : (Int.ofNat (nz (y : Int) / 6277101735386680763835789423207666416102355444464034512896 % 18446744073709551616) != 0) = false := by rw [c6]; rfl
  have hx2 : x < 1809251394333065553493296640760748560207343510400633813116524750123642650624 := by
    rw [nx] at c3
    have c3' : ¬ (288230376151711744 : Int) ≤ ((x / 6277101735386680763835789423207666416102355444464034512896 % 18446744073709551616 : Nat) : Int) := c3
    omega
  have hy2 : y < 21267647932558653966460912964485513216 := by
    rw [ny] at c4 c5 c6
    have c4' : ¬ (1152921504606846976 : Int) ≤ ((y / 18446744073709551616 % 18446744073709551616 : Nat) : Int) := c4
    omega
  have hy0 : 0 < y := by omega
  have hq : x / y < 57896044618658097711785492504343953926634992332820282019728792003956564819968 := Nat.lt_of_le_of_lt (Nat.div_le_self _ _) hx
  have f1 := rof_frac hx hy hy0
  obtain ⟨k1, k2⟩ := isq_ok hq
  obtain ⟨R, hR⟩ : ∃ R, isq (x / y) = R := ⟨_, rfl⟩
  rw [hR] at k1 k2 f1
  obtain ⟨g1, g2⟩ := frac_sq hy0 k1 k2
  obtain ⟨b1, b2⟩ := frac_small hx2 hy2 hy0 g1
  have o1 := rof_z (x := 1) (by decide) (by decide)
  have rr : R * R ≤ 42535295865117307932921825928971026432 * 42535295865117307932921825928971026432 := Nat.mul_le_mul (Nat.le_of_lt b1) (Nat.le_of_lt b1)
  have r1 : (R + 1) * (R + 1) ≤ 42535295865117307932921825928971026432 * 42535295865117307932921825928971026432 := Nat.mul_le_mul b1 b1
  have hh : (R + 1) * (R + 1) * y = R * R * y + 2 * (R * y) + y := by
    rw [Nat.add_mul R 1, Nat.mul_add R R 1, Nat.mul_one, Nat.one_mul, Nat.add_mul, Nat.add_mul, Nat.add_mul, Nat.one_mul]
    omega
  have iR : inR (R : Int) := (nat_in (x := R) (by omega)).1
  have a1 := radd_z (x := (R : Int)) (y := 1) iR (by decide)
  rw [show (R : Int) + 1 = ((R + 1 : Nat) : Int) by omega] at a1
  have iR1 : inR ((R + 1 : Nat) : Int) := (nat_in (x := R + 1) (by omega)).1
  have iRR : inR ((R * R : Nat) : Int) := (nat_in (by omega)).1
  have iR1R : inR (((R + 1) * (R + 1) : Nat) : Int) := (nat_in (by omega)).1
  have m1 := rmul_z iR iR
  rw [natmul, ov_false iRR] at m1
  have iL : inR ((R * R * y : Nat) : Int) := (nat_in (by omega)).1
  have iH : inR (((R + 1) * (R + 1) * y : Nat) : Int) := (nat_in (by omega)).1
  have m2 := rmul_z iRR hb
  rw [natmul, ov_false iL] at m2
  have m3 := rmul_z iR1 iR1
  rw [natmul, ov_false iR1R] at m3
  have m4 := rmul_z iR1R hb
  rw [natmul, ov_false iH] at m4
  have s3 := rsign_z iR
  have d7 := sign_ge (a := (R : Int)) (by omega)
  have c1 := rcmp_z iL ha
  have c2 := rcmp_z iH ha
  have d8 : decide (0 < (((R * R * y : Nat) : Int) - (x : Int)).sign) = false := by
    rcases (show ((R * R * y : Nat) : Int) - (x : Int) = 0 ∨ ((R * R * y : Nat) : Int) - (x : Int) < 0 by omega) with h | h
    · rw [h]; rfl
    · rw [Int.sign_eq_neg_one_of_neg h]; rfl
  rw [Int.sign_eq_one_of_pos (show 0 < (((R + 1) * (R + 1) * y : Nat) : Int) - (x : Int) by omega)] at c2
  exact runA_pure mix (l10_a (nz (x : Int)) (nz (y : Int)) (nz (R : Int)) (nz 1) (nz ((R + 1 : Nat) : Int)) (nz ((R * R : Nat) : Int)) (nz ((R * R * y : Nat) : Int)) (nz (((R + 1) * (R + 1) : Nat) : Int)) (nz (((R + 1) * (R + 1) * y : Nat) : Int)) _ _ _ _ 1 _ _ _ _ _) ⟨s1, da, s2, db, d3, d4, d5, d6, f1, o1, a1, m1, m2, m3, m4, rfl, rfl, s3, d7, c1, d8, rfl, rfl, c2, rfl, wakes4_c, trivial⟩ rfl rfl

end Go.Proofs.Ytpbhoamojocbpaa

/- RootHalf, walked. -/
namespace Go.Proofs.Ytpbhoamojocbpaa
open Go Go.RowKit
set_option linter.unusedSimpArgs false
set_option linter.unusedVariables false

theorem l11_s1 (a b : Nat) : runA Try.prog 11 #[wv a, wv b] [] [(32, rt (.int .i64 (-1))), (49, rt (bb (true)))] =
    some (rt (bb (true)), [PureX Try.prog 32 #[wv a] (rt (.int .i64 (-1))), PureX Try.prog 49 #[] (rt (bb (true)))]) := by kernel_rfl
theorem l11_s2 (a b : Nat) (s s2 : Int) : runA Try.prog 11 #[wv a, wv b] [f, n, n, t, n, n, n, n, n, n, n, n, n, n, n, n] [(32, rt (.int .i64 (s))), (32, rt (.int .i64 (s2))), (49, rt (bb (true)))] =
    some (rt (bb (true)), [PureX Try.prog 32 #[wv a] (rt (.int .i64 (s))), (decide (s < 0)) = false, PureX Try.prog 32 #[wv b] (rt (.int .i64 (s2))), (decide (s2 ≤ 0)) = true, PureX Try.prog 49 #[] (rt (bb (true)))]) := by kernel_rfl
theorem l11_s3 (a b : Nat) (s s2 : Int) : runA Try.prog 11 #[wv a, wv b] [f, n, n, f, n, n, t, n, n, n, n, n, n, n, n, n] [(32, rt (.int .i64 (s))), (32, rt (.int .i64 (s2))), (49, rt (bb (true)))] =
    some (rt (bb (true)), [PureX Try.prog 32 #[wv a] (rt (.int .i64 (s))), (decide (s < 0)) = false, PureX Try.prog 32 #[wv b] (rt (.int .i64 (s2))), (decide (s2 ≤ 0)) = false, (decide (288230376151711744 ≤ Int.ofNat (a / 6277101735386680763835789423207666416102355444464034512896 % 18446744073709551616))) = true, PureX Try.prog 49 #[] (rt (bb (true)))]) := by kernel_rfl
theorem l11_s4 (a b : Nat) (s s2 : Int) : runA Try.prog 11 #[wv a, wv b] [f, n, n, f, n, n, f, n, n, t, n, n, n, n, n, n] [(32, rt (.int .i64 (s))), (32, rt (.int .i64 (s2))), (49, rt (bb (true)))] =
    some (rt (bb (true)), [PureX Try.prog 32 #[wv a] (rt (.int .i64 (s))), (decide (s < 0)) = false, PureX Try.prog 32 #[wv b] (rt (.int .i64 (s2))), (decide (s2 ≤ 0)) = false, (decide (288230376151711744 ≤ Int.ofNat (a / 6277101735386680763835789423207666416102355444464034512896 % 18446744073709551616))) = false, (decide (1152921504606846976 ≤ Int.ofNat (b / 18446744073709551616 % 18446744073709551616))) = true, PureX Try.prog 49 #[] (rt (bb (true)))]) := by kernel_rfl
theorem l11_s5 (a b : Nat) (s s2 : Int) : runA Try.prog 11 #[wv a, wv b] [f, n, n, f, n, n, f, n, n, f, n, n, t, n, n, n] [(32, rt (.int .i64 (s))), (32, rt (.int .i64 (s2))), (49, rt (bb (true)))] =
    some (rt (bb (true)), [PureX Try.prog 32 #[wv a] (rt (.int .i64 (s))), (decide (s < 0)) = false, PureX Try.prog 32 #[wv b] (rt (.int .i64 (s2))), (decide (s2 ≤ 0)) = false, (decide (288230376151711744 ≤ Int.ofNat (a / 6277101735386680763835789423207666416102355444464034512896 % 18446744073709551616))) = false, (decide (1152921504606846976 ≤ Int.ofNat (b / 18446744073709551616 % 18446744073709551616))) = false, (Int.ofNat (b / 340282366920938463463374607431768211456 % 18446744073709551616) != 0) = true, PureX Try.prog 49 #[] (rt (bb (true)))]) := by kernel_rfl
theorem l11_s6 (a b : Nat) (s s2 : Int) : runA Try.prog 11 #[wv a, wv b] [f, n, n, f, n, n, f, n, n, f, n, n, f, n, n, t] [(32, rt (.int .i64 (s))), (32, rt (.int .i64 (s2))), (49, rt (bb (true)))] =
    some (rt (bb (true)), [PureX Try.prog 32 #[wv a] (rt (.int .i64 (s))), (decide (s < 0)) = false, PureX Try.prog 32 #[wv b] (rt (.int .i64 (s2))), (decide (s2 ≤ 0)) = false, (decide (288230376151711744 ≤ Int.ofNat (a / 6277101735386680763835789423207666416102355444464034512896 % 18446744073709551616))) = false, (decide (1152921504606846976 ≤ Int.ofNat (b / 18446744073709551616 % 18446744073709551616))) = false, (Int.ofNat (b / 340282366920938463463374607431768211456 % 18446744073709551616) != 0) = false, (Int.ofNat (b / 6277101735386680763835789423207666416102355444464034512896 % 18446744073709551616) != 0) = true, PureX Try.prog 49 #[] (rt (bb (true)))]) := by kernel_rfl
theorem l11_a (a b h tw one le mo lo lw hg hh : Nat) (s s2 s3 c1 c2 : Int) (o1 o2 o3 o4 oa ob oc : Bool) : runA Try.prog 11 #[wv a, wv b] [f, n, n, f, n, n, f, n, n, f, n, n, f, n, n, f, n, n, n, f, n, n, n, t, n, f, n, n, f, n, n, n, n, n, f, f, f, n, n, n, t] [(32, rt (.int .i64 (s))), (32, rt (.int .i64 (s2))), (43, rt (tp [wv h, .int .i64 (0)])), (29, rt (tp [wv tw, bb (oa)])), (50, rt (wv one)), (30, rt (tp [wv le, bb (ob)])), (50, rt (wv one)), (29, rt (tp [wv mo, bb (oc)])), (28, rt (tp [wv lo, bb (o1)])), (28, rt (tp [wv lw, bb (o2)])), (28, rt (tp [wv hg, bb (o3)])), (28, rt (tp [wv hh, bb (o4)])), (32, rt (.int .i64 (s3))), (33, rt (.int .i64 (c1))), (33, rt (.int .i64 (c2))), (49, rt (bb (true)))] =
    some (rt (bb (true)), [PureX Try.prog 32 #[wv a] (rt (.int .i64 (s))), (decide (s < 0)) = false, PureX Try.prog 32 #[wv b] (rt (.int .i64 (s2))), (decide (s2 ≤ 0)) = false, (decide (288230376151711744 ≤ Int.ofNat (a / 6277101735386680763835789423207666416102355444464034512896 % 18446744073709551616))) = false, (decide (1152921504606846976 ≤ Int.ofNat (b / 18446744073709551616 % 18446744073709551616))) = false, (Int.ofNat (b / 340282366920938463463374607431768211456 % 18446744073709551616) != 0) = false, (Int.ofNat (b / 6277101735386680763835789423207666416102355444464034512896 % 18446744073709551616) != 0) = false, PureX Try.prog 43 #[wv a, wv b] (rt (tp [wv h, .int .i64 (0)])), PureX Try.prog 29 #[wv h, wv h] (rt (tp [wv tw, bb (oa)])), PureX Try.prog 50 #[.int .i64 (1)] (rt (wv one)), PureX Try.prog 30 #[wv tw, wv one] (rt (tp [wv le, bb (ob)])), PureX Try.prog 50 #[.int .i64 (1)] (rt (wv one)), PureX Try.prog 29 #[wv tw, wv one] (rt (tp [wv mo, bb (oc)])), PureX Try.prog 28 #[wv le, wv le] (rt (tp [wv lo, bb (o1)])), PureX Try.prog 28 #[wv lo, wv b] (rt (tp [wv lw, bb (o2)])), PureX Try.prog 28 #[wv mo, wv mo] (rt (tp [wv hg, bb (o3)])), PureX Try.prog 28 #[wv hg, wv b] (rt (tp [wv hh, bb (o4)])), PureX Try.prog 32 #[wv h] (rt (.int .i64 (s3))), (decide (s3 < 0)) = false, (!(eqv h 0)) = true, (o1) = false, (o2) = false, PureX Try.prog 33 #[wv lw, wv a] (rt (.int .i64 (c1))), (decide (0 < c1)) = false, (o3) = false, (o4) = false, PureX Try.prog 33 #[wv hh, wv a] (rt (.int .i64 (c2))), (decide (0 < c2)) = true, PureX Try.prog 49 #[] (rt (bb (true)))]) := by kernel_rfl
theorem l11_b (a b h tw one le mo lo lw hg hh : Nat) (s s2 s3 c2 : Int) (o1 o2 o3 o4 oa ob oc : Bool) : runA Try.prog 11 #[wv a, wv b] [f, n, n, f, n, n, f, n, n, f, n, n, f, n, n, f, n, n, n, f, n, n, n, f, n, n, n, n, n, n, f, f, n, n, n, t] [(32, rt (.int .i64 (s))), (32, rt (.int .i64 (s2))), (43, rt (tp [wv h, .int .i64 (0)])), (29, rt (tp [wv tw, bb (oa)])), (50, rt (wv one)), (30, rt (tp [wv le, bb (ob)])), (50, rt (wv one)), (29, rt (tp [wv mo, bb (oc)])), (28, rt (tp [wv lo, bb (o1)])), (28, rt (tp [wv lw, bb (o2)])), (28, rt (tp [wv hg, bb (o3)])), (28, rt (tp [wv hh, bb (o4)])), (32, rt (.int .i64 (s3))), (33, rt (.int .i64 (c2))), (49, rt (bb (true)))] =
    some (rt (bb (true)), [PureX Try.prog 32 #[wv a] (rt (.int .i64 (s))), (decide (s < 0)) = false, PureX Try.prog 32 #[wv b] (rt (.int .i64 (s2))), (decide (s2 ≤ 0)) = false, (decide (288230376151711744 ≤ Int.ofNat (a / 6277101735386680763835789423207666416102355444464034512896 % 18446744073709551616))) = false, (decide (1152921504606846976 ≤ Int.ofNat (b / 18446744073709551616 % 18446744073709551616))) = false, (Int.ofNat (b / 340282366920938463463374607431768211456 % 18446744073709551616) != 0) = false, (Int.ofNat (b / 6277101735386680763835789423207666416102355444464034512896 % 18446744073709551616) != 0) = false, PureX Try.prog 43 #[wv a, wv b] (rt (tp [wv h, .int .i64 (0)])), PureX Try.prog 29 #[wv h, wv h] (rt (tp [wv tw, bb (oa)])), PureX Try.prog 50 #[.int .i64 (1)] (rt (wv one)), PureX Try.prog 30 #[wv tw, wv one] (rt (tp [wv le, bb (ob)])), PureX Try.prog 50 #[.int .i64 (1)] (rt (wv one)), PureX Try.prog 29 #[wv tw, wv one] (rt (tp [wv mo, bb (oc)])), PureX Try.prog 28 #[wv le, wv le] (rt (tp [wv lo, bb (o1)])), PureX Try.prog 28 #[wv lo, wv b] (rt (tp [wv lw, bb (o2)])), PureX Try.prog 28 #[wv mo, wv mo] (rt (tp [wv hg, bb (o3)])), PureX Try.prog 28 #[wv hg, wv b] (rt (tp [wv hh, bb (o4)])), PureX Try.prog 32 #[wv h] (rt (.int .i64 (s3))), (decide (s3 < 0)) = false, (!(eqv h 0)) = false, (o3) = false, (o4) = false, PureX Try.prog 33 #[wv hh, wv a] (rt (.int .i64 (c2))), (decide (0 < c2)) = true, PureX Try.prog 49 #[] (rt (bb (true)))]) := by kernel_rfl

/-- Half the next whole root's squares. -/
theorem half_sq {R : Nat} : 2 * ((R + 1) / 2) - 1 ≤ R ∧ R + 1 ≤ 2 * ((R + 1) / 2) + 1 := by omega
set_option maxRecDepth 100000 in
theorem half_walk {a b : Int} (ha : inR a) (hb : inR b) : PureX Try.prog 11 #[wz a, wz b] (rt (bb true)) := by
  have s1 := rsign_z ha
  have s2 := rsign_z hb
  by_cases ca : a < 0
  · rw [Int.sign_eq_neg_one_of_neg ca] at s1
    exact runA_pure mix (l11_s1 (nz a) (nz b)) ⟨s1, wakes4_c, trivial⟩ rfl rfl
  have da := sign_ge (show 0 ≤ a by omega)
  by_cases cb : b ≤ 0
  · have db : decide (b.sign ≤ 0) = true := by
      rcases (show b = 0 ∨ b < 0 by omega) with h | h
      · rw [h]; rfl
      · rw [Int.sign_eq_neg_one_of_neg h]; rfl
    exact runA_pure mix (l11_s2 (nz a) (nz b) a.sign b.sign) ⟨s1, da, s2, db, wakes4_c, trivial⟩ rfl rfl
  have db : decide (b.sign ≤ 0) = false := by rw [Int.sign_eq_one_of_pos (by omega)]; rfl
  obtain ⟨x, rfl⟩ := Int.eq_ofNat_of_zero_le (show 0 ≤ a by omega)
  obtain ⟨y, rfl⟩ := Int.eq_ofNat_of_zero_le (show 0 ≤ b by omega)
  have hx : x < 57896044618658097711785492504343953926634992332820282019728792003956564819968 := by unfold inR at ha; omega
  have hy : y < 57896044618658097711785492504343953926634992332820282019728792003956564819968 := by unfold inR at hb; omega
  have nx := nz_nat (x := x) (by unfold Mw; omega)
  have ny := nz_nat (x := y) (by unfold Mw; omega)
  by_cases c3 : (288230376151711744 : Int) ≤ Int.ofNat (nz (x : Int) / 6277101735386680763835789423207666416102355444464034512896 % 18446744073709551616)
  · exact runA_pure mix (l11_s3 (nz (x : Int)) (nz (y : Int)) _ _) ⟨s1, da, s2, db, decide_eq_true c3, wakes4_c, trivial⟩ rfl rfl
  have d3 := decide_eq_false c3
  by_cases c4 : (1152921504606846976 : Int) ≤ Int.ofNat (nz (y : Int) / 18446744073709551616 % 18446744073709551616)
  · exact runA_pure mix (l11_s4 (nz (x : Int)) (nz (y : Int)) _ _) ⟨s1, da, s2, db, d3, decide_eq_true c4, wakes4_c, trivial⟩ rfl rfl
  have d4 := decide_eq_false c4
  by_cases c5 : nz (y : Int) / 340282366920938463463374607431768211456 % 18446744073709551616 = 0
  case neg => exact runA_pure mix (l11_s5 (nz (x : Int)) (nz (y : Int)) _ _) ⟨s1, da, s2, db, d3, d4, ofNat_ne c5, wakes4_c, trivial⟩ rfl rfl
  have d5 : (Int.ofNat (nz (y : Int) / 340282366920938463463374607431768211456 % 18446744073709551616) != 0) = false := by rw [c5]; rfl
  by_cases c6 : nz (y : Int) / 6277101735386680763835789423207666416102355444464034512896 % 18446744073709551616 = 0
  case neg => exact runA_pure mix (l11_s6 (nz (x : Int)) (nz (y : Int)) _ _) ⟨s1, da, s2, db, d3, d4, d5, ofNat_ne c6, wakes4_c, trivial⟩ rfl rfl
  have d6 : (Int.ofNat (nz (y : Int) / 6277101735386680763835789423207666416102355444464034512896 % 18446744073709551616) != 0) = false := by rw [c6]; rfl
  have hx2 : x < 1809251394333065553493296640760748560207343510400633813116524750123642650624 := by
    rw [nx] at c3
    have c3' : ¬ (288230376151711744 : Int) ≤ ((x / 6277101735386680763835789423207666416102355444464034512896 % 18446744073709551616 : Nat) : Int) := c3
    omega
  have hy2 : y < 21267647932558653966460912964485513216 := by
    rw [ny] at c4 c5 c6
    have c4' : ¬ (1152921504606846976 : Int) ≤ ((y / 18446744073709551616 % 18446744073709551616 : Nat) : Int) := c4
    omega
  have hy0 : 0 < y := by omega
  have hq : x / y < 57896044618658097711785492504343953926634992332820282019728792003956564819968 := Nat.lt_of_le_of_lt (Nat.div_le_self _ _) hx
  have f1 := rha_frac hx hy hy0
  obtain ⟨k1, k2⟩ := isq_ok hq
  obtain ⟨R, hR⟩ : ∃ R, isq (x / y) = R := ⟨_, rfl⟩
  rw [hR] at k1 k2 f1
  obtain ⟨g1, g2⟩ := frac_sq hy0 k1 k2
  obtain ⟨b1, b2⟩ := frac_small hx2 hy2 hy0 g1
  obtain ⟨q1, q2⟩ := half_sq (R := R)
  obtain ⟨h, hh⟩ : ∃ h, (R + 1) / 2 = h := ⟨_, rfl⟩
  have hhb : 2 * h ≤ R + 1 := by omega
  rw [hh] at q1 q2 f1
  clear hh
  -- the one behind
  have mo1 : (2 * h + 1) * (2 * h + 1) ≤ (R + 2) * (R + 2) := Nat.mul_le_mul (by omega) (by omega)
  have mo2 : (R + 1) * (R + 1) * y ≤ (2 * h + 1) * (2 * h + 1) * y := Nat.mul_le_mul_right _ (Nat.mul_le_mul q2 q2)
  have mo3 : (2 * h + 1) * (2 * h + 1) * y ≤ (R + 2) * (R + 2) * y := Nat.mul_le_mul_right _ mo1
  have ee : (R + 2) * (R + 2) * y = R * R * y + 4 * (R * y) + 4 * y := by
    rw [Nat.add_mul R 2, Nat.mul_add R R 2, Nat.mul_add 2 R 2, Nat.mul_comm R 2, Nat.add_mul, Nat.add_mul, Nat.add_mul, Nat.mul_assoc 2 R y]
    omega
  have rr : (R + 2) * (R + 2) ≤ 42535295865117307932921825928971026434 * 42535295865117307932921825928971026434 := Nat.mul_le_mul (by omega) (by omega)
  have o1 := rof_z (x := 1) (by decide) (by decide)
  have ih : inR (h : Int) := (nat_in (x := h) (by omega)).1
  have a1 := radd_z ih ih
  rw [show (h : Int) + (h : Int) = ((2 * h : Nat) : Int) by omega] at a1
  have i2 : inR ((2 * h : Nat) : Int) := (nat_in (x := 2 * h) (by omega)).1
  have a2 := rsub_z (x := ((2 * h : Nat) : Int)) (y := 1) i2 (by decide)
  have a3 := radd_z (x := ((2 * h : Nat) : Int)) (y := 1) i2 (by decide)
  rw [show ((2 * h : Nat) : Int) + 1 = ((2 * h + 1 : Nat) : Int) by omega] at a3
  have i3 : inR ((2 * h + 1 : Nat) : Int) := (nat_in (x := 2 * h + 1) (by omega)).1
  have iHs : inR (((2 * h + 1) * (2 * h + 1) : Nat) : Int) := (nat_in (by omega)).1
  have iH : inR (((2 * h + 1) * (2 * h + 1) * y : Nat) : Int) := (nat_in (by omega)).1
  have m3 := rmul_z i3 i3
  rw [natmul, ov_false iHs] at m3
  have m4 := rmul_z iHs hb
  rw [natmul, ov_false iH] at m4
  have s3 := rsign_z ih
  have d7 := sign_ge (a := (h : Int)) (by omega)
  have c2 := rcmp_z iH ha
  rw [Int.sign_eq_one_of_pos (show 0 < (((2 * h + 1) * (2 * h + 1) * y : Nat) : Int) - (x : Int) by omega)] at c2
  by_cases h0 : h = 0
  · subst h0
    have e0 : (!(eqv (nz ((0 : Nat) : Int)) 0)) = false := rfl
    have il : inR (((2 * 0 : Nat) : Int) - 1) := by decide
    have m1 := rmul_z il il
    have ill : inR ((((2 * 0 : Nat) : Int) - 1) * (((2 * 0 : Nat) : Int) - 1)) := by decide
    have m2 := rmul_z ill hb
    exact runA_pure mix (l11_b (nz (x : Int)) (nz (y : Int)) (nz ((0 : Nat) : Int)) (nz ((2 * 0 : Nat) : Int)) (nz 1) (nz (((2 * 0 : Nat) : Int) - 1)) (nz ((2 * 0 + 1 : Nat) : Int)) (nz ((((2 * 0 : Nat) : Int) - 1) * (((2 * 0 : Nat) : Int) - 1))) (nz ((((2 * 0 : Nat) : Int) - 1) * (((2 * 0 : Nat) : Int) - 1) * (y : Int))) (nz (((2 * 0 + 1) * (2 * 0 + 1) : Nat) : Int)) (nz (((2 * 0 + 1) * (2 * 0 + 1) * y : Nat) : Int)) _ _ _ 1 _ _ _ _ _ _ _) ⟨s1, da, s2, db, d3, d4, d5, d6, f1, a1, o1, a2, o1, a3, m1, m2, m3, m4, s3, d7, e0, rfl, rfl, c2, rfl, wakes4_c, trivial⟩ rfl rfl
  · have e0 : (!(eqv (nz (h : Int)) 0)) = true := by
      rw [show (0 : Nat) = nz 0 from rfl, eqv_false ih (by decide) (by omega)]; rfl
    have lo1 : (2 * h - 1) * (2 * h - 1) ≤ R * R := Nat.mul_le_mul q1 q1
    have lo2 : (2 * h - 1) * (2 * h - 1) * y ≤ R * R * y := Nat.mul_le_mul_right _ lo1
    rw [show ((2 * h : Nat) : Int) - 1 = ((2 * h - 1 : Nat) : Int) by omega] at a2
    have rr2 : R * R ≤ (R + 2) * (R + 2) := Nat.mul_le_mul (by omega) (by omega)
    have il : inR ((2 * h - 1 : Nat) : Int) := (nat_in (x := 2 * h - 1) (by omega)).1
    have ill : inR (((2 * h - 1) * (2 * h - 1) : Nat) : Int) := (nat_in (by omega)).1
    have iL : inR (((2 * h - 1) * (2 * h - 1) * y : Nat) : Int) := (nat_in (by omega)).1
    have m1 := rmul_z il il
    rw [natmul, ov_false ill] at m1
    have m2 := rmul_z ill hb
    rw [natmul, ov_false iL] at m2
    have c1 := rcmp_z iL ha
    have d8 : decide (0 < ((((2 * h - 1) * (2 * h - 1) * y : Nat) : Int) - (x : Int)).sign) = false := by
      rcases (show (((2 * h - 1) * (2 * h - 1) * y : Nat) : Int) - (x : Int) = 0 ∨ (((2 * h - 1) * (2 * h - 1) * y : Nat) : Int) - (x : Int) < 0 by omega) with h | h
      · rw [h]; rfl
      · rw [Int.sign_eq_neg_one_of_neg h]; rfl
    exact runA_pure mix (l11_a (nz (x : Int)) (nz (y : Int)) (nz (h : Int)) (nz ((2 * h : Nat) : Int)) (nz 1) (nz ((2 * h - 1 : Nat) : Int)) (nz ((2 * h + 1 : Nat) : Int)) (nz (((2 * h - 1) * (2 * h - 1) : Nat) : Int)) (nz (((2 * h - 1) * (2 * h - 1) * y : Nat) : Int)) (nz (((2 * h + 1) * (2 * h + 1) : Nat) : Int)) (nz (((2 * h + 1) * (2 * h + 1) * y : Nat) : Int)) _ _ _ _ 1 _ _ _ _ _ _ _) ⟨s1, da, s2, db, d3, d4, d5, d6, f1, a1, o1, a2, o1, a3, m1, m2, m3, m4, s3, d7, e0, rfl, rfl, c1, d8, rfl, rfl, c2, rfl, wakes4_c, trivial⟩ rfl rfl

end Go.Proofs.Ytpbhoamojocbpaa

