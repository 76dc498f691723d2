/- Texts of the seat, joined. -/
import Derived.Test.YtbmekaaekngpbaaGreatZz52
import Derived.Test.YtbmekaaekngpbaaGreatZz44
/- The laws of the four series: what they have in common. -/
namespace Go.Proofs.YtbmekaaekngpbaaGreat
open Go Go.RowKit
set_option linter.unusedSimpArgs false
set_option linter.unusedVariables false
set_option maxRecDepth 100000

def qin16 (x : Int) : Int := IntKind.i64.wrap ((IntKind.i64.wrap (x.tmod 34359738369 + 34359738369)).tmod 34359738369 - 17179869184)
theorem in16_raw (x : Int) : runB Tryz.prog 18 #[ii x, ii 17179869184] [] [] [] [] = some (rt (ii (qin16 x)), [], []) := by kernel_rfl
theorem in16_v (x : Int) : PureX Tryz.prog 18 #[ii x, ii 17179869184] (rt (ii (qin16 x))) := runB_pure mix (in16_raw x) trivial rfl rfl
theorem in16_in (x : Int) : -17179869184 ≤ qin16 x ∧ qin16 x ≤ 17179869184 := by
  unfold qin16
  have h1 := Int.tmod_lt_of_pos x (show (0 : Int) < 34359738369 by decide)
  have h2 : -34359738369 < x.tmod 34359738369 := by
    have := tm_b (a := x) (w := 34359738369) (by decide)
    omega
  generalize x.tmod 34359738369 = y at *
  rw [wrapI (z := y + 34359738369) (by omega)]
  have h3 : (y + 34359738369).tmod 34359738369 = (y + 34359738369) % 34359738369 := Int.tmod_eq_emod_of_nonneg (by omega)
  rw [h3]
  rw [wrapI (by omega)]
  omega
def qin4 (x : Int) : Int := IntKind.i64.wrap ((IntKind.i64.wrap (x.tmod 8589934593 + 8589934593)).tmod 8589934593 - 4294967296)
theorem in4_raw (x : Int) : runB Tryz.prog 18 #[ii x, ii 4294967296] [] [] [] [] = some (rt (ii (qin4 x)), [], []) := by kernel_rfl
theorem in4_v (x : Int) : PureX Tryz.prog 18 #[ii x, ii 4294967296] (rt (ii (qin4 x))) := runB_pure mix (in4_raw x) trivial rfl rfl
theorem in4_in (x : Int) : -4294967296 ≤ qin4 x ∧ qin4 x ≤ 4294967296 := by
  unfold qin4
  have h1 := Int.tmod_lt_of_pos x (show (0 : Int) < 8589934593 by decide)
  have h2 : -8589934593 < x.tmod 8589934593 := by
    have := tm_b (a := x) (w := 8589934593) (by decide)
    omega
  generalize x.tmod 8589934593 = y at *
  rw [wrapI (z := y + 8589934593) (by omega)]
  have h3 : (y + 8589934593).tmod 8589934593 = (y + 8589934593) % 8589934593 := Int.tmod_eq_emod_of_nonneg (by omega)
  rw [h3]
  rw [wrapI (by omega)]
  omega
theorem meets_raw (x y : IV) : runB Tryz.prog 27 #[ivv x, ivv y] [] [n, n, n, n, n, n, t, n, n, n, n, n] [] [(22, rt (bb true), [(1002, oiv [x, y])])] = some (rt (bb (decide (y.1 ≤ x.2.1))), [], [CallsV Tryz.prog (.func 22) #[sl 1002 2] [(1002, oiv [x, y])] (rt (bb true)) [(1002, oiv [x, y])], decide (x.1 ≤ y.2.1) = true]) := by kernel_rfl
theorem meets_v {x y : IV} (hx : okV x = true) (hy : okV y = true) (h1 : x.1 ≤ y.2.1) (h2 : y.1 ≤ x.2.1) : PureX Tryz.prog 27 #[ivv x, ivv y] (rt (bb true)) := by
  have hf := rfine_v2 1002 x y
  rw [hx, hy] at hf
  have r := runB_pure mix (meets_raw x y) ⟨hf, decide_eq_true h1, trivial⟩ rfl rfl
  rw [decide_eq_true h2] at r
  exact r
def z8 : IV := (0, 0, false)
def o8 : IV := (1073741824, 1073741824, false)
def h8 : IV := (536870912, 536870912, false)
def s8 : IV := (178956970, 178956971, false)
theorem wk8_raw : runB Tryz.prog 17 #[] [] [] [(15, rt (a4 o8 o8 h8 s8)), (9, rt (tp [ii 120, bb true])), (9, rt (tp [ii 0, bb false])), (11, rt (ivv h8)), (19, rt (ivv o8)), (25, rt (bb true)), (19, rt (ivv o8)), (25, rt (bb true)), (25, rt (bb true)), (13, rt (ivv bdV)), (13, rt (ivv bdV))] [] =
    some (rt (bb true), [], [PureX Tryz.prog 15 #[ivv z8] (rt (a4 o8 o8 h8 s8)), PureX Tryz.prog 9 #[ii 5] (rt (tp [ii 120, bb true])), PureX Tryz.prog 9 #[ii 21] (rt (tp [ii 0, bb false])), PureX Tryz.prog 11 #[ii 2, ii 0, ii 0] (rt (ivv h8)), PureX Tryz.prog 19 #[ii 1] (rt (ivv o8)), PureX Tryz.prog 25 #[ivv o8, ivv o8] (rt (bb true)), PureX Tryz.prog 19 #[ii 1] (rt (ivv o8)), PureX Tryz.prog 25 #[ivv o8, ivv o8] (rt (bb true)), PureX Tryz.prog 25 #[ivv h8, ivv h8] (rt (bb true)), PureX Tryz.prog 13 #[ii 4, ivv z8] (rt (ivv bdV)), PureX Tryz.prog 13 #[ii 0, ivv (18253611008, 18253611008, false)] (rt (ivv bdV))]) := by kernel_rfl
theorem wakes8_c : PureX Tryz.prog 17 #[] (rt (bb true)) :=
  runB_pure mix wk8_raw ⟨(all_v z8).is (by kernel_rfl), (fac_v 5).is (by kernel_rfl), (fac_v 21).is (by kernel_rfl), (sterm_v 2 0 0).is (by kernel_rfl), rof1_v, (drholds_v o8 o8).is (by kernel_rfl), rof1_v, (drholds_v o8 o8).is (by kernel_rfl), (drholds_v h8 h8).is (by kernel_rfl), (c_v 4 z8).is (by kernel_rfl), (c_v 0 (18253611008, 18253611008, false)).is (by kernel_rfl), trivial⟩ rfl rfl
end Go.Proofs.YtbmekaaekngpbaaGreat

/- The law of terms, walked. -/
namespace Go.Proofs.YtbmekaaekngpbaaGreat
open Go Go.RowKit
set_option linter.unusedSimpArgs false
set_option linter.unusedVariables false
set_option maxRecDepth 100000

def kK (k : Int) : Int := (IntKind.i64.wrap (k.tmod 4 + 4)).tmod 4
def kJ (n1 : Int) : Int := (IntKind.i64.wrap (n1.tmod 14 + 14)).tmod 14
def dD (k n1 : Int) : Int := IntKind.i64.wrap (IntKind.i64.wrap (IntKind.i64.wrap (kK k + IntKind.i64.wrap (2 * kJ n1)) + 1) * IntKind.i64.wrap (IntKind.i64.wrap (kK k + IntKind.i64.wrap (2 * kJ n1)) + 2))
theorem l8_raw (k p n1 q : Int) (a b z pt m : IV) : runB Tryz.prog 8 #[ii k, ii p, ii n1] [] [t, n, n, n, n, n, n, n, n, n, t, n, n, n, n, n, n, n] [(18, rt (ii q)), (11, rt (ivv a)), (11, rt (ivv b)), (20, rt (ivv pt)), (24, rt (ivv m)), (31, rt (ivv b)), (11, rt (ivv (0, 0, false))), (11, rt (ivv z)), (11, rt (ivv z)), (11, rt (ivv bdV)), (17, rt (bb true))] [(22, rt (bb true), [(1004, oiv [a, b])])] =
    some (rt (bb true), [], [PureX Tryz.prog 18 #[ii p, ii 17179869184] (rt (ii q)), PureX Tryz.prog 11 #[ii (kK k), ii q, ii (kJ n1)] (rt (ivv a)), PureX Tryz.prog 11 #[ii (kK k), ii q, ii (IntKind.i64.wrap (kJ n1 + 1))] (rt (ivv b)), PureX Tryz.prog 20 #[ii q] (rt (ivv pt)), PureX Tryz.prog 24 #[ivv a, ivv pt] (rt (ivv m)), PureX Tryz.prog 31 #[ivv m, ii (-1), ii (dD k n1)] (rt (ivv b)), PureX Tryz.prog 11 #[ii (kK k), ii 0, ii (IntKind.i64.wrap (kJ n1 + 1))] (rt (ivv (0, 0, false))), ((b.1 == b.1) && ((b.2.1 == b.2.1) && ((b.2.2 == b.2.2) && true))) = true, CallsV Tryz.prog (.func 22) #[sl 1004 2] [(1004, oiv [a, b])] (rt (bb true)) [(1004, oiv [a, b])], PureX Tryz.prog 11 #[ii (kK k), ii q, ii 0] (rt (ivv z)), PureX Tryz.prog 11 #[ii (kK k), ii 1, ii 0] (rt (ivv z)), ((z.1 == z.1) && ((z.2.1 == z.2.1) && ((z.2.2 == z.2.2) && true))) = true, PureX Tryz.prog 11 #[ii (kK k), ii q, ii 15] (rt (ivv bdV)), PureX Tryz.prog 17 #[] (rt (bb true))]) := by kernel_rfl
theorem eq8 (x : IV) : ((x.1 == x.1) && ((x.2.1 == x.2.1) && ((x.2.2 == x.2.2) && true))) = true := by simp
theorem kK_in (k : Int) : 0 ≤ kK k ∧ kK k < 4 := by
  unfold kK
  have h1 := tm_b (a := k) (w := 4) (by decide)
  rw [wrapI (z := k.tmod 4 + 4) (by omega)]
  rw [Int.tmod_eq_emod_of_nonneg (by omega)]
  omega
theorem kJ_in (n1 : Int) : 0 ≤ kJ n1 ∧ kJ n1 ≤ 13 := by
  unfold kJ
  have h1 := tm_b (a := n1) (w := 14) (by decide)
  rw [wrapI (z := n1.tmod 14 + 14) (by omega)]
  rw [Int.tmod_eq_emod_of_nonneg (by omega)]
  omega
theorem dD_is {k n1 : Int} {i j : Nat} (hk : kK k = i) (hj : kJ n1 = j) (h1 : i ≤ 3) (h2 : j ≤ 13) : dD k n1 = dS i j := by
  unfold dD
  rw [hk, hj]
  have b : (i + 2 * j + 1) * (i + 2 * j + 2) ≤ 40 * 40 := Nat.mul_le_mul (by omega) (by omega)
  have e1 : IntKind.i64.wrap (2 * (j : Int)) = 2 * j := by rw [wrapI (by omega)]
  rw [e1]
  have e2 : IntKind.i64.wrap ((i : Int) + 2 * j) = i + 2 * j := by rw [wrapI (by omega)]
  rw [e2]
  have e3 : IntKind.i64.wrap ((i : Int) + 2 * j + 1) = ((i + 2 * j + 1 : Nat) : Int) := by rw [wrapI (by omega)]; omega
  have e4 : IntKind.i64.wrap ((i : Int) + 2 * j + 2) = ((i + 2 * j + 2 : Nat) : Int) := by rw [wrapI (by omega)]; omega
  rw [e3, e4, ← Int.natCast_mul]
  exact wrapI (by omega)
theorem tI_nat {k : Nat} (hk : k ≤ 3) {p : Int} (h : -17179869184 ≤ p ∧ p ≤ 17179869184) {n : Nat} (hn : n ≤ 14) : tI k p n = tS k p n := by
  unfold tI
  rw [if_pos ⟨⟨by omega, by omega⟩, h, by omega, by omega⟩, Int.toNat_natCast, Int.toNat_natCast]
/-- At 0 all terms but the first are 0. -/
theorem tS_zero {k : Nat} (hk : k ≤ 3) : ∀ n, n ≤ 13 → tS k 0 (n + 1) = (0, 0, false) := by
  have h : ∀ k : Fin 4, ∀ n : Fin 14, tS k 0 (n + 1) = (0, 0, false) := by decide +kernel
  intro n hn
  exact h ⟨k, by omega⟩ ⟨n, by omega⟩
theorem terms8_walk (k p n1 : Int) : PureX Tryz.prog 8 #[ii k, ii p, ii n1] (rt (bb true)) := by
  have hq := in16_v p
  have iq := in16_in p
  obtain ⟨i, hi⟩ := Int.eq_ofNat_of_zero_le (kK_in k).1
  obtain ⟨j, hj⟩ := Int.eq_ofNat_of_zero_le (kJ_in n1).1
  have li : i ≤ 3 := by have := (kK_in k).2; omega
  have lj : j ≤ 13 := by have := (kJ_in n1).2; omega
  have hd := dD_is hi hj li lj
  generalize qin16 p = q at *
  have e1 : IntKind.i64.wrap (kJ n1 + 1) = ((j + 1 : Nat) : Int) := by rw [hj, wrapI (by omega)]; omega
  have a1 := sterm_v (kK k) q (kJ n1)
  have a2 := sterm_v (kK k) q (IntKind.i64.wrap (kJ n1 + 1))
  have a3 := sterm_v (kK k) 0 (IntKind.i64.wrap (kJ n1 + 1))
  have a4 := sterm_v (kK k) q 0
  have a5 := sterm_v (kK k) 1 0
  have a6 := sterm_v (kK k) q 15
  rw [show tI (kK k) q (kJ n1) = tS i q j by rw [hi, hj]; exact tI_nat li iq (by omega)] at a1
  rw [show tI (kK k) q (IntKind.i64.wrap (kJ n1 + 1)) = tS i q (j + 1) by rw [e1, hi]; exact tI_nat li iq (by omega)] at a2
  rw [show tI (kK k) 0 (IntKind.i64.wrap (kJ n1 + 1)) = (0, 0, false) by rw [e1, hi, tI_nat li (by decide) (show j + 1 ≤ 14 by omega)]; exact tS_zero li j lj] at a3
  rw [show tI (kK k) q 0 = t0S i by rw [hi]; exact tI_nat li iq (n := 0) (by decide)] at a4
  rw [show tI (kK k) 1 0 = t0S i by rw [hi]; exact tI_nat li (by decide) (n := 0) (by decide)] at a5
  rw [show tI (kK k) q 15 = bdV by unfold tI; rw [if_neg (by omega)]] at a6
  have b1 := dmul_v plain_ok (tS i q j) (mkV q q)
  have b2 := dpart_v plain_ok (mulV (tS i q j) (mkV q q)) (n := -1) (d := dD k n1) (by decide) (by rw [hd]; exact dS_isI li (by omega))
  rw [show partV (mulV (tS i q j) (mkV q q)) (-1) (dD k n1) = tS i q (j + 1) by rw [hd]; rfl] at b2
  have f := rfine_v2 1004 (tS i q j) (tS i q (j + 1))
  rw [(tS_ok li iq.1 iq.2 j (by omega)).1.1, (tS_ok li iq.1 iq.2 (j + 1) (by omega)).1.1] at f
  exact runB_pure mix (l8_raw k p n1 q _ _ _ _ _) ⟨hq, a1, a2, rpoint_v q, b1, b2, a3, eq8 _, f, a4, a5, eq8 _, a6, wakes8_c, trivial⟩ rfl rfl
end Go.Proofs.YtbmekaaekngpbaaGreat
