/- The document's roots, and the program's where there is none: fractions, ints. -/
import Derived.Test.YtlioffkonfkflaaZz30
import Derived.Test.YtlioffkonfkflaaZz25
namespace Go.Proofs.Ytlioffkonfkflaa
open Go Go.RowKit
set_option linter.unusedSimpArgs false
set_option linter.unusedVariables false
set_option maxRecDepth 100000

section
variable (a b c d g r s q m : Nat) (x y k e v j : Int) (p o : Bool)
theorem dint_raw  : runB Try.prog 61 #[wv a] [] [f] [(60, rt (wv b))] [] =
    some (rt (tp [ii (IntKind.i64.wrap (Int.ofNat (a % 18446744073709551616))), bb true]), [], [PureX Try.prog 60 #[ii (IntKind.i64.wrap (Int.ofNat (a % 18446744073709551616)))] (rt (wv b)), (!(eqv b a)) = false]) := by kernel_rfl
theorem dint_not  : runB Try.prog 61 #[wv a] [] [t] [(60, rt (wv b))] [] =
    some (rt (tp [ii 0, bb false]), [], [PureX Try.prog 60 #[ii (IntKind.i64.wrap (Int.ofNat (a % 18446744073709551616)))] (rt (wv b)), (!(eqv b a)) = true]) := by kernel_rfl
theorem sqd_raw  : runB Try.prog 78 #[wv a] [] [] [(59, rt (tp [wv b, bb o]))] [] =
    some (rt (wv b), [], [PureX Try.prog 59 #[wv a, wv a] (rt (tp [wv b, bb o]))]) := by kernel_rfl
theorem dis_raw  : runB Try.prog 31 #[wv a] [] [] [(21, rt (tp [wv r, ii 0])), (78, rt (wv s))] [] =
    some (rt (bb (eqv s a)), [], [PureX Try.prog 21 #[wv a] (rt (tp [wv r, ii 0])), PureX Try.prog 78 #[wv r] (rt (wv s))]) := by kernel_rfl
theorem dis_neg  : runB Try.prog 31 #[wv a] [] [] [(21, rt (tp [wv r, ii 2]))] [] =
    some (rt (bb false), [], [PureX Try.prog 21 #[wv a] (rt (tp [wv r, ii 2]))]) := by kernel_rfl
theorem dce_is  : runB Try.prog 23 #[wv a] [] [] [(21, rt (tp [wv r, ii 0])), (31, rt (bb true))] [] =
    some (rt (tp [wv r, ii 0]), [], [PureX Try.prog 21 #[wv a] (rt (tp [wv r, ii 0])), PureX Try.prog 31 #[wv a] (rt (bb true))]) := by kernel_rfl
theorem dce_no  : runB Try.prog 23 #[wv a] [] [] [(21, rt (tp [wv r, ii 0])), (31, rt (bb false)), (60, rt (wv s)), (53, rt (tp [wv q, bb o]))] [] =
    some (rt (tp [wv q, ii 0]), [], [PureX Try.prog 21 #[wv a] (rt (tp [wv r, ii 0])), PureX Try.prog 31 #[wv a] (rt (bb false)), PureX Try.prog 60 #[ii 1] (rt (wv s)), PureX Try.prog 53 #[wv r, wv s] (rt (tp [wv q, bb o]))]) := by kernel_rfl
theorem dce_neg  : runB Try.prog 23 #[wv a] [] [] [(21, rt (tp [wv r, ii 2]))] [] =
    some (rt (tp [wv r, ii 2]), [], [PureX Try.prog 21 #[wv a] (rt (tp [wv r, ii 2]))]) := by kernel_rfl
theorem dof_0  : runB Try.prog 25 #[wv a, wv b] [] [t] [] [] =
    some (rt (tp [wv b, ii 30]), [], [eqv b 0 = true]) := by kernel_rfl
theorem dof_n1  : runB Try.prog 25 #[wv a, wv b] [] [f, t, n, n, n] [(45, rt (ii x))] [] =
    some (rt (tp [wv 0, ii 2]), [], [eqv b 0 = false, PureX Try.prog 45 #[wv a] (rt (ii x)), decide (x < 0) = true]) := by kernel_rfl
theorem dof_n2  : runB Try.prog 25 #[wv a, wv b] [] [f, f, n, n, t] [(45, rt (ii x)), (45, rt (ii y))] [] =
    some (rt (tp [wv 0, ii 2]), [], [eqv b 0 = false, PureX Try.prog 45 #[wv a] (rt (ii x)), decide (x < 0) = false, PureX Try.prog 45 #[wv b] (rt (ii y)), decide (y < 0) = true]) := by kernel_rfl
theorem dof_ok  : runB Try.prog 25 #[wv a, wv b] [] [f, f, n, n, f, n] [(45, rt (ii x)), (45, rt (ii y)), (6, rt (tp [wv q, ii 0])), (21, rt (tp [wv r, ii 0]))] [] =
    some (rt (tp [wv r, ii 0]), [], [eqv b 0 = false, PureX Try.prog 45 #[wv a] (rt (ii x)), decide (x < 0) = false, PureX Try.prog 45 #[wv b] (rt (ii y)), decide (y < 0) = false, PureX Try.prog 6 #[wv a, wv b] (rt (tp [wv q, ii 0])), PureX Try.prog 21 #[wv q] (rt (tp [wv r, ii 0]))]) := by kernel_rfl
theorem dha_2  : runB Try.prog 27 #[wv a, wv b] [] [] [(25, rt (tp [wv r, ii 2]))] [] =
    some (rt (tp [wv 0, ii 2]), [], [PureX Try.prog 25 #[wv a, wv b] (rt (tp [wv r, ii 2]))]) := by kernel_rfl
theorem dha_30  : runB Try.prog 27 #[wv a, wv b] [] [] [(25, rt (tp [wv r, ii 30]))] [] =
    some (rt (tp [wv 0, ii 30]), [], [PureX Try.prog 25 #[wv a, wv b] (rt (tp [wv r, ii 30]))]) := by kernel_rfl
theorem dha_ok  : runB Try.prog 27 #[wv a, wv b] [] [] [(25, rt (tp [wv r, ii 0])), (60, rt (wv s)), (53, rt (tp [wv q, bb o])), (60, rt (wv d)), (6, rt (tp [wv m, ii 0]))] [] =
    some (rt (tp [wv m, ii 0]), [], [PureX Try.prog 25 #[wv a, wv b] (rt (tp [wv r, ii 0])), PureX Try.prog 60 #[ii 1] (rt (wv s)), PureX Try.prog 53 #[wv r, wv s] (rt (tp [wv q, bb o])), PureX Try.prog 60 #[ii 2] (rt (wv d)), PureX Try.prog 6 #[wv q, wv d] (rt (tp [wv m, ii 0]))]) := by kernel_rfl
theorem din_raw  : runB Try.prog 29 #[ii x] [] [] [(60, rt (wv a)), (21, rt (tp [wv r, ii e])), (61, rt (tp [ii j, bb o]))] [] =
    some (rt (tp [ii j, ii e]), [], [PureX Try.prog 60 #[ii x] (rt (wv a)), PureX Try.prog 21 #[wv a] (rt (tp [wv r, ii e])), PureX Try.prog 61 #[wv r] (rt (tp [ii j, bb o]))]) := by kernel_rfl
end
theorem l4_raw (a b x p y q : Nat) (e g f1 h i k j : Int) (o : Bool) : runB Try.prog 4 #[wv a, wv b, ii j] [] [f, n, n, f, n, n, f, n, n, f, t, n, n, t, n, n, t, n, n, t, n, n, t, n, n, t, n, n, n, n, t] [(20, rt (tp [wv x, ii e])), (21, rt (tp [wv x, ii e])), (22, rt (tp [wv p, ii g])), (23, rt (tp [wv p, ii g])), (24, rt (tp [wv y, ii f1])), (25, rt (tp [wv y, ii f1])), (26, rt (tp [wv q, ii h])), (27, rt (tp [wv q, ii h])), (28, rt (tp [ii i, ii k])), (29, rt (tp [ii i, ii k])), (30, rt (bb o)), (31, rt (bb o)), (32, rt (bb true))] [] =
    some (rt (bb true), [], [PureX Try.prog 20 #[wv a] (rt (tp [wv x, ii e])), PureX Try.prog 21 #[wv a] (rt (tp [wv x, ii e])), PureX Try.prog 22 #[wv a] (rt (tp [wv p, ii g])), PureX Try.prog 23 #[wv a] (rt (tp [wv p, ii g])), (!(eqv x x)) = false, (e != e) = false, (!(eqv p p)) = false, (g != g) = false, PureX Try.prog 24 #[wv a, wv b] (rt (tp [wv y, ii f1])), PureX Try.prog 25 #[wv a, wv b] (rt (tp [wv y, ii f1])), PureX Try.prog 26 #[wv a, wv b] (rt (tp [wv q, ii h])), PureX Try.prog 27 #[wv a, wv b] (rt (tp [wv q, ii h])), PureX Try.prog 28 #[ii j] (rt (tp [ii i, ii k])), PureX Try.prog 29 #[ii j] (rt (tp [ii i, ii k])), eqv y y = true, (f1 == f1) = true, eqv q q = true, (h == h) = true, (i == i) = true, (k == k) = true, PureX Try.prog 30 #[wv a] (rt (bb o)), PureX Try.prog 31 #[wv a] (rt (bb o)), (o == o) = true, PureX Try.prog 32 #[] (rt (bb true))]) := by kernel_rfl

theorem wrap_nz {x : Int} (hx : inR x) : isI (IntKind.i64.wrap (Int.ofNat (nz x % 18446744073709551616))) ∧ (isI x → IntKind.i64.wrap (Int.ofNat (nz x % 18446744073709551616)) = x) := by
  obtain ⟨y, hy⟩ : ∃ y, IntKind.i64.wrap (Int.ofNat (nz x % 18446744073709551616)) = y := ⟨_, rfl⟩
  rw [hy]
  have hc := nz_cast x
  unfold Mw at hc
  rw [IntKind.wrap_i64, show Int.ofNat (nz x % 18446744073709551616) = (nz x : Int) % 18446744073709551616 by simp, hc] at hy
  unfold isI
  unfold inR at hx
  subst hy
  rw [Int.emod_emod_of_dvd _ (by decide)]
  omega
theorem dint_ok {x : Int} (h : isI x) : PureX Try.prog 61 #[wz x] (rt (tp [ii x, bb true])) := by
  obtain ⟨h1, h2⟩ := wrap_nz (isI_R h)
  have ho := rof_z h.1 h.2
  have he := eqv_z (isI_R h) (isI_R h)
  have r := runB_pure mix (dint_raw (nz x) (nz x)) ⟨by rw [h2 h]; exact ho, by rw [he, decide_eq_true rfl]; rfl, trivial⟩ rfl rfl
  rw [h2 h] at r
  exact r
theorem dint_no {x : Int} (hx : inR x) (h : ¬ isI x) : PureX Try.prog 61 #[wz x] (rt (tp [ii 0, bb false])) := by
  obtain ⟨h1, h2⟩ := wrap_nz hx
  obtain ⟨y, hy⟩ : ∃ y, IntKind.i64.wrap (Int.ofNat (nz x % 18446744073709551616)) = y := ⟨_, rfl⟩
  rw [hy] at h1
  have he := eqv_z (isI_R h1) hx
  have hne : ¬ y = x := fun e => h (by rw [← e]; exact h1)
  exact runB_pure mix (dint_not (nz x) (nz y)) ⟨by rw [hy]; exact rof_z h1.1 h1.2, by rw [he, decide_eq_false hne]; rfl, trivial⟩ rfl rfl
theorem isq_in {x : Nat} (hx : x < 57896044618658097711785492504343953926634992332820282019728792003956564819968) : isq x + 1 < 57896044618658097711785492504343953926634992332820282019728792003956564819968 := Nat.lt_of_le_of_lt (isq_lt hx) (by decide)
def upq (x : Nat) : Nat := if isq x * isq x = x then isq x else isq x + 1
theorem dis_v {x : Nat} (hx : x < 57896044618658097711785492504343953926634992332820282019728792003956564819968) : PureX Try.prog 31 #[wz (x : Int)] (rt (bb (decide (isq x * isq x = x)))) := by
  have hi := isq_in hx
  have hq : isq x < 57896044618658097711785492504343953926634992332820282019728792003956564819968 := by omega
  have hm := rmul_z (inN hq) (inN hq)
  have hs : PureX Try.prog 78 #[wz (isq x : Int)] (rt (wz ((isq x : Int) * (isq x : Int)))) := runB_pure mix (sqd_raw _ _ _) ⟨hm, trivial⟩ rfl rfl
  have hr := runB_pure mix (dis_raw _ _ _) ⟨dfl_z hx, hs, trivial⟩ rfl rfl
  have hk := isq_ok hx
  have e : eqv (nz ((isq x : Int) * (isq x : Int))) (nz (x : Int)) = decide (isq x * isq x = x) := by
    rw [show (isq x : Int) * (isq x : Int) = ((isq x * isq x : Nat) : Int) by simp, eqv_z (inN (Nat.lt_of_le_of_lt hk.1 hx)) (inN hx), decide_eq_decide]
    omega
  rw [e] at hr
  exact hr
theorem dis_n {a : Int} (ha : inR a) (h : a < 0) : PureX Try.prog 31 #[wz a] (rt (bb false)) := runB_pure mix (dis_neg _ _) ⟨dfl_neg ha h, trivial⟩ rfl rfl
theorem dup_v {x : Nat} (hx : x < 57896044618658097711785492504343953926634992332820282019728792003956564819968) : PureX Try.prog 23 #[wz (x : Int)] (rt (tp [wz (upq x : Int), ii 0])) := by
  have hi := isq_in hx
  have h := dis_v hx
  unfold upq
  by_cases he : isq x * isq x = x
  · rw [decide_eq_true he] at h
    rw [if_pos he]
    exact runB_pure mix (dce_is _ _) ⟨dfl_z hx, h, trivial⟩ rfl rfl
  · rw [decide_eq_false he] at h
    rw [if_neg he]
    have ha := radd_z (inN (show isq x < 57896044618658097711785492504343953926634992332820282019728792003956564819968 by omega)) (show inR (1 : Int) by unfold inR; omega)
    have hr := runB_pure mix (dce_no _ _ _ _ _) ⟨dfl_z hx, h, rof_z (show (-9223372036854775808 : Int) ≤ 1 by decide) (by decide), ha, trivial⟩ rfl rfl
    rw [show ((isq x + 1 : Nat) : Int) = (isq x : Int) + 1 by omega]
    exact hr
theorem dup_n {a : Int} (ha : inR a) (h : a < 0) : PureX Try.prog 23 #[wz a] (rt (tp [wz 0, ii 2])) := runB_pure mix (dce_neg _ _) ⟨dfl_neg ha h, trivial⟩ rfl rfl
theorem rof_1 {a b : Int} (ha : inR a) (hb : inR b) (h0 : b ≠ 0) (h : a < 0 ∨ b < 0) : PureX Try.prog 71 #[wz a, wz b] (errs 2) := by
  have e0 := eqv_false hb (y := 0) (by decide) h0
  by_cases h1 : a < 0
  · exact runA_pure mix (of_p1 (nz a) (nz b) 2) ⟨e0, ref_pan ha h1, trivial⟩ rfl rfl
  · exact runA_pure mix (of_p2 (nz a) (nz b) 2) ⟨e0, ref_ok ha (by omega), ref_pan hb (by omega), trivial⟩ rfl rfl
theorem sg_neg {a : Int} (h : a < 0) : decide (a.sign < 0) = true := by rw [Int.sign_eq_neg_one_of_neg h]; rfl
theorem sg_non {a : Int} (h : ¬ a < 0) : decide (a.sign < 0) = false := by
  rcases (show a = 0 ∨ 0 < a by omega) with h | h
  · rw [h]; rfl
  · rw [Int.sign_eq_one_of_pos h]; rfl
/-- Fractions' roots, and half of them: the same on both sides. -/
theorem both_of {a b : Int} (ha : inR a) (hb : inR b) : ∃ z v e : Int, (PureX Try.prog 24 #[wz a, wz b] (rt (tp [wz z, ii e]))) ∧ (PureX Try.prog 25 #[wz a, wz b] (rt (tp [wz z, ii e]))) ∧ (PureX Try.prog 26 #[wz a, wz b] (rt (tp [wz v, ii e]))) ∧ (PureX Try.prog 27 #[wz a, wz b] (rt (tp [wz v, ii e]))) := by
  by_cases h0 : b = 0
  · subst h0
    have d := runB_pure mix (dof_0 (nz a) (nz 0)) ⟨rfl, trivial⟩ rfl rfl
    exact ⟨0, 0, 30, rof_zero ha, d, runA_pure mix (ha_pan (nz a) (nz 0) 30) ⟨frac_zero ha, trivial⟩ rfl rfl, runB_pure mix (dha_30 _ _ _) ⟨d, trivial⟩ rfl rfl⟩
  have e0 := eqv_false hb (y := 0) (by decide) h0
  by_cases h1 : a < 0 ∨ b < 0
  · have p := rof_1 ha hb h0 h1
    have d : PureX Try.prog 25 #[wz a, wz b] (rt (tp [wz 0, ii 2])) := by
      by_cases h2 : a < 0
      · exact runB_pure mix (dof_n1 (nz a) (nz b) _) ⟨e0, rsign_z ha, sg_neg h2, trivial⟩ rfl rfl
      · exact runB_pure mix (dof_n2 (nz a) (nz b) _ _) ⟨e0, rsign_z ha, sg_non h2, rsign_z hb, sg_neg (by omega), trivial⟩ rfl rfl
    exact ⟨0, 0, 2, runA_pure mix (oo_pan (nz a) (nz b) 2) ⟨p, trivial⟩ rfl rfl, d, runA_pure mix (ha_pan (nz a) (nz b) 2) ⟨p, trivial⟩ rfl rfl, runB_pure mix (dha_2 _ _ _) ⟨d, trivial⟩ rfl rfl⟩
  · obtain ⟨x, rfl⟩ := Int.eq_ofNat_of_zero_le (show 0 ≤ a by omega)
    obtain ⟨y, rfl⟩ := Int.eq_ofNat_of_zero_le (show 0 ≤ b by omega)
    have hx : x < 57896044618658097711785492504343953926634992332820282019728792003956564819968 := by unfold inR at ha; omega
    have hy : y < 57896044618658097711785492504343953926634992332820282019728792003956564819968 := by unfold inR at hb; omega
    have hy0 : 0 < y := by omega
    have hq : x / y < 57896044618658097711785492504343953926634992332820282019728792003956564819968 := Nat.lt_of_le_of_lt (Nat.div_le_self _ _) hx
    have F := dFloor_z plain_ok ha hb (nat_in hx).2 (nat_in hy).2 h0
    rw [flI_nat hy0] at F
    have d := runB_pure mix (dof_ok (nz (x : Int)) (nz (y : Int)) _ _ _ _) ⟨e0, rsign_z ha, sg_non (by omega), rsign_z hb, sg_non (by omega), F, dfl_z hq, trivial⟩ rfl rfl
    have hl := isq_in hq
    have hA := radd_z (inN (show isq (x / y) < 57896044618658097711785492504343953926634992332820282019728792003956564819968 by omega)) (show inR (1 : Int) by unfold inR; omega)
    rw [show (isq (x / y) : Int) + 1 = ((isq (x / y) + 1 : Nat) : Int) by omega] at hA
    have F2 := dFloor_z plain_ok (inN hl) (show inR (2 : Int) by unfold inR; omega) (nat_in hl).2 (show (2 : Int) ≠ lst by unfold lst; decide) (by decide)
    have e2 : flI ((isq (x / y) + 1 : Nat) : Int) 2 = (((isq (x / y) + 1) / 2 : Nat) : Int) := flI_nat (y := 2) (by decide)
    rw [e2] at F2
    have d2 := runB_pure mix (dha_ok (nz (x : Int)) (nz (y : Int)) _ _ _ _ _ _) ⟨d, rof_z (show (-9223372036854775808 : Int) ≤ 1 by decide) (by decide), hA, rof_z (show (-9223372036854775808 : Int) ≤ 2 by decide) (by decide), F2, trivial⟩ rfl rfl
    exact ⟨_, _, 0, rof_frac hx hy hy0, d, rha_frac hx hy hy0, d2⟩
/-- Roots: the same on both sides. -/
theorem both_fl {a : Int} (ha : inR a) : ∃ (z v e : Int) (o : Bool), (PureX Try.prog 20 #[wz a] (rt (tp [wz z, ii e]))) ∧ (PureX Try.prog 21 #[wz a] (rt (tp [wz z, ii e]))) ∧ (PureX Try.prog 22 #[wz a] (rt (tp [wz v, ii e]))) ∧ (PureX Try.prog 23 #[wz a] (rt (tp [wz v, ii e]))) ∧ (PureX Try.prog 30 #[wz a] (rt (bb o))) ∧ (PureX Try.prog 31 #[wz a] (rt (bb o))) := by
  by_cases h : a < 0
  · exact ⟨0, 0, 2, false, rfl_neg ha h, dfl_neg ha h, rce_neg ha h, dup_n ha h, ris_neg ha h, dis_n ha h⟩
  · obtain ⟨x, rfl⟩ := Int.eq_ofNat_of_zero_le (show 0 ≤ a by omega)
    have hx : x < 57896044618658097711785492504343953926634992332820282019728792003956564819968 := by unfold inR at ha; omega
    exact ⟨_, _, 0, _, rfl_z hx, dfl_z hx, rce_z hx, dup_v hx, ris_z hx, dis_v hx⟩
theorem both_in {k : Int} (hk : isI k) : ∃ z e : Int, (PureX Try.prog 28 #[ii k] (rt (tp [ii z, ii e]))) ∧ (PureX Try.prog 29 #[ii k] (rt (tp [ii z, ii e]))) := by
  have ho := rof_z hk.1 hk.2
  by_cases h : k < 0
  · have hi := dint_ok (x := 0) (by unfold isI; omega)
    exact ⟨0, 2, runA_pure mix (ri_pan k 2 (nz k)) ⟨of_z hk, extr_pan (isI_in hk) h, trivial⟩ rfl rfl, runB_pure mix (din_raw _ _ _ _ _ _) ⟨ho, dfl_neg (isI_in hk) h, hi, trivial⟩ rfl rfl⟩
  · obtain ⟨x, rfl⟩ := Int.eq_ofNat_of_zero_le (show 0 ≤ k by omega)
    have hx : x < 9223372036854775808 := by unfold isI at hk; omega
    have hb : x < 57896044618658097711785492504343953926634992332820282019728792003956564819968 := by omega
    have hle : isq x ≤ x := Nat.le_trans (Nat.le_mul_self _) (isq_ok hb).1
    exact ⟨_, 0, rint_ok hx, runB_pure mix (din_raw _ _ _ _ _ _) ⟨ho, dfl_z hb, dint_ok (by unfold isI; omega), trivial⟩ rfl rfl⟩
theorem eqv_self (x : Nat) : eqv x x = true := by rw [eqv_dec]; exact decide_eq_true rfl
theorem tells4_walk {a b k : Int} (ha : inR a) (hb : inR b) (hk : isI k) : PureX Try.prog 4 #[wz a, wz b, ii k] (rt (bb true)) := by
  obtain ⟨z, v, e, o, f1, f2, f3, f4, f5, f6⟩ := both_fl ha
  obtain ⟨z', v', e', g1, g2, g3, g4⟩ := both_of ha hb
  obtain ⟨i, l, h1, h2⟩ := both_in hk
  have s := eqv_self
  have bn : ∀ x : Int, (x != x) = false := fun x => by simp
  have cn : ∀ x : Int, (x == x) = true := fun x => by simp
  exact runB_pure mix (l4_raw (nz a) (nz b) (nz z) (nz v) (nz z') (nz v') e e e' e' i l k o) ⟨f1, f2, f3, f4, by rw [s]; rfl, bn _, by rw [s]; rfl, bn _, g1, g2, g3, g4, h1, h2, s _, cn _, s _, cn _, cn _, cn _, f5, f6, by cases o <;> rfl, wakes4_c, trivial⟩ rfl rfl

end Go.Proofs.Ytlioffkonfkflaa
