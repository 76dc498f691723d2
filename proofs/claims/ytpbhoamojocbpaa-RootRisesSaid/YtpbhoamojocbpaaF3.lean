/- Wide numbers as integers; Neg, Sign, size, Add, Sub. -/
import Derived.Test.YtpbhoamojocbpaaF2
namespace Go.Proofs.Ytpbhoamojocbpaa
open Go Go.RowKit
set_option linter.unusedSimpArgs false
set_option linter.unusedVariables false

/-- Are two wide numbers the same? -/
def eqv (x y : Nat) : Bool :=
  (Int.ofNat (x % 18446744073709551616) == Int.ofNat (y % 18446744073709551616)) &&
    ((Int.ofNat (x / 18446744073709551616 % 18446744073709551616) == Int.ofNat (y / 18446744073709551616 % 18446744073709551616)) &&
      ((Int.ofNat (x / 340282366920938463463374607431768211456 % 18446744073709551616) == Int.ofNat (y / 340282366920938463463374607431768211456 % 18446744073709551616)) &&
        ((Int.ofNat (x / 6277101735386680763835789423207666416102355444464034512896 % 18446744073709551616) == Int.ofNat (y / 6277101735386680763835789423207666416102355444464034512896 % 18446744073709551616)) && true)))
theorem eqv_dec (x y : Nat) : eqv x y = decide (x % Mw = y % Mw) := by
  rw [Bool.eq_iff_iff, decide_eq_true_iff]
  unfold eqv
  simp only [Bool.and_eq_true, beq_iff_eq, Int.ofNat.injEq, and_true]
  constructor
  · rintro ⟨h0, h1, h2, h3⟩
    have ex : ∀ x, x % Mw = vl (x % 18446744073709551616) (x / 18446744073709551616 % 18446744073709551616) (x / 340282366920938463463374607431768211456 % 18446744073709551616) (x / 6277101735386680763835789423207666416102355444464034512896 % 18446744073709551616) := by
      intro x
      have h2 : x / 340282366920938463463374607431768211456 = x / 18446744073709551616 / 18446744073709551616 := by rw [Nat.div_div_eq_div_mul]
      have h3 : x / 6277101735386680763835789423207666416102355444464034512896 = x / 18446744073709551616 / 18446744073709551616 / 18446744073709551616 := by rw [Nat.div_div_eq_div_mul, Nat.div_div_eq_div_mul]
      have h4 : x % Mw = x % (18446744073709551616 * (18446744073709551616 * (18446744073709551616 * 18446744073709551616))) := rfl
      unfold vl
      rw [h2, h3, h4, Nat.mod_mul, Nat.mod_mul, Nat.mod_mul]
    rw [ex x, ex y, h0, h1, h2, h3]
  · intro h
    have := wv_mod h
    unfold wv W4 at this
    simp only [Value.agg.injEq, Array.mk.injEq, List.cons.injEq, Value.int.injEq, true_and, and_true, Int.ofNat.injEq] at this
    exact this

theorem neg_raw (x y : Nat) (o : Bool) : runA Try.prog 110 #[wv x] [] [(66, rt (tp [wv y, bb (o)]))] =
    some (rt (tp [wv y, bb (o)]), [PureX Try.prog 66 #[wv 0, wv x] (rt (tp [wv y, bb (o)]))]) := by kernel_rfl
theorem size_raw1 (x y : Nat) (o p : Bool) : runA Try.prog 108 #[wv x] [t] [(109, rt (bb (o))), (110, rt (tp [wv y, bb (p)]))] =
    some (rt (wv y), [PureX Try.prog 109 #[wv x] (rt (bb (o))), (o) = true, PureX Try.prog 110 #[wv x] (rt (tp [wv y, bb (p)]))]) := by kernel_rfl
theorem size_raw2 (x : Nat) (o : Bool) : runA Try.prog 108 #[wv x] [f] [(109, rt (bb (o)))] =
    some (rt (wv x), [PureX Try.prog 109 #[wv x] (rt (bb (o))), (o) = false]) := by kernel_rfl
theorem sign_raw1 (x : Nat) : runA Try.prog 101 #[wv x] [t] [] =
    some (rt (.int .i64 (0)), [(eqv x 0) = true]) := by kernel_rfl
theorem sign_raw2 (x : Nat) (o : Bool) : runA Try.prog 101 #[wv x] [f, t] [(109, rt (bb (o)))] =
    some (rt (.int .i64 (-1)), [(eqv x 0) = false, PureX Try.prog 109 #[wv x] (rt (bb (o))), (o) = true]) := by kernel_rfl
theorem sign_raw3 (x : Nat) (o : Bool) : runA Try.prog 101 #[wv x] [f, f] [(109, rt (bb (o)))] =
    some (rt (.int .i64 (1)), [(eqv x 0) = false, PureX Try.prog 109 #[wv x] (rt (bb (o))), (o) = false]) := by kernel_rfl

theorem neg_x (x : Nat) : PureX Try.prog 110 #[wv x] (rt (tp [wv (dif 0 x), bb (subO 0 x)])) :=
  runA_pure mix (neg_raw x (dif 0 x) (subO 0 x)) ⟨sub_x 0 x, trivial⟩ rfl rfl
/-- A number without its sign. -/
def siz (x : Nat) : Nat := if ng x = true then dif 0 x else x
theorem size_x (x : Nat) : PureX Try.prog 108 #[wv x] (rt (wv (siz x))) := by
  unfold siz
  have hb := below_x x
  generalize hn : ng x = b at hb ⊢
  cases b
  · exact runA_pure mix (size_raw2 x false) ⟨hb, rfl, trivial⟩ rfl rfl
  · exact runA_pure mix (size_raw1 x (dif 0 x) true (subO 0 x)) ⟨hb, rfl, neg_x x, trivial⟩ rfl rfl
/-- The sign. -/
def sg (x : Nat) : Int := if x % Mw = 0 then 0 else if ng x = true then -1 else 1
theorem sign_x (x : Nat) : PureX Try.prog 101 #[wv x] (rt (.int .i64 (sg x))) := by
  have he := eqv_dec x 0
  have hb := below_x x
  unfold sg
  rw [Nat.zero_mod] at he
  by_cases h0 : x % Mw = 0
  · rw [if_pos h0]
    rw [decide_eq_true h0] at he
    exact runA_pure mix (sign_raw1 x) ⟨he, trivial⟩ rfl rfl
  · rw [if_neg h0]
    rw [decide_eq_false h0] at he
    generalize ng x = b at hb ⊢
    cases b
    · exact runA_pure mix (sign_raw3 x false) ⟨he, hb, rfl, trivial⟩ rfl rfl
    · exact runA_pure mix (sign_raw2 x true) ⟨he, hb, rfl, trivial⟩ rfl rfl

/-! ### As integers. -/
abbrev Hw : Nat := 57896044618658097711785492504343953926634992332820282019728792003956564819968
def nz (z : Int) : Nat := (z % (Mw : Int)).toNat
/-- A wide number of an integer, by its rest. -/
def wz (z : Int) : Value := wv (nz z)
/-- Does it fit? -/
def inR (z : Int) : Prop := -57896044618658097711785492504343953926634992332820282019728792003956564819968 ≤ z ∧ z < 57896044618658097711785492504343953926634992332820282019728792003956564819968
instance (z : Int) : Decidable (inR z) := inferInstanceAs (Decidable (_ ∧ _))
theorem nz_lt (z : Int) : nz z < Mw := by
  unfold nz
  simp only [Mw]
  omega
theorem nz_cast (z : Int) : ((nz z : Nat) : Int) = z % (Mw : Int) := by
  unfold nz
  exact Int.toNat_of_nonneg (Int.emod_nonneg _ (by decide))
theorem nz_of {z : Int} {x : Nat} (h : (x : Int) % (Mw : Int) = z % (Mw : Int)) : wv x = wz z := by
  unfold wz
  apply wv_mod
  have e : ((x % Mw : Nat) : Int) = ((nz z % Mw : Nat) : Int) := by
    rw [Int.natCast_emod, Int.natCast_emod, nz_cast, h, Int.emod_emod_of_dvd _ (Int.dvd_refl _)]
  exact Int.ofNat.inj e
theorem ng_z {z : Int} (h : inR z) : ng (nz z) = decide (z < 0) := by
  unfold ng inR at *
  rw [decide_eq_decide, Nat.mod_eq_of_lt (nz_lt z)]
  have e := nz_cast z
  generalize nz z = m at e ⊢
  simp only [Mw] at e
  omega
theorem ng_mz (z : Int) : ng (nz z) = decide (57896044618658097711785492504343953926634992332820282019728792003956564819968 ≤ z % (Mw : Int)) := by
  unfold ng
  rw [decide_eq_decide, Nat.mod_eq_of_lt (nz_lt z)]
  have e := nz_cast z
  rw [← e]
  omega
theorem add_wv (x y : Int) : wv (nz x + nz y) = wz (x + y) ∧ ng (nz x + nz y) = ng (nz (x + y)) := by
  have h : ((nz x + nz y : Nat) : Int) % (Mw : Int) = (x + y) % (Mw : Int) := by
    rw [Int.natCast_add, nz_cast, nz_cast, ← Int.add_emod]
  refine ⟨nz_of h, ng_mod ?_⟩
  have e : (((nz x + nz y) % Mw : Nat) : Int) = ((nz (x + y) % Mw : Nat) : Int) := by
    rw [Int.natCast_emod, Int.natCast_emod, h, nz_cast, Int.emod_emod_of_dvd _ (Int.dvd_refl _)]
  exact Int.ofNat.inj e
theorem dif_wv (x y : Int) : wv (dif (nz x) (nz y)) = wz (x - y) ∧ ng (dif (nz x) (nz y)) = ng (nz (x - y)) := by
  have h : ((dif (nz x) (nz y) : Nat) : Int) % (Mw : Int) = (x - y) % (Mw : Int) := by
    unfold dif
    have hy := nz_lt y
    rw [Nat.mod_eq_of_lt hy, Int.natCast_add, Int.natCast_sub (Nat.le_of_lt hy), nz_cast, nz_cast]
    rw [show x % (Mw : Int) + ((Mw : Int) - y % (Mw : Int)) = (x % (Mw : Int) - y % (Mw : Int)) + (Mw : Int) by omega, Int.add_emod_right, ← Int.sub_emod]
  refine ⟨nz_of h, ng_mod ?_⟩
  have e : ((dif (nz x) (nz y) % Mw : Nat) : Int) = ((nz (x - y) % Mw : Nat) : Int) := by
    rw [Int.natCast_emod, Int.natCast_emod, h, nz_cast, Int.emod_emod_of_dvd _ (Int.dvd_refl _)]
  exact Int.ofNat.inj e

theorem over_add {x y : Int} (hx : inR x) (hy : inR y) : addO (nz x) (nz y) = decide (¬ inR (x + y)) := by
  unfold addO
  rw [(add_wv x y).2, ng_z hx, ng_z hy, ng_mz (x + y)]
  unfold inR at *
  simp only [Mw]
  rw [Bool.eq_iff_iff]
  simp only [Bool.and_eq_true, Bool.not_eq_true', beq_iff_eq, beq_eq_false_iff_ne, ne_eq, decide_eq_decide, decide_eq_true_eq]
  omega
theorem over_sub {x y : Int} (hx : inR x) (hy : inR y) : subO (nz x) (nz y) = decide (¬ inR (x - y)) := by
  unfold subO
  rw [(dif_wv x y).2, ng_z hx, ng_z hy, ng_mz (x - y)]
  unfold inR at *
  simp only [Mw]
  rw [Bool.eq_iff_iff]
  simp only [Bool.and_eq_true, Bool.not_eq_true', beq_iff_eq, beq_eq_false_iff_ne, ne_eq, decide_eq_decide, decide_eq_true_eq]
  omega
theorem add_z {x y : Int} (hx : inR x) (hy : inR y) : PureX Try.prog 119 #[wz x, wz y] (rt (tp [wz (x + y), bb (decide (¬ inR (x + y)))])) := by
  have h := add_x (nz x) (nz y)
  rw [(add_wv x y).1, over_add hx hy] at h
  exact h
theorem sub_z {x y : Int} (hx : inR x) (hy : inR y) : PureX Try.prog 66 #[wz x, wz y] (rt (tp [wz (x - y), bb (decide (¬ inR (x - y)))])) := by
  have h := sub_x (nz x) (nz y)
  rw [(dif_wv x y).1, over_sub hx hy] at h
  exact h
theorem neg_z {x : Int} (hx : inR x) : PureX Try.prog 110 #[wz x] (rt (tp [wz (-x), bb (decide (¬ inR (-x)))])) := by
  have h := neg_x (nz x)
  have e0 : (0 : Nat) = nz 0 := rfl
  rw [e0, (dif_wv 0 x).1, over_sub (by decide) hx, show (0 : Int) - x = -x by omega] at h
  exact h
theorem sg_z {z : Int} (h : inR z) : sg (nz z) = z.sign := by
  unfold sg
  rw [ng_z h, Nat.mod_eq_of_lt (nz_lt z)]
  have e := nz_cast z
  have hz : nz z = 0 ↔ z = 0 := by
    generalize nz z = m at e ⊢
    unfold inR at h
    simp only [Mw] at e
    omega
  by_cases h0 : z = 0
  · rw [if_pos (hz.2 h0), h0]; rfl
  · rw [if_neg (fun c => h0 (hz.1 c))]
    by_cases h1 : z < 0
    · rw [if_pos (by simpa using h1), Int.sign_eq_neg_one_of_neg h1]
    · rw [if_neg (by simpa using h1), Int.sign_eq_one_of_pos (by omega)]
theorem sign_z {z : Int} (h : inR z) : PureX Try.prog 101 #[wz z] (rt (.int .i64 z.sign)) := by
  have := sign_x (nz z)
  rw [sg_z h] at this
  exact this

end Go.Proofs.Ytpbhoamojocbpaa
