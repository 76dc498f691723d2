/- A division, by sizes; Floor, Ceil and their like told. -/
import Derived.Test.YtpbhoamojocbpaaM1
namespace Go.Proofs.Ytpbhoamojocbpaa
open Go Go.RowKit
set_option linter.unusedSimpArgs false
set_option linter.unusedVariables false

theorem div_zero (x y : Nat) : runA Try.prog 53 #[wv x, wv y] [t] [] =
    some (.pan ([{ v := Value.iface 25 (Value.int .i64 30), recovered := false }]), [(eqv y 0) = true]) := by kernel_rfl
theorem div_over1 (x y : Nat) : runA Try.prog 53 #[wv x, wv y] [f, t, n, n, n] [] =
    some (.pan ([{ v := Value.iface 25 (Value.int .i64 20), recovered := false }]), [(eqv y 0) = false, (eqv x 57896044618658097711785492504343953926634992332820282019728792003956564819968) = true]) := by kernel_rfl
theorem div_over2 (x y : Nat) : runA Try.prog 53 #[wv x, wv y] [f, f, n, n, t] [] =
    some (.pan ([{ v := Value.iface 25 (Value.int .i64 20), recovered := false }]), [(eqv y 0) = false, (eqv x 57896044618658097711785492504343953926634992332820282019728792003956564819968) = false, (eqv y 57896044618658097711785492504343953926634992332820282019728792003956564819968) = true]) := by kernel_rfl
theorem div_raw (x y ax ay q r : Nat) (s k : Int) : runA Try.prog 53 #[wv x, wv y] [f, f, n, n, f] [(99, rt (wv ay)), (99, rt (wv ax)), (100, rt (tp [wv q, wv r])), (101, rt (.int .i64 (s))), (101, rt (.int .i64 (k)))] =
    some (rt (DV q r ay (decide (IntKind.i64.wrap (s * k) < 0))), [(eqv y 0) = false, (eqv x 57896044618658097711785492504343953926634992332820282019728792003956564819968) = false, (eqv y 57896044618658097711785492504343953926634992332820282019728792003956564819968) = false, PureX Try.prog 99 #[wv y] (rt (wv ay)), PureX Try.prog 99 #[wv x] (rt (wv ax)), PureX Try.prog 100 #[wv ax, wv ay] (rt (tp [wv q, wv r])), PureX Try.prog 101 #[wv x] (rt (.int .i64 (s))), PureX Try.prog 101 #[wv y] (rt (.int .i64 (k)))]) := by kernel_rfl
theorem qfloor_ok (x y z q r c : Nat) (s : Bool) : runA Try.prog 12 #[wv x, wv y] [] [(53, rt (DV q r c (s))), (54, rt (wv z))] =
    some (rt (tp [wv z, .int .i64 (0)]), [PureX Try.prog 53 #[wv x, wv y] (rt (DV q r c (s))), PureX Try.prog 54 #[DV q r c (s)] (rt (wv z))]) := by kernel_rfl
theorem qfloor_pan (x y : Nat) (v : Int) : runA Try.prog 12 #[wv x, wv y] [] [(53, .pan ([{ v := Value.iface 25 (Value.int .i64 v), recovered := false }]))] =
    some (rt (tp [wv 0, .int .i64 (v)]), [PureX Try.prog 53 #[wv x, wv y] (.pan ([{ v := Value.iface 25 (Value.int .i64 v), recovered := false }]))]) := by kernel_rfl
theorem qceil_ok (x y z q r c : Nat) (s : Bool) : runA Try.prog 14 #[wv x, wv y] [] [(53, rt (DV q r c (s))), (57, rt (wv z))] =
    some (rt (tp [wv z, .int .i64 (0)]), [PureX Try.prog 53 #[wv x, wv y] (rt (DV q r c (s))), PureX Try.prog 57 #[DV q r c (s)] (rt (wv z))]) := by kernel_rfl
theorem qceil_pan (x y : Nat) (v : Int) : runA Try.prog 14 #[wv x, wv y] [] [(53, .pan ([{ v := Value.iface 25 (Value.int .i64 v), recovered := false }]))] =
    some (rt (tp [wv 0, .int .i64 (v)]), [PureX Try.prog 53 #[wv x, wv y] (.pan ([{ v := Value.iface 25 (Value.int .i64 v), recovered := false }]))]) := by kernel_rfl
theorem qnear_ok (x y z q r c : Nat) (s : Bool) : runA Try.prog 16 #[wv x, wv y] [] [(53, rt (DV q r c (s))), (61, rt (wv z))] =
    some (rt (tp [wv z, .int .i64 (0)]), [PureX Try.prog 53 #[wv x, wv y] (rt (DV q r c (s))), PureX Try.prog 61 #[DV q r c (s)] (rt (wv z))]) := by kernel_rfl
theorem qnear_pan (x y : Nat) (v : Int) : runA Try.prog 16 #[wv x, wv y] [] [(53, .pan ([{ v := Value.iface 25 (Value.int .i64 v), recovered := false }]))] =
    some (rt (tp [wv 0, .int .i64 (v)]), [PureX Try.prog 53 #[wv x, wv y] (.pan ([{ v := Value.iface 25 (Value.int .i64 v), recovered := false }]))]) := by kernel_rfl
theorem qrest_ok (x y z p d q r c : Nat) (s o e : Bool) : runA Try.prog 18 #[wv x, wv y] [] [(53, rt (DV q r c (s))), (54, rt (wv z)), (65, rt (tp [wv p, bb (o)])), (66, rt (tp [wv d, bb (e)]))] =
    some (rt (tp [wv d, .int .i64 (0)]), [PureX Try.prog 53 #[wv x, wv y] (rt (DV q r c (s))), PureX Try.prog 54 #[DV q r c (s)] (rt (wv z)), PureX Try.prog 65 #[wv y, wv z] (rt (tp [wv p, bb (o)])), PureX Try.prog 66 #[wv x, wv p] (rt (tp [wv d, bb (e)]))]) := by kernel_rfl

/-- The division of sizes, owed. -/
def DivOK : Prop := ∀ a b : Nat, a < Mw → 0 < b → b < Mw → PureX Try.prog 100 #[wv a, wv b] (rt (tp [wv (a / b), wv (a % b)]))
abbrev least : Int := -57896044618658097711785492504343953926634992332820282019728792003956564819968
def errs (v : Int) : Res := .pan [{ v := .iface 25 (.int .i64 v), recovered := false }]
theorem eqv_z {x y : Int} (hx : inR x) (hy : inR y) : eqv (nz x) (nz y) = decide (x = y) := by
  rw [eqv_dec, Nat.mod_eq_of_lt (nz_lt x), Nat.mod_eq_of_lt (nz_lt y), decide_eq_decide]
  constructor
  · intro h
    have e : (nz x : Int) = (nz y : Int) := by rw [h]
    rw [nz_cast, nz_cast] at e
    unfold inR at *
    simp only [Mw] at e
    omega
  · rintro rfl
    rfl
theorem nz_least : nz least = 57896044618658097711785492504343953926634992332820282019728792003956564819968 := rfl
theorem least_in : inR least := by decide
theorem divide_zero {x : Int} (hx : inR x) : PureX Try.prog 53 #[wz x, wz 0] (errs 30) :=
  runA_pure mix (div_zero (nz x) (nz 0)) ⟨rfl, trivial⟩ rfl rfl
theorem divide_over {x y : Int} (hx : inR x) (hy : inR y) (h0 : y ≠ 0) (h : x = least ∨ y = least) : PureX Try.prog 53 #[wz x, wz y] (errs 20) := by
  have e0 : eqv (nz y) 0 = false := by
    rw [show (0 : Nat) = nz 0 from rfl, eqv_z hy (by decide), decide_eq_false h0]
  have e1 := eqv_z hx least_in
  have e2 := eqv_z hy least_in
  rw [nz_least] at e1 e2
  by_cases hl : x = least
  · exact runA_pure mix (div_over1 (nz x) (nz y)) ⟨e0, by rw [e1, decide_eq_true hl], trivial⟩ rfl rfl
  · have hl2 : y = least := h.resolve_left hl
    exact runA_pure mix (div_over2 (nz x) (nz y)) ⟨e0, by rw [e1, decide_eq_false hl], by rw [e2, decide_eq_true hl2], trivial⟩ rfl rfl
theorem below_dec (x y : Int) : decide (IntKind.i64.wrap (x.sign * y.sign) < 0) = decide (belowI x y) := by
  have k : ∀ z : Int, (z < 0 ∧ z.sign = -1) ∨ (z = 0 ∧ z.sign = 0) ∨ (0 < z ∧ z.sign = 1) := by
    intro z
    rcases Int.lt_trichotomy z 0 with h | h | h
    · exact .inl ⟨h, Int.sign_eq_neg_one_of_neg h⟩
    · exact .inr (.inl ⟨h, by rw [h]; rfl⟩)
    · exact .inr (.inr ⟨h, Int.sign_eq_one_of_pos h⟩)
  have hw : ∀ w : Int, w = -1 ∨ w = 0 ∨ w = 1 → decide (IntKind.i64.wrap w < 0) = decide (w < 0) := by
    rintro w (rfl | rfl | rfl) <;> decide
  rcases k x with ⟨h1, h2⟩ | ⟨h1, h2⟩ | ⟨h1, h2⟩ <;> rcases k y with ⟨g1, g2⟩ | ⟨g1, g2⟩ | ⟨g1, g2⟩ <;> rw [h2, g2, hw _ (by decide), decide_eq_decide] <;> unfold belowI <;> omega
theorem divide_z (hd : DivOK) {x y : Int} (hx : inR x) (hy : inR y) (h0 : y ≠ 0) (hx1 : x ≠ least) (hy1 : y ≠ least) :
    PureX Try.prog 53 #[wz x, wz y] (rt (DV (x.natAbs / y.natAbs) (x.natAbs % y.natAbs) y.natAbs (decide (belowI x y)))) := by
  have e0 : eqv (nz y) 0 = false := by
    rw [show (0 : Nat) = nz 0 from rfl, eqv_z hy (by decide), decide_eq_false h0]
  have e1 := eqv_z hx least_in
  have e2 := eqv_z hy least_in
  rw [nz_least] at e1 e2
  have a1 := abs_le hx
  have a2 := abs_le hy
  have hq := hd x.natAbs y.natAbs (Nat.lt_of_le_of_lt a1 (by decide)) (by omega) (Nat.lt_of_le_of_lt a2 (by decide))
  have h := runA_pure mix (div_raw (nz x) (nz y) x.natAbs y.natAbs (x.natAbs / y.natAbs) (x.natAbs % y.natAbs) x.sign y.sign) ⟨e0, by rw [e1, decide_eq_false hx1], by rw [e2, decide_eq_false hy1], qsize_z hy, qsize_z hx, hq, sign_z hx, sign_z hy, trivial⟩ rfl rfl
  rw [below_dec] at h
  exact h

theorem whl_int (x y : Int) (T : Nat) (far : Bool) : whl T (decide (belowI x y)) far = wholeI x y T far := by
  unfold whl wholeI
  by_cases h : belowI x y
  · rw [if_pos (decide_eq_true h), if_pos h]
  · rw [if_neg (by simpa using h), if_neg h]
/-- The floor; the ceiling. -/
def flI (x y : Int) : Int := wholeI x y (x.natAbs / y.natAbs) (decide (belowI x y) && !decide (x.natAbs % y.natAbs = 0))
def ceI (x y : Int) : Int := wholeI x y (x.natAbs / y.natAbs) (!decide (belowI x y) && !decide (x.natAbs % y.natAbs = 0))
theorem rest_mod {x y : Int} (hy : inR y) (h0 : y ≠ 0) : x.natAbs % y.natAbs % Mw = x.natAbs % y.natAbs := by
  have := Nat.mod_lt x.natAbs (show 0 < y.natAbs by omega)
  have a2 := abs_le hy
  exact Nat.mod_eq_of_lt (Nat.lt_trans this (Nat.lt_of_le_of_lt a2 (by decide)))
theorem flo_z (hd : DivOK) {x y : Int} (hx : inR x) (hy : inR y) (h0 : y ≠ 0) (hx1 : x ≠ least) (hy1 : y ≠ least) : PureX Try.prog 12 #[wz x, wz y] (rt (tp [wz (flI x y), .int .i64 0])) := by
  have h1 := divide_z hd hx hy h0 hx1 hy1
  have h2 := floor_x (x.natAbs / y.natAbs) (x.natAbs % y.natAbs) y.natAbs (decide (belowI x y))
  rw [rest_mod hy h0, whl_int] at h2
  exact runA_pure mix (qfloor_ok (nz x) (nz y) (nz (flI x y)) _ _ _ _) ⟨h1, h2, trivial⟩ rfl rfl
theorem cei_z (hd : DivOK) {x y : Int} (hx : inR x) (hy : inR y) (h0 : y ≠ 0) (hx1 : x ≠ least) (hy1 : y ≠ least) : PureX Try.prog 14 #[wz x, wz y] (rt (tp [wz (ceI x y), .int .i64 0])) := by
  have h1 := divide_z hd hx hy h0 hx1 hy1
  have h2 := ceil_x (x.natAbs / y.natAbs) (x.natAbs % y.natAbs) y.natAbs (decide (belowI x y))
  rw [rest_mod hy h0, whl_int] at h2
  exact runA_pure mix (qceil_ok (nz x) (nz y) (nz (ceI x y)) _ _ _ _) ⟨h1, h2, trivial⟩ rfl rfl
theorem flo_zero {x : Int} (hx : inR x) : PureX Try.prog 12 #[wz x, wz 0] (rt (tp [wz 0, .int .i64 30])) := runA_pure mix (qfloor_pan (nz x) (nz 0) 30) ⟨divide_zero hx, trivial⟩ rfl rfl
theorem cei_zero {x : Int} (hx : inR x) : PureX Try.prog 14 #[wz x, wz 0] (rt (tp [wz 0, .int .i64 30])) := runA_pure mix (qceil_pan (nz x) (nz 0) 30) ⟨divide_zero hx, trivial⟩ rfl rfl
theorem nea_zero {x : Int} (hx : inR x) : PureX Try.prog 16 #[wz x, wz 0] (rt (tp [wz 0, .int .i64 30])) := runA_pure mix (qnear_pan (nz x) (nz 0) 30) ⟨divide_zero hx, trivial⟩ rfl rfl
theorem flo_over {x y : Int} (hx : inR x) (hy : inR y) (h0 : y ≠ 0) (h : x = least ∨ y = least) : PureX Try.prog 12 #[wz x, wz y] (rt (tp [wz 0, .int .i64 20])) := runA_pure mix (qfloor_pan (nz x) (nz y) 20) ⟨divide_over hx hy h0 h, trivial⟩ rfl rfl
theorem cei_over {x y : Int} (hx : inR x) (hy : inR y) (h0 : y ≠ 0) (h : x = least ∨ y = least) : PureX Try.prog 14 #[wz x, wz y] (rt (tp [wz 0, .int .i64 20])) := runA_pure mix (qceil_pan (nz x) (nz y) 20) ⟨divide_over hx hy h0 h, trivial⟩ rfl rfl
theorem nea_over {x y : Int} (hx : inR x) (hy : inR y) (h0 : y ≠ 0) (h : x = least ∨ y = least) : PureX Try.prog 16 #[wz x, wz y] (rt (tp [wz 0, .int .i64 20])) := runA_pure mix (qnear_pan (nz x) (nz y) 20) ⟨divide_over hx hy h0 h, trivial⟩ rfl rfl

end Go.Proofs.Ytpbhoamojocbpaa
