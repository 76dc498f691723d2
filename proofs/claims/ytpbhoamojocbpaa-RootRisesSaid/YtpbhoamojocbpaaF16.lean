/- Rests, shifts, ints by ints; what the law's examples come to. -/
import Derived.Test.YtpbhoamojocbpaaF15
import Derived.Test.YtpbhoamojocbpaaD11
namespace Go.Proofs.Ytpbhoamojocbpaa
open Go Go.RowKit
set_option linter.unusedSimpArgs false
set_option linter.unusedVariables false

theorem left_ok (x p z : Nat) (k : Int) : runA Try.prog 20 #[wv x, .int .i64 (k)] [] [(68, rt (wv p)), (65, rt (tp [wv z, bb (false)]))] =
    some (rt (tp [wv z, .int .i64 (0)]), [PureX Try.prog 68 #[.int .i64 (k)] (rt (wv p)), PureX Try.prog 65 #[wv x, wv p] (rt (tp [wv z, bb (false)]))]) := by kernel_rfl
theorem left_over (x p z : Nat) (k : Int) : runA Try.prog 20 #[wv x, .int .i64 (k)] [] [(68, rt (wv p)), (65, rt (tp [wv z, bb (true)]))] =
    some (rt (tp [wv 0, .int .i64 (20)]), [PureX Try.prog 68 #[.int .i64 (k)] (rt (wv p)), PureX Try.prog 65 #[wv x, wv p] (rt (tp [wv z, bb (true)]))]) := by kernel_rfl
theorem right_ok (x p z q r c : Nat) (s : Bool) (k : Int) : runA Try.prog 22 #[wv x, .int .i64 (k)] [] [(68, rt (wv p)), (53, rt (DV q r c (s))), (54, rt (wv z))] =
    some (rt (tp [wv z, .int .i64 (0)]), [PureX Try.prog 68 #[.int .i64 (k)] (rt (wv p)), PureX Try.prog 53 #[wv x, wv p] (rt (DV q r c (s))), PureX Try.prog 54 #[DV q r c (s)] (rt (wv z))]) := by kernel_rfl
theorem right_pan (x p : Nat) (k v : Int) : runA Try.prog 22 #[wv x, .int .i64 (k)] [] [(68, rt (wv p)), (53, errs v)] =
    some (rt (tp [wv 0, .int .i64 (v)]), [PureX Try.prog 68 #[.int .i64 (k)] (rt (wv p)), PureX Try.prog 53 #[wv x, wv p] (errs v)]) := by kernel_rfl
theorem right_arg (x : Nat) (k v : Int) : runA Try.prog 22 #[wv x, .int .i64 (k)] [] [(68, errs v)] =
    some (rt (tp [wv 0, .int .i64 (v)]), [PureX Try.prog 68 #[.int .i64 (k)] (errs v)]) := by kernel_rfl
theorem ints_ok (x y z : Int) (ox oy oz m n q r c : Nat) (b1 s : Bool) (k : Int) : runA Try.prog 24 #[.int .i64 (x), .int .i64 (y), .int .i64 (z)] [] [(72, rt (wv ox)), (72, rt (wv oy)), (65, rt (tp [wv m, bb (b1)])), (72, rt (wv oz)), (53, rt (DV q r c (s))), (61, rt (wv n)), (73, rt (tp [.int .i64 (k), bb (true)]))] =
    some (rt (tp [.int .i64 (k), .int .i64 (0)]), [PureX Try.prog 72 #[.int .i64 (x)] (rt (wv ox)), PureX Try.prog 72 #[.int .i64 (y)] (rt (wv oy)), PureX Try.prog 65 #[wv ox, wv oy] (rt (tp [wv m, bb (b1)])), PureX Try.prog 72 #[.int .i64 (z)] (rt (wv oz)), PureX Try.prog 53 #[wv m, wv oz] (rt (DV q r c (s))), PureX Try.prog 61 #[DV q r c (s)] (rt (wv n)), PureX Try.prog 73 #[wv n] (rt (tp [.int .i64 (k), bb (true)]))]) := by kernel_rfl
theorem ints_over (x y z : Int) (ox oy oz m n q r c : Nat) (b1 s : Bool) (k : Int) : runA Try.prog 24 #[.int .i64 (x), .int .i64 (y), .int .i64 (z)] [] [(72, rt (wv ox)), (72, rt (wv oy)), (65, rt (tp [wv m, bb (b1)])), (72, rt (wv oz)), (53, rt (DV q r c (s))), (61, rt (wv n)), (73, rt (tp [.int .i64 (k), bb (false)]))] =
    some (rt (tp [.int .i64 (0), .int .i64 (20)]), [PureX Try.prog 72 #[.int .i64 (x)] (rt (wv ox)), PureX Try.prog 72 #[.int .i64 (y)] (rt (wv oy)), PureX Try.prog 65 #[wv ox, wv oy] (rt (tp [wv m, bb (b1)])), PureX Try.prog 72 #[.int .i64 (z)] (rt (wv oz)), PureX Try.prog 53 #[wv m, wv oz] (rt (DV q r c (s))), PureX Try.prog 61 #[DV q r c (s)] (rt (wv n)), PureX Try.prog 73 #[wv n] (rt (tp [.int .i64 (k), bb (false)]))]) := by kernel_rfl
theorem ints_pan (x y z : Int) (ox oy oz m : Nat) (b1 : Bool) (v : Int) : runA Try.prog 24 #[.int .i64 (x), .int .i64 (y), .int .i64 (z)] [] [(72, rt (wv ox)), (72, rt (wv oy)), (65, rt (tp [wv m, bb (b1)])), (72, rt (wv oz)), (53, errs v)] =
    some (rt (tp [.int .i64 (0), .int .i64 (v)]), [PureX Try.prog 72 #[.int .i64 (x)] (rt (wv ox)), PureX Try.prog 72 #[.int .i64 (y)] (rt (wv oy)), PureX Try.prog 65 #[wv ox, wv oy] (rt (tp [wv m, bb (b1)])), PureX Try.prog 72 #[.int .i64 (z)] (rt (wv oz)), PureX Try.prog 53 #[wv m, wv oz] (errs v)]) := by kernel_rfl
theorem wakes_raw : runA Try.prog 26 #[] [] [(16, rt (tp [wv 115792089237316195423570985008687907853269984665640564039457584007913129639932, .int .i64 (0)])), (12, rt (tp [wv 115792089237316195423570985008687907853269984665640564039457584007913129639932, .int .i64 (0)])), (14, rt (tp [wv 115792089237316195423570985008687907853269984665640564039457584007913129639933, .int .i64 (0)])), (18, rt (tp [wv 115792089237316195423570985008687907853269984665640564039457584007913129639935, .int .i64 (0)])), (12, rt (tp [wv 0, .int .i64 (30)])), (20, rt (tp [wv 3802951800684688204490109616128, .int .i64 (0)])), (22, rt (tp [wv 6, .int .i64 (0)])), (24, rt (tp [.int .i64 (-357913941), .int .i64 (0)]))] =
    some (rt (bb (true)), [PureX Try.prog 16 #[wv 115792089237316195423570985008687907853269984665640564039457584007913129639929, wv 2] (rt (tp [wv 115792089237316195423570985008687907853269984665640564039457584007913129639932, .int .i64 (0)])), PureX Try.prog 12 #[wv 115792089237316195423570985008687907853269984665640564039457584007913129639929, wv 2] (rt (tp [wv 115792089237316195423570985008687907853269984665640564039457584007913129639932, .int .i64 (0)])), PureX Try.prog 14 #[wv 115792089237316195423570985008687907853269984665640564039457584007913129639929, wv 2] (rt (tp [wv 115792089237316195423570985008687907853269984665640564039457584007913129639933, .int .i64 (0)])), PureX Try.prog 18 #[wv 7, wv 115792089237316195423570985008687907853269984665640564039457584007913129639934] (rt (tp [wv 115792089237316195423570985008687907853269984665640564039457584007913129639935, .int .i64 (0)])), PureX Try.prog 12 #[wv 1, wv 0] (rt (tp [wv 0, .int .i64 (30)])), PureX Try.prog 20 #[wv 3, .int .i64 (100)] (rt (tp [wv 3802951800684688204490109616128, .int .i64 (0)])), PureX Try.prog 22 #[wv 3802951800684688204490109616128, .int .i64 (99)] (rt (tp [wv 6, .int .i64 (0)])), PureX Try.prog 24 #[.int .i64 (1099511627776), .int .i64 (1099511627776), .int .i64 (-3377699720527872)] (rt (tp [.int .i64 (-357913941), .int .i64 (0)]))]) := by kernel_rfl
theorem lof_raw (x : Int) (y : Nat) : runA Try.prog 31 #[.int .i64 (x)] [] [(50, rt (wv y))] =
    some (rt (wv y), [PureX Try.prog 50 #[.int .i64 (x)] (rt (wv y))]) := by kernel_rfl
theorem pow100 : runA Try.prog 68 #[.int .i64 (100)] [] [] =
    some (rt (wv 1267650600228229401496703205376), []) := by kernel_rfl
theorem pow99 : runA Try.prog 68 #[.int .i64 (99)] [] [] =
    some (rt (wv 633825300114114700748351602688), []) := by kernel_rfl

/-- A whole quotient is in range. -/
theorem who_in {x y : Int} (hx : inR x) (hx1 : x ≠ least) (h0 : y ≠ 0) (far : Bool) (hf : far = true → x.natAbs % y.natAbs ≠ 0) : inR (wholeI x y (x.natAbs / y.natAbs) far) := by
  have hl : x.natAbs < 57896044618658097711785492504343953926634992332820282019728792003956564819968 := by
    have : x ≠ -57896044618658097711785492504343953926634992332820282019728792003956564819968 := hx1
    unfold inR at hx
    omega
  have hq := Nat.div_le_self x.natAbs y.natAbs
  have hb : x.natAbs / y.natAbs + (if far = true then 1 else 0) < 57896044618658097711785492504343953926634992332820282019728792003956564819968 := by
    cases far with
    | false => simp only [Bool.false_eq_true, if_false, Nat.add_zero]; exact Nat.lt_of_le_of_lt hq hl
    | true =>
      have h1 := hf rfl
      have h2 : 2 ≤ y.natAbs := by
        rcases (show y.natAbs = 1 ∨ 2 ≤ y.natAbs by omega) with h | h
        · rw [h, Nat.mod_one] at h1; exact absurd rfl h1
        · exact h
      have h3 : x.natAbs / y.natAbs * 2 ≤ x.natAbs := Nat.le_trans (Nat.mul_le_mul_left _ h2) (Nat.div_mul_le_self _ _)
      simp only [if_true]
      generalize x.natAbs / y.natAbs = q at *
      omega
  unfold wholeI inR
  generalize x.natAbs / y.natAbs = q at *
  have e : (((if far = true then 1 else 0 : Nat)) : Int) = (if far = true then 1 else 0 : Int) := by split <;> rfl
  rw [← e]
  generalize (if far = true then 1 else 0 : Nat) = f at *
  split <;> omega
theorem flI_in {x y : Int} (hx : inR x) (hx1 : x ≠ least) (h0 : y ≠ 0) : inR (flI x y) := who_in hx hx1 h0 _ (by simp)
theorem ceI_in {x y : Int} (hx : inR x) (hx1 : x ≠ least) (h0 : y ≠ 0) : inR (ceI x y) := who_in hx hx1 h0 _ (by simp)
theorem neI_in {x y : Int} (hx : inR x) (hx1 : x ≠ least) (h0 : y ≠ 0) : inR (neI x y) := who_in hx hx1 h0 _ (by
  intro h
  have h2 := of_decide_eq_true h
  omega)
theorem eu_div (x y : Int) : x.natAbs = y.natAbs * (x.natAbs / y.natAbs) + x.natAbs % y.natAbs := (Nat.div_add_mod _ _).symm
theorem flI_side {x y : Int} (h0 : y ≠ 0) : OnSide (x - y * flI x y) y := floor_int h0 (eu_div x y) (Nat.mod_lt _ (by omega))
theorem ceI_side {x y : Int} (h0 : y ≠ 0) : OnSide (y * ceI x y - x) y := ceil_int h0 (eu_div x y) (Nat.mod_lt _ (by omega))
theorem neI_near {x y : Int} (h0 : y ≠ 0) : Nearest x y (neI x y) := near_int h0 (eu_div x y) (Nat.mod_lt _ (by omega))

theorem sub_any (x p : Int) : ∃ o, PureX Try.prog 66 #[wz x, wz p] (rt (tp [wz (x - p), bb o])) := by
  have h := sub_x (nz x) (nz p)
  rw [(dif_wv x p).1] at h
  exact ⟨_, h⟩
theorem rst_z {x y : Int} (hx : inR x) (hy : inR y) (h0 : y ≠ 0) (hx1 : x ≠ least) (hy1 : y ≠ least) : PureX Try.prog 18 #[wz x, wz y] (rt (tp [wz (x - y * flI x y), .int .i64 0])) := by
  have h1 := divide_z div_ok hx hy h0 hx1 hy1
  have h2 := floor_x (x.natAbs / y.natAbs) (x.natAbs % y.natAbs) y.natAbs (decide (belowI x y))
  rw [rest_mod hy h0, whl_int] at h2
  have h3 := mul_z hy (flI_in hx hx1 h0)
  obtain ⟨o, h4⟩ := sub_any x (y * flI x y)
  exact runA_pure mix (qrest_ok (nz x) (nz y) (nz (flI x y)) (nz (y * flI x y)) (nz (x - y * flI x y)) _ _ _ _ _ o) ⟨h1, h2, h3, h4, trivial⟩ rfl rfl
theorem left_z {x P k : Int} (hx : inR x) (hP : inR P) (hk : PureX Try.prog 68 #[.int .i64 k] (rt (wz P))) (hm : inR (x * P)) : PureX Try.prog 20 #[wz x, .int .i64 k] (rt (tp [wz (x * P), .int .i64 0])) := by
  have h := mul_z hx hP
  rw [decide_eq_false (not_not_intro hm)] at h
  exact runA_pure mix (left_ok (nz x) (nz P) (nz (x * P)) k) ⟨hk, h, trivial⟩ rfl rfl
theorem right_z {x P k : Int} (hx : inR x) (hP : inR P) (hk : PureX Try.prog 68 #[.int .i64 k] (rt (wz P))) (h0 : P ≠ 0) (hx1 : x ≠ least) (hP1 : P ≠ least) : PureX Try.prog 22 #[wz x, .int .i64 k] (rt (tp [wz (flI x P), .int .i64 0])) := by
  have h1 := divide_z div_ok hx hP h0 hx1 hP1
  have h2 := floor_x (x.natAbs / P.natAbs) (x.natAbs % P.natAbs) P.natAbs (decide (belowI x P))
  rw [rest_mod hP h0, whl_int] at h2
  exact runA_pure mix (right_ok (nz x) (nz P) (nz (flI x P)) _ _ _ _ k) ⟨hk, h1, h2, trivial⟩ rfl rfl

theorem ii_in {x y : Int} (hx : isI x) (hy : isI y) : inR (x * y) ∧ x * y ≠ least := by
  unfold isI at hx hy
  have h1 : (x * y).natAbs ≤ 9223372036854775808 * 9223372036854775808 := by
    rw [Int.natAbs_mul]
    exact Nat.mul_le_mul (by omega) (by omega)
  have hne : x * y ≠ -57896044618658097711785492504343953926634992332820282019728792003956564819968 := by omega
  exact ⟨by unfold inR; omega, hne⟩
theorem isI_ne {x : Int} (h : isI x) : x ≠ least := by
  unfold isI at h
  have : x ≠ -57896044618658097711785492504343953926634992332820282019728792003956564819968 := by omega
  exact this
/-- Ints. -/
theorem ints_z {x y z : Int} (hx : isI x) (hy : isI y) (hz : isI z) (h0 : z ≠ 0) :
    PureX Try.prog 24 #[.int .i64 x, .int .i64 y, .int .i64 z] (rt (tp [.int .i64 (if isI (neI (x * y) z) then neI (x * y) z else 0), .int .i64 (if isI (neI (x * y) z) then 0 else 20)])) := by
  obtain ⟨hm, hm1⟩ := ii_in hx hy
  have a1 := of_z hx; have a2 := of_z hy; have a3 := of_z hz
  have a4 := mul_z (isI_in hx) (isI_in hy)
  have hzl := isI_ne hz
  have h1 := divide_z div_ok hm (isI_in hz) h0 hm1 hzl
  have hl : z.natAbs < 57896044618658097711785492504343953926634992332820282019728792003956564819968 := by
    unfold isI at hz
    omega
  have h2 := near_x (T := (x * y).natAbs / z.natAbs) (decide (belowI (x * y) z)) hl (Nat.mod_lt (x * y).natAbs (show 0 < z.natAbs by omega))
  rw [whl_int] at h2
  have h3 := int_z (neI_in hm hm1 h0)
  by_cases hi : isI (neI (x * y) z)
  · rw [if_pos hi, decide_eq_true hi] at h3
    rw [if_pos hi, if_pos hi]
    exact runA_pure mix (ints_ok x y z (nz x) (nz y) (nz z) (nz (x * y)) (nz (neI (x * y) z)) _ _ _ _ _ _) ⟨a1, a2, a4, a3, h1, h2, h3, trivial⟩ rfl rfl
  · rw [if_neg hi, decide_eq_false hi] at h3
    rw [if_neg hi, if_neg hi]
    exact runA_pure mix (ints_over x y z (nz x) (nz y) (nz z) (nz (x * y)) (nz (neI (x * y) z)) _ _ _ _ _ _) ⟨a1, a2, a4, a3, h1, h2, h3, trivial⟩ rfl rfl
theorem ints_zero {x y : Int} (hx : isI x) (hy : isI y) : PureX Try.prog 24 #[.int .i64 x, .int .i64 y, .int .i64 0] (rt (tp [.int .i64 0, .int .i64 30])) :=
  runA_pure mix (ints_pan x y 0 (nz x) (nz y) (nz 0) (nz (x * y)) _ 30) ⟨of_z hx, of_z hy, mul_z (isI_in hx) (isI_in hy), of_z (by decide), divide_zero (ii_in hx hy).1, trivial⟩ rfl rfl
theorem lof_z {x : Int} (h : isI x) : PureX Try.prog 31 #[.int .i64 x] (rt (wz x)) := runA_pure mix (lof_raw x (nz x)) ⟨rof_z h.1 h.2, trivial⟩ rfl rfl

theorem wakes_c : PureX Try.prog 26 #[] (rt (bb true)) := by
  have i7 : inR (-7) := by decide
  have i2 : inR 2 := by decide
  have h1 := nea_z div_ok i7 i2 (by decide) (by decide) (by decide)
  have h2 := flo_z div_ok i7 i2 (by decide) (by decide) (by decide)
  have h3 := cei_z div_ok i7 i2 (by decide) (by decide) (by decide)
  have h4 := rst_z (x := 7) (y := -2) (by decide) (by decide) (by decide) (by decide) (by decide)
  have h5 := flo_zero (x := 1) (by decide)
  have p100 : PureX Try.prog 68 #[.int .i64 100] (rt (wz 1267650600228229401496703205376)) := runA_pure mix pow100 trivial rfl rfl
  have p99 : PureX Try.prog 68 #[.int .i64 99] (rt (wz 633825300114114700748351602688)) := runA_pure mix pow99 trivial rfl rfl
  have h6 := left_z (x := 3) (P := 1267650600228229401496703205376) (k := 100) (by decide) (by decide) p100 (by decide)
  have h7 := right_z (x := 3802951800684688204490109616128) (P := 633825300114114700748351602688) (k := 99) (by decide) (by decide) p99 (by decide) (by decide) (by decide)
  have h8 := ints_z (x := 1099511627776) (y := 1099511627776) (z := -3377699720527872) (by decide) (by decide) (by decide) (by decide)
  exact runA_pure mix wakes_raw ⟨h1, h2, h3, h4, h5, h6, h7, h8, trivial⟩ rfl rfl

end Go.Proofs.Ytpbhoamojocbpaa
