/- Texts of the seat, joined. -/
import Derived.Test.YtbmekaaekngpbaaGreatZz41
import Derived.Test.YtbmekaaekngpbaaGreatZz14
/- Package wave: ints by ints; middles, what widens, terms. -/
namespace Go.Proofs.YtbmekaaekngpbaaGreat
open Go Go.RowKit
set_option linter.unusedSimpArgs false
set_option linter.unusedVariables false
set_option maxRecDepth 100000

theorem near_raw (q r c z d : Nat) (s o : Bool) (k : Int) : runA Tryz.prog 94 #[DV q r c s] [] [(108, rt (tp [wv d, bb (o)])), (113, rt (.int .i64 (k))), (125, rt (wv z))] =
    some (rt (wv z), [PureX Tryz.prog 108 #[wv c, wv r] (rt (tp [wv d, bb (o)])), PureX Tryz.prog 113 #[wv r, wv d] (rt (.int .i64 (k))), PureX Tryz.prog 125 #[DV q r c s, bb (decide (0 ≤ k))] (rt (wv z))]) := by kernel_rfl
theorem near_x {T R C : Nat} (s : Bool) (hC : C < 57896044618658097711785492504343953926634992332820282019728792003956564819968) (hR : R < C) : PureX Tryz.prog 94 #[DV T R C s] (rt (wz (whl T s (decide (C - R ≤ R))))) := by
  have i1 : inR (C : Int) := by unfold inR; omega
  have i2 : inR (R : Int) := by unfold inR; omega
  have i3 : inR ((C : Int) - (R : Int)) := by unfold inR; omega
  have h1 := sub_z i1 i2
  have h2 := cmp_z i2 i3
  have h3 := whole_x T R C s (decide (C - R ≤ R))
  have e : decide (C - R ≤ R) = decide (0 ≤ ((R : Int) - ((C : Int) - (R : Int))).sign) := by
    rw [decide_eq_decide]
    rcases Int.lt_trichotomy ((R : Int) - ((C : Int) - (R : Int))) 0 with h | h | h
    · rw [Int.sign_eq_neg_one_of_neg h]; omega
    · rw [h, Int.sign_zero]; omega
    · rw [Int.sign_eq_one_of_pos h]; omega
  rw [← wz_nat, ← wz_nat] at h1
  rw [← wz_nat] at h2
  generalize whl T s (decide (C - R ≤ R)) = z at *
  rw [e] at h3
  generalize ((R : Int) - ((C : Int) - (R : Int))).sign = k at *
  exact runA_pure mix (near_raw T R C (nz z) (nz ((C : Int) - (R : Int))) s _ k) ⟨h1, h2, h3, trivial⟩ rfl rfl
theorem ints_ok (x y z : Int) (ox oy oz m n q r c : Nat) (b1 s : Bool) (k : Int) : runA Tryz.prog 64 #[.int .i64 (x), .int .i64 (y), .int .i64 (z)] [] [(80, rt (wv ox)), (80, rt (wv oy)), (91, rt (tp [wv m, bb (b1)])), (80, rt (wv oz)), (93, rt (DV q r c (s))), (94, rt (wv n)), (92, rt (tp [.int .i64 (k), bb (true)]))] =
    some (rt (tp [.int .i64 (k), .int .i64 (0)]), [PureX Tryz.prog 80 #[.int .i64 (x)] (rt (wv ox)), PureX Tryz.prog 80 #[.int .i64 (y)] (rt (wv oy)), PureX Tryz.prog 91 #[wv ox, wv oy] (rt (tp [wv m, bb (b1)])), PureX Tryz.prog 80 #[.int .i64 (z)] (rt (wv oz)), PureX Tryz.prog 93 #[wv m, wv oz] (rt (DV q r c (s))), PureX Tryz.prog 94 #[DV q r c (s)] (rt (wv n)), PureX Tryz.prog 92 #[wv n] (rt (tp [.int .i64 (k), bb (true)]))]) := by kernel_rfl
theorem ints_over (x y z : Int) (ox oy oz m n q r c : Nat) (b1 s : Bool) (k : Int) : runA Tryz.prog 64 #[.int .i64 (x), .int .i64 (y), .int .i64 (z)] [] [(80, rt (wv ox)), (80, rt (wv oy)), (91, rt (tp [wv m, bb (b1)])), (80, rt (wv oz)), (93, rt (DV q r c (s))), (94, rt (wv n)), (92, rt (tp [.int .i64 (k), bb (false)]))] =
    some (rt (tp [.int .i64 (0), .int .i64 (20)]), [PureX Tryz.prog 80 #[.int .i64 (x)] (rt (wv ox)), PureX Tryz.prog 80 #[.int .i64 (y)] (rt (wv oy)), PureX Tryz.prog 91 #[wv ox, wv oy] (rt (tp [wv m, bb (b1)])), PureX Tryz.prog 80 #[.int .i64 (z)] (rt (wv oz)), PureX Tryz.prog 93 #[wv m, wv oz] (rt (DV q r c (s))), PureX Tryz.prog 94 #[DV q r c (s)] (rt (wv n)), PureX Tryz.prog 92 #[wv n] (rt (tp [.int .i64 (k), bb (false)]))]) := by kernel_rfl
theorem ints_z {x y z : Int} (hx : isI x) (hy : isI y) (hz : isI z) (h0 : z ≠ 0) :
    PureX Tryz.prog 64 #[.int .i64 x, .int .i64 y, .int .i64 z] (rt (tp [.int .i64 (if isI (neI (x * y) z) then neI (x * y) z else 0), .int .i64 (if isI (neI (x * y) z) then 0 else 20)])) := by
  obtain ⟨hm, hm1⟩ := ii_in hx hy
  have a1 := of_z hx; have a2 := of_z hy; have a3 := of_z hz
  have a4 := mul_z (isI_in hx) (isI_in hy)
  have hzl := isI_ne hz
  have h1 := divide_z div_ok hm (isI_in hz) h0 hm1 hzl
  have hl : z.natAbs < 57896044618658097711785492504343953926634992332820282019728792003956564819968 := by
    unfold isI at hz
    omega
  have h2 := near_x (T := (x * y).natAbs / z.natAbs) (decide (belowI (x * y) z)) hl (Nat.mod_lt (x * y).natAbs (show 0 < z.natAbs by omega))
  rw [whl_int] at h2
  have h3 := int_z (neI_in hm hm1 h0)
  by_cases hi : isI (neI (x * y) z)
  · rw [if_pos hi, decide_eq_true hi] at h3
    rw [if_pos hi, if_pos hi]
    exact runA_pure mix (ints_ok x y z (nz x) (nz y) (nz z) (nz (x * y)) (nz (neI (x * y) z)) _ _ _ _ _ _) ⟨a1, a2, a4, a3, h1, h2, h3, trivial⟩ rfl rfl
  · rw [if_neg hi, decide_eq_false hi] at h3
    rw [if_neg hi, if_neg hi]
    exact runA_pure mix (ints_over x y z (nz x) (nz y) (nz z) (nz (x * y)) (nz (neI (x * y) z)) _ _ _ _ _ _) ⟨a1, a2, a4, a3, h1, h2, h3, trivial⟩ rfl rfl
/-- Half of an int, the nearest, away from 0. -/
theorem nei_two (x : Int) : neI (x * 1) 2 = if 0 ≤ x then (x + 1) / 2 else -((1 - x) / 2) := by
  have h := neI_near (x := x * 1) (y := 2) (by decide)
  unfold Nearest at h
  rw [Int.mul_one] at *
  generalize neI x 2 = z at *
  split <;> omega
section
variable (x al : IV) (m r : Int)
theorem mid_t : runB Tryz.prog 40 #[ivv x] [] [] [(64, rt (tp [ii m, ii 0]))] [(55, rt (bb true), [(1001, oiv [x])])] =
    some (rt (tp [ii m, ii (mxI (IntKind.i64.wrap (x.2.1 - m)) (IntKind.i64.wrap (m - x.1))), bb true]), [], [CallsV Tryz.prog (.func 55) #[sl 1001 1] [(1001, oiv [x])] (rt (bb true)) [(1001, oiv [x])], PureX Tryz.prog 64 #[ii (IntKind.i64.wrap (x.1 + x.2.1)), ii 1, ii 2] (rt (tp [ii m, ii 0]))]) := by kernel_rfl
theorem mid_f : runB Tryz.prog 40 #[ivv x] [] [] [] [(55, rt (bb false), [(1001, oiv [x])])] =
    some (rt (tp [ii 0, ii 0, bb false]), [], [CallsV Tryz.prog (.func 55) #[sl 1001 1] [(1001, oiv [x])] (rt (bb false)) [(1001, oiv [x])]]) := by kernel_rfl
end
/-- A middle, as the program tells it. -/
def midT (x : IV) : Value := if okV x = true then tp [ii (midV x), ii (rchV x), bb true] else tp [ii 0, ii 0, bb false]
theorem mid_v (x : IV) : PureX Tryz.prog 40 #[ivv x] (rt (midT x)) := by
  have hf := fine1 1001 x.1 x.2.1 x.2.2
  unfold midT
  cases hk : okV x
  · rw [show okI x.1 x.2.1 x.2.2 = false from hk] at hf
    exact runB_pure mix (mid_f x) ⟨hf, trivial⟩ rfl rfl
  · rw [show okI x.1 x.2.1 x.2.2 = true from hk] at hf
    have o := okV_iff.1 hk
    obtain ⟨m1, m2, _⟩ := midV_in hk
    have z := ints_z (x := IntKind.i64.wrap (x.1 + x.2.1)) (y := 1) (z := 2) (by rw [wrapI (by omega)]; unfold isI; omega) (by decide) (by decide) (by decide)
    have e : neI (IntKind.i64.wrap (x.1 + x.2.1) * 1) 2 = midV x := by rw [wrapI (by omega)]; exact nei_two _
    rw [e, if_pos (show isI (midV x) by unfold isI; omega), if_pos (show isI (midV x) by unfold isI; omega)] at z
    have f := runB_pure mix (mid_t x (midV x)) ⟨hf, z, trivial⟩ rfl rfl
    rw [wrapI (z := x.2.1 - midV x) (by omega), wrapI (z := midV x - x.1) (by omega)] at f
    exact f
theorem pt_next (c : Bool) (n : Int) (j : Nat) {D : Int} (h : dV c j = D) (hi : isI D) : PureX Tryz.prog 60 #[ivv (mulV (tV c n j) (qV n)), ii (-1), ii D] (rt (ivv (tV c n (j + 1)))) := by
  have := part_v (mulV (tV c n j) (qV n)) (n := -1) (d := D) (by decide) hi
  rw [← h] at this ⊢
  exact this
theorem of1_v : PureX Tryz.prog 63 #[ii 1] (rt (ivv (1073741824, 1073741824, false))) := (iof_v 1).is (by kernel_rfl)
theorem t0_f (n : Int) : PureX Tryz.prog 35 #[ii n] (rt (ivv (tV false n 0))) := point_v n
theorem t0_t (n : Int) : PureX Tryz.prog 63 #[ii 1] (rt (ivv (tV true n 0))) := of1_v
/-- A term, as the program tells it. -/
def termV (c : Bool) (n k : Int) : IV := if holdsV allV (mkV n n) = true then (if 0 ≤ k ∧ k ≤ 13 then tV c n k.toNat else bdV) else bdV
end Go.Proofs.YtbmekaaekngpbaaGreat
