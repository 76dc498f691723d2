/- Near; numbers of ints. -/
import Derived.Test.YtpbhoamojocbpaaF14
namespace Go.Proofs.Ytpbhoamojocbpaa
open Go Go.RowKit
set_option linter.unusedSimpArgs false
set_option linter.unusedVariables false

theorem near_raw (q r c z d : Nat) (s o : Bool) (k : Int) : runA Try.prog 61 #[DV q r c s] [] [(66, rt (tp [wv d, bb (o)])), (106, rt (.int .i64 (k))), (102, rt (wv z))] =
    some (rt (wv z), [PureX Try.prog 66 #[wv c, wv r] (rt (tp [wv d, bb (o)])), PureX Try.prog 106 #[wv r, wv d] (rt (.int .i64 (k))), PureX Try.prog 102 #[DV q r c s, bb (decide (0 ≤ k))] (rt (wv z))]) := by kernel_rfl
theorem near_x {T R C : Nat} (s : Bool) (hC : C < 57896044618658097711785492504343953926634992332820282019728792003956564819968) (hR : R < C) : PureX Try.prog 61 #[DV T R C s] (rt (wz (whl T s (decide (C - R ≤ R))))) := by
  have i1 : inR (C : Int) := by unfold inR; omega
  have i2 : inR (R : Int) := by unfold inR; omega
  have i3 : inR ((C : Int) - (R : Int)) := by unfold inR; omega
  have h1 := sub_z i1 i2
  have h2 := cmp_z i2 i3
  have h3 := whole_x T R C s (decide (C - R ≤ R))
  have e : decide (C - R ≤ R) = decide (0 ≤ ((R : Int) - ((C : Int) - (R : Int))).sign) := by
    rw [decide_eq_decide]
    rcases Int.lt_trichotomy ((R : Int) - ((C : Int) - (R : Int))) 0 with h | h | h
    · rw [Int.sign_eq_neg_one_of_neg h]; omega
    · rw [h, Int.sign_zero]; omega
    · rw [Int.sign_eq_one_of_pos h]; omega
  rw [← wz_nat, ← wz_nat] at h1
  rw [← wz_nat] at h2
  generalize whl T s (decide (C - R ≤ R)) = z at *
  rw [e] at h3
  generalize ((R : Int) - ((C : Int) - (R : Int))).sign = k at *
  exact runA_pure mix (near_raw T R C (nz z) (nz ((C : Int) - (R : Int))) s _ k) ⟨h1, h2, h3, trivial⟩ rfl rfl
/-- The nearest. -/
def neI (x y : Int) : Int := wholeI x y (x.natAbs / y.natAbs) (decide (y.natAbs - x.natAbs % y.natAbs ≤ x.natAbs % y.natAbs))
theorem nea_z (hd : DivOK) {x y : Int} (hx : inR x) (hy : inR y) (h0 : y ≠ 0) (hx1 : x ≠ least) (hy1 : y ≠ least) : PureX Try.prog 16 #[wz x, wz y] (rt (tp [wz (neI x y), .int .i64 0])) := by
  have h1 := divide_z hd hx hy h0 hx1 hy1
  have hl : y.natAbs < 57896044618658097711785492504343953926634992332820282019728792003956564819968 := by
    have : y ≠ -57896044618658097711785492504343953926634992332820282019728792003956564819968 := hy1
    unfold inR at hy
    omega
  have h2 := near_x (T := x.natAbs / y.natAbs) (decide (belowI x y)) hl (Nat.mod_lt x.natAbs (show 0 < y.natAbs by omega))
  rw [whl_int] at h2
  exact runA_pure mix (qnear_ok (nz x) (nz y) (nz (neI x y)) _ _ _ _) ⟨h1, h2, trivial⟩ rfl rfl

theorem ofs_raw (x : Int) : runA Try.prog 72 #[.int .i64 (x)] [] [] =
    some (rt (.agg ⟨[.int .u64 (IntKind.u64.wrap x), .int .u64 (IntKind.u64.wrap (x.fdiv (2 ^ 63))), .int .u64 (IntKind.u64.wrap (x.fdiv (2 ^ 63))), .int .u64 (IntKind.u64.wrap (x.fdiv (2 ^ 63)))]⟩), []) := by kernel_rfl
theorem int_raw (x y : Nat) : runA Try.prog 73 #[wv x] [f] [(72, rt (wv y))] =
    some (rt (tp [.int .i64 (IntKind.i64.wrap (Int.ofNat (x % 18446744073709551616))), bb (true)]), [PureX Try.prog 72 #[.int .i64 (IntKind.i64.wrap (Int.ofNat (x % 18446744073709551616)))] (rt (wv y)), (!(eqv y x)) = false]) := by kernel_rfl
theorem int_raw2 (x y : Nat) : runA Try.prog 73 #[wv x] [t] [(72, rt (wv y))] =
    some (rt (tp [.int .i64 (0), bb (false)]), [PureX Try.prog 72 #[.int .i64 (IntKind.i64.wrap (Int.ofNat (x % 18446744073709551616)))] (rt (wv y)), (!(eqv y x)) = true]) := by kernel_rfl
def isI (x : Int) : Prop := -9223372036854775808 ≤ x ∧ x < 9223372036854775808
instance (x : Int) : Decidable (isI x) := by unfold isI; infer_instance
theorem isI_in {x : Int} (h : isI x) : inR x := by unfold isI at h; unfold inR; omega
theorem of_z {x : Int} (h : isI x) : PureX Try.prog 72 #[.int .i64 x] (rt (wz x)) := by
  have r := runA_pure mix (ofs_raw x) trivial rfl rfl
  unfold isI at h
  obtain ⟨A, hA⟩ : ∃ A : Nat, (A : Int) = x % 18446744073709551616 := ⟨(x % 18446744073709551616).toNat, Int.toNat_of_nonneg (Int.emod_nonneg _ (by decide))⟩
  obtain ⟨S, hS, hS1, hS2⟩ : ∃ S : Nat, IntKind.u64.wrap (x.fdiv (2 ^ 63)) = Int.ofNat S ∧ (0 ≤ x → S = 0) ∧ (x < 0 → S = 18446744073709551615) := by
    rw [show ((2 : Int) ^ 63) = 9223372036854775808 from rfl, IntKind.wrap_u64, Int.fdiv_eq_ediv_of_nonneg _ (by decide)]
    rcases (show x < 0 ∨ 0 ≤ x by omega) with h0 | h0
    · exact ⟨18446744073709551615, by rw [show x / 9223372036854775808 = -1 by omega]; rfl, fun h => by omega, fun _ => rfl⟩
    · exact ⟨0, by rw [show x / 9223372036854775808 = 0 by omega]; rfl, fun _ => rfl, fun h => by omega⟩
  rw [hS, IntKind.wrap_u64, ← hA] at r
  have hAl : A < 18446744073709551616 := by omega
  have hSl : S < 18446744073709551616 := by omega
  have e : nvl [A, S, S, S] = nz x := by
    have hc := nz_cast x
    unfold Mw at hc
    simp only [nvl, Nat.mul_zero, Nat.add_zero]
    rcases (show x < 0 ∨ 0 ≤ x by omega) with h0 | h0
    · have := hS2 h0
      omega
    · have := hS1 h0
      omega
  show PureX Try.prog 72 #[.int .i64 x] (rt (wv (nz x)))
  rw [← e, wv_nvl hAl hSl hSl hSl]
  exact r
/-- Int. -/
theorem int_z {x : Int} (hx : inR x) : PureX Try.prog 73 #[wz x] (rt (tp [.int .i64 (if isI x then x else 0), bb (decide (isI x))])) := by
  obtain ⟨y, hy⟩ : ∃ y, IntKind.i64.wrap (Int.ofNat (nz x % 18446744073709551616)) = y := ⟨_, rfl⟩
  have hyI : isI y ∧ (isI x → y = x) := by
    have hc := nz_cast x
    unfold Mw at hc
    rw [IntKind.wrap_i64, show Int.ofNat (nz x % 18446744073709551616) = (nz x : Int) % 18446744073709551616 by simp, hc] at hy
    unfold isI
    unfold inR at hx
    subst hy
    rw [Int.emod_emod_of_dvd _ (by decide)]
    omega
  have ho := of_z hyI.1
  have he := eqv_z (isI_in hyI.1) hx
  by_cases h : isI x
  · rw [if_pos h, decide_eq_true h]
    have r := runA_pure mix (int_raw (nz x) (nz y)) ⟨by rw [hy]; exact ho, by rw [he, decide_eq_true (hyI.2 h)]; rfl, trivial⟩ rfl rfl
    rw [hy, hyI.2 h] at r
    exact r
  · rw [if_neg h, decide_eq_false h]
    exact runA_pure mix (int_raw2 (nz x) (nz y)) ⟨by rw [hy]; exact ho, by rw [he, decide_eq_false (show ¬ y = x from fun e => h (by rw [← e]; exact hyI.1))]; rfl, trivial⟩ rfl rfl

end Go.Proofs.Ytpbhoamojocbpaa
