/- QuotInts, walked. -/
import Derived.Test.YtpbhoamojocbpaaL5
namespace Go.Proofs.Ytpbhoamojocbpaa
open Go Go.RowKit
set_option linter.unusedSimpArgs false
set_option linter.unusedVariables false

theorem rint_raw (x y : Nat) : runA Try.prog 36 #[wv x] [f] [(50, rt (wv y))] =
    some (rt (tp [.int .i64 (IntKind.i64.wrap (Int.ofNat (x % 18446744073709551616))), bb (true)]), [PureX Try.prog 50 #[.int .i64 (IntKind.i64.wrap (Int.ofNat (x % 18446744073709551616)))] (rt (wv y)), (!(eqv y x)) = false]) := by kernel_rfl
theorem rint_raw2 (x y : Nat) : runA Try.prog 36 #[wv x] [t] [(50, rt (wv y))] =
    some (rt (tp [.int .i64 (0), bb (false)]), [PureX Try.prog 50 #[.int .i64 (IntKind.i64.wrap (Int.ofNat (x % 18446744073709551616)))] (rt (wv y)), (!(eqv y x)) = true]) := by kernel_rfl
theorem l7_zero (x y z : Int) (a b c p : Nat) (o : Bool) : runA Try.prog 7 #[.int .i64 (x), .int .i64 (y), .int .i64 (z)] [t, n, n, n, n, n] [(24, rt (tp [.int .i64 (0), .int .i64 (30)])), (31, rt (wv a)), (31, rt (wv b)), (28, rt (tp [wv p, bb (o)])), (31, rt (wv c)), (16, rt (tp [wv 0, .int .i64 (30)])), (26, rt (bb (true)))] =
    some (rt (bb (true)), [PureX Try.prog 24 #[.int .i64 (x), .int .i64 (y), .int .i64 (z)] (rt (tp [.int .i64 (0), .int .i64 (30)])), PureX Try.prog 31 #[.int .i64 (x)] (rt (wv a)), PureX Try.prog 31 #[.int .i64 (y)] (rt (wv b)), PureX Try.prog 28 #[wv a, wv b] (rt (tp [wv p, bb (o)])), PureX Try.prog 31 #[.int .i64 (z)] (rt (wv c)), PureX Try.prog 16 #[wv p, wv c] (rt (tp [wv 0, .int .i64 (30)])), (z == 0) = true, PureX Try.prog 26 #[] (rt (bb (true)))]) := by kernel_rfl
theorem l7_over (x y z k : Int) (a b c p q : Nat) (o : Bool) : runA Try.prog 7 #[.int .i64 (x), .int .i64 (y), .int .i64 (z)] [f, n, n, n, n, n, n, n, n, n, n, n, n, n, n, n, n, n, n, n, n, n, n] [(24, rt (tp [.int .i64 (0), .int .i64 (20)])), (31, rt (wv a)), (31, rt (wv b)), (28, rt (tp [wv p, bb (o)])), (31, rt (wv c)), (16, rt (tp [wv q, .int .i64 (0)])), (36, rt (tp [.int .i64 (0), bb (false)])), (26, rt (bb (true)))] =
    some (rt (bb (true)), [PureX Try.prog 24 #[.int .i64 (x), .int .i64 (y), .int .i64 (z)] (rt (tp [.int .i64 (0), .int .i64 (20)])), PureX Try.prog 31 #[.int .i64 (x)] (rt (wv a)), PureX Try.prog 31 #[.int .i64 (y)] (rt (wv b)), PureX Try.prog 28 #[wv a, wv b] (rt (tp [wv p, bb (o)])), PureX Try.prog 31 #[.int .i64 (z)] (rt (wv c)), PureX Try.prog 16 #[wv p, wv c] (rt (tp [wv q, .int .i64 (0)])), (z == 0) = false, PureX Try.prog 36 #[wv q] (rt (tp [.int .i64 (0), bb (false)])), PureX Try.prog 26 #[] (rt (bb (true)))]) := by kernel_rfl
theorem l7_ok (x y z k : Int) (a b c d p q : Nat) (o : Bool) : runA Try.prog 7 #[.int .i64 (x), .int .i64 (y), .int .i64 (z)] [f, n, n, n, n, n, n, n, n, n, n, n, t, n, n, n, n, n, n, n, n, n, n] [(24, rt (tp [.int .i64 (k), .int .i64 (0)])), (31, rt (wv a)), (31, rt (wv b)), (28, rt (tp [wv p, bb (o)])), (31, rt (wv c)), (16, rt (tp [wv q, .int .i64 (0)])), (36, rt (tp [.int .i64 (k), bb (true)])), (31, rt (wv c)), (31, rt (wv d)), (35, rt (bb (true))), (26, rt (bb (true)))] =
    some (rt (bb (true)), [PureX Try.prog 24 #[.int .i64 (x), .int .i64 (y), .int .i64 (z)] (rt (tp [.int .i64 (k), .int .i64 (0)])), PureX Try.prog 31 #[.int .i64 (x)] (rt (wv a)), PureX Try.prog 31 #[.int .i64 (y)] (rt (wv b)), PureX Try.prog 28 #[wv a, wv b] (rt (tp [wv p, bb (o)])), PureX Try.prog 31 #[.int .i64 (z)] (rt (wv c)), PureX Try.prog 16 #[wv p, wv c] (rt (tp [wv q, .int .i64 (0)])), (z == 0) = false, PureX Try.prog 36 #[wv q] (rt (tp [.int .i64 (k), bb (true)])), (k == k) = true, PureX Try.prog 31 #[.int .i64 (z)] (rt (wv c)), PureX Try.prog 31 #[.int .i64 (k)] (rt (wv d)), PureX Try.prog 35 #[wv p, wv c, wv d] (rt (bb (true))), PureX Try.prog 26 #[] (rt (bb (true)))]) := by kernel_rfl

theorem wrap_nz {x : Int} (hx : inR x) : isI (IntKind.i64.wrap (Int.ofNat (nz x % 18446744073709551616))) ∧ (isI x → IntKind.i64.wrap (Int.ofNat (nz x % 18446744073709551616)) = x) := by
  obtain ⟨y, hy⟩ : ∃ y, IntKind.i64.wrap (Int.ofNat (nz x % 18446744073709551616)) = y := ⟨_, rfl⟩
  rw [hy]
  have hc := nz_cast x
  unfold Mw at hc
  rw [IntKind.wrap_i64, show Int.ofNat (nz x % 18446744073709551616) = (nz x : Int) % 18446744073709551616 by simp, hc] at hy
  unfold isI
  unfold inR at hx
  subst hy
  rw [Int.emod_emod_of_dvd _ (by decide)]
  omega
/-- The document's Int. -/
theorem rint_z {x : Int} (hx : inR x) : PureX Try.prog 36 #[wz x] (rt (tp [.int .i64 (if isI x then x else 0), bb (decide (isI x))])) := by
  obtain ⟨h1, h2⟩ := wrap_nz hx
  obtain ⟨y, hy⟩ : ∃ y, IntKind.i64.wrap (Int.ofNat (nz x % 18446744073709551616)) = y := ⟨_, rfl⟩
  rw [hy] at h1 h2
  have ho := rof_z h1.1 h1.2
  have he := eqv_z (isI_in h1) hx
  by_cases h : isI x
  · rw [if_pos h, decide_eq_true h]
    have r := runA_pure mix (rint_raw (nz x) (nz y)) ⟨by rw [hy]; exact ho, by rw [he, decide_eq_true (h2 h)]; rfl, trivial⟩ rfl rfl
    rw [hy, h2 h] at r
    exact r
  · rw [if_neg h, decide_eq_false h]
    exact runA_pure mix (rint_raw2 (nz x) (nz y)) ⟨by rw [hy]; exact ho, by rw [he, decide_eq_false (show ¬ y = x from fun e => h (by rw [← e]; exact h1))]; rfl, trivial⟩ rfl rfl
theorem ints_walk {x y z : Int} (hx : isI x) (hy : isI y) (hz : isI z) : PureX Try.prog 7 #[.int .i64 x, .int .i64 y, .int .i64 z] (rt (bb true)) := by
  have a1 := lof_z hx; have a2 := lof_z hy; have a3 := lof_z hz
  have a4 := rmul_z (isI_in hx) (isI_in hy)
  obtain ⟨hm, hm1⟩ := ii_in hx hy
  by_cases h0 : z = 0
  · subst h0
    exact runA_pure mix (l7_zero x y 0 (nz x) (nz y) (nz 0) (nz (x * y)) _) ⟨ints_zero hx hy, a1, a2, a4, a3, nea_zero hm, rfl, wakes_c, trivial⟩ rfl rfl
  have ez : (z == 0) = false := by rw [beq_eq_false_iff_ne]; exact h0
  have h1 := ints_z hx hy hz h0
  have h2 := nea_z div_ok hm (isI_in hz) h0 hm1 (isI_ne hz)
  have iN := neI_in hm hm1 h0
  have h3 := rint_z iN
  by_cases hi : isI (neI (x * y) z)
  · rw [if_pos hi, if_pos hi] at h1
    rw [if_pos hi, decide_eq_true hi] at h3
    have h4 := lnear_z hm (isI_in hz) iN h0 (isI_ne hz) (neI_near h0)
    exact runA_pure mix (l7_ok x y z (neI (x * y) z) (nz x) (nz y) (nz z) (nz (neI (x * y) z)) (nz (x * y)) (nz (neI (x * y) z)) _) ⟨h1, a1, a2, a4, a3, h2, ez, h3, by simp, a3, lof_z hi, h4, wakes_c, trivial⟩ rfl rfl
  · rw [if_neg hi, if_neg hi] at h1
    rw [if_neg hi, decide_eq_false hi] at h3
    exact runA_pure mix (l7_over x y z 0 (nz x) (nz y) (nz z) (nz (x * y)) (nz (neI (x * y) z)) _) ⟨h1, a1, a2, a4, a3, h2, ez, h3, wakes_c, trivial⟩ rfl rfl

end Go.Proofs.Ytpbhoamojocbpaa
