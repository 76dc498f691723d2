/- The document's own digits, sums and differences. -/
import Derived.Test.YtpbhoamojocbpaaF5
namespace Go.Proofs.Ytpbhoamojocbpaa
open Go Go.RowKit
set_option linter.unusedSimpArgs false
set_option linter.unusedVariables false

def D8 (a b c d e f g h : Nat) : Value := .agg #[u a, u b, u c, u d, u e, u f, u g, u h]
/-- Eight digits' number. -/
def e8 (a b c d e f g h : Nat) : Nat := a + 4294967296 * (b + 4294967296 * (c + 4294967296 * (d + 4294967296 * (e + 4294967296 * (f + 4294967296 * (g + 4294967296 * h))))))
def pd (x y c : Nat) : Nat := ((x + y) % 18446744073709551616 + c) % 18446744073709551616 % 4294967296
def pc (x y c : Nat) : Nat := ((x + y) % 18446744073709551616 + c) % 18446744073709551616 / 4294967296 % 18446744073709551616
theorem pd_spec {x y c : Nat} (hx : x < 4294967296) (hy : y < 4294967296) (hc : c ≤ 1) : pd x y c < 4294967296 ∧ pc x y c ≤ 1 ∧ pd x y c + 4294967296 * pc x y c = x + y + c := by
  unfold pd pc
  omega
theorem digits_raw (a0 a1 a2 a3 : Nat) : runA Try.prog 79 #[W4 a0 a1 a2 a3] [] [] =
    some (rt (.agg ⟨[u (a0 % 4294967296), .int .u64 (IntKind.u64.wrap (Int.ofNat (a0 / 4294967296))), u (a1 % 4294967296), .int .u64 (IntKind.u64.wrap (Int.ofNat (a1 / 4294967296))), u (a2 % 4294967296), .int .u64 (IntKind.u64.wrap (Int.ofNat (a2 / 4294967296))), u (a3 % 4294967296), .int .u64 (IntKind.u64.wrap (Int.ofNat (a3 / 4294967296)))]⟩), []) := by kernel_rfl
theorem not_raw (d0 d1 d2 d3 d4 d5 d6 d7 : Nat) : runA Try.prog 80 #[D8 d0 d1 d2 d3 d4 d5 d6 d7] [] [] =
    some (rt (.agg ⟨[.int .u64 (IntKind.u64.wrap (4294967295 - Int.ofNat d0)), .int .u64 (IntKind.u64.wrap (4294967295 - Int.ofNat d1)), .int .u64 (IntKind.u64.wrap (4294967295 - Int.ofNat d2)), .int .u64 (IntKind.u64.wrap (4294967295 - Int.ofNat d3)), .int .u64 (IntKind.u64.wrap (4294967295 - Int.ofNat d4)), .int .u64 (IntKind.u64.wrap (4294967295 - Int.ofNat d5)), .int .u64 (IntKind.u64.wrap (4294967295 - Int.ofNat d6)), .int .u64 (IntKind.u64.wrap (4294967295 - Int.ofNat d7))]⟩), []) := by kernel_rfl
theorem wide_raw (d0 d1 d2 d3 d4 d5 d6 d7 : Nat) : runA Try.prog 76 #[D8 d0 d1 d2 d3 d4 d5 d6 d7] [] [] =
    some (rt (.agg ⟨[.int .u64 (IntKind.u64.wrap (IntKind.u64.wrap (Int.ofNat d1 * 4294967296) + Int.ofNat d0)), .int .u64 (IntKind.u64.wrap (IntKind.u64.wrap (Int.ofNat d3 * 4294967296) + Int.ofNat d2)), .int .u64 (IntKind.u64.wrap (IntKind.u64.wrap (Int.ofNat d5 * 4294967296) + Int.ofNat d4)), .int .u64 (IntKind.u64.wrap (IntKind.u64.wrap (Int.ofNat d7 * 4294967296) + Int.ofNat d6))]⟩), []) := by kernel_rfl
theorem low_raw (a0 a1 a2 a3 : Nat) : runA Try.prog 77 #[W4 a0 a1 a2 a3] [] [] =
    some (rt (bb ((Int.ofNat a3).fdiv (2 ^ Int.toNat 63) == 1)), []) := by kernel_rfl
theorem plus_raw (d0 d1 d2 d3 d4 d5 d6 d7 e0 e1 e2 e3 e4 e5 e6 e7 c : Nat) : runA Try.prog 78 #[D8 d0 d1 d2 d3 d4 d5 d6 d7, D8 e0 e1 e2 e3 e4 e5 e6 e7, u c] [] [] =
    some (rt (D8 (pd d0 e0 c) (pd d1 e1 (pc d0 e0 c)) (pd d2 e2 (pc d1 e1 (pc d0 e0 c))) (pd d3 e3 (pc d2 e2 (pc d1 e1 (pc d0 e0 c)))) (pd d4 e4 (pc d3 e3 (pc d2 e2 (pc d1 e1 (pc d0 e0 c))))) (pd d5 e5 (pc d4 e4 (pc d3 e3 (pc d2 e2 (pc d1 e1 (pc d0 e0 c)))))) (pd d6 e6 (pc d5 e5 (pc d4 e4 (pc d3 e3 (pc d2 e2 (pc d1 e1 (pc d0 e0 c))))))) (pd d7 e7 (pc d6 e6 (pc d5 e5 (pc d4 e4 (pc d3 e3 (pc d2 e2 (pc d1 e1 (pc d0 e0 c))))))))), []) := by kernel_rfl
theorem radd_raw1 (x y z d0 d1 d2 d3 d4 d5 d6 d7 e0 e1 e2 e3 e4 e5 e6 e7 r0 r1 r2 r3 r4 r5 r6 r7 : Nat) (p q r s : Bool) : runA Try.prog 29 #[wv x, wv y] [t, n, n, n, n] [(79, rt (D8 d0 d1 d2 d3 d4 d5 d6 d7)), (79, rt (D8 e0 e1 e2 e3 e4 e5 e6 e7)), (78, rt (D8 r0 r1 r2 r3 r4 r5 r6 r7)), (76, rt (wv z)), (77, rt (bb (p))), (77, rt (bb (q))), (77, rt (bb (r))), (77, rt (bb (s)))] =
    some (rt (tp [wv z, bb (!(r == s))]), [PureX Try.prog 79 #[wv x] (rt (D8 d0 d1 d2 d3 d4 d5 d6 d7)), PureX Try.prog 79 #[wv y] (rt (D8 e0 e1 e2 e3 e4 e5 e6 e7)), PureX Try.prog 78 #[D8 d0 d1 d2 d3 d4 d5 d6 d7, D8 e0 e1 e2 e3 e4 e5 e6 e7, u 0] (rt (D8 r0 r1 r2 r3 r4 r5 r6 r7)), PureX Try.prog 76 #[D8 r0 r1 r2 r3 r4 r5 r6 r7] (rt (wv z)), PureX Try.prog 77 #[wv x] (rt (bb (p))), PureX Try.prog 77 #[wv y] (rt (bb (q))), (p == q) = true, PureX Try.prog 77 #[wv z] (rt (bb (r))), PureX Try.prog 77 #[wv x] (rt (bb (s)))]) := by kernel_rfl
theorem radd_raw2 (x y z d0 d1 d2 d3 d4 d5 d6 d7 e0 e1 e2 e3 e4 e5 e6 e7 r0 r1 r2 r3 r4 r5 r6 r7 : Nat) (p q : Bool) : runA Try.prog 29 #[wv x, wv y] [f, n, n, n, n] [(79, rt (D8 d0 d1 d2 d3 d4 d5 d6 d7)), (79, rt (D8 e0 e1 e2 e3 e4 e5 e6 e7)), (78, rt (D8 r0 r1 r2 r3 r4 r5 r6 r7)), (76, rt (wv z)), (77, rt (bb (p))), (77, rt (bb (q)))] =
    some (rt (tp [wv z, bb (false)]), [PureX Try.prog 79 #[wv x] (rt (D8 d0 d1 d2 d3 d4 d5 d6 d7)), PureX Try.prog 79 #[wv y] (rt (D8 e0 e1 e2 e3 e4 e5 e6 e7)), PureX Try.prog 78 #[D8 d0 d1 d2 d3 d4 d5 d6 d7, D8 e0 e1 e2 e3 e4 e5 e6 e7, u 0] (rt (D8 r0 r1 r2 r3 r4 r5 r6 r7)), PureX Try.prog 76 #[D8 r0 r1 r2 r3 r4 r5 r6 r7] (rt (wv z)), PureX Try.prog 77 #[wv x] (rt (bb (p))), PureX Try.prog 77 #[wv y] (rt (bb (q))), (p == q) = false]) := by kernel_rfl
theorem rsub_raw1 (x y z d0 d1 d2 d3 d4 d5 d6 d7 e0 e1 e2 e3 e4 e5 e6 e7 f0 f1 f2 f3 f4 f5 f6 f7 r0 r1 r2 r3 r4 r5 r6 r7 : Nat) (p q r s : Bool) : runA Try.prog 30 #[wv x, wv y] [t, n, n, n, n] [(79, rt (D8 d0 d1 d2 d3 d4 d5 d6 d7)), (79, rt (D8 e0 e1 e2 e3 e4 e5 e6 e7)), (80, rt (D8 f0 f1 f2 f3 f4 f5 f6 f7)), (78, rt (D8 r0 r1 r2 r3 r4 r5 r6 r7)), (76, rt (wv z)), (77, rt (bb (p))), (77, rt (bb (q))), (77, rt (bb (r))), (77, rt (bb (s)))] =
    some (rt (tp [wv z, bb (!(r == s))]), [PureX Try.prog 79 #[wv x] (rt (D8 d0 d1 d2 d3 d4 d5 d6 d7)), PureX Try.prog 79 #[wv y] (rt (D8 e0 e1 e2 e3 e4 e5 e6 e7)), PureX Try.prog 80 #[D8 e0 e1 e2 e3 e4 e5 e6 e7] (rt (D8 f0 f1 f2 f3 f4 f5 f6 f7)), PureX Try.prog 78 #[D8 d0 d1 d2 d3 d4 d5 d6 d7, D8 f0 f1 f2 f3 f4 f5 f6 f7, u 1] (rt (D8 r0 r1 r2 r3 r4 r5 r6 r7)), PureX Try.prog 76 #[D8 r0 r1 r2 r3 r4 r5 r6 r7] (rt (wv z)), PureX Try.prog 77 #[wv x] (rt (bb (p))), PureX Try.prog 77 #[wv y] (rt (bb (q))), (!(p == q)) = true, PureX Try.prog 77 #[wv z] (rt (bb (r))), PureX Try.prog 77 #[wv x] (rt (bb (s)))]) := by kernel_rfl
theorem rsub_raw2 (x y z d0 d1 d2 d3 d4 d5 d6 d7 e0 e1 e2 e3 e4 e5 e6 e7 f0 f1 f2 f3 f4 f5 f6 f7 r0 r1 r2 r3 r4 r5 r6 r7 : Nat) (p q : Bool) : runA Try.prog 30 #[wv x, wv y] [f, n, n, n, n] [(79, rt (D8 d0 d1 d2 d3 d4 d5 d6 d7)), (79, rt (D8 e0 e1 e2 e3 e4 e5 e6 e7)), (80, rt (D8 f0 f1 f2 f3 f4 f5 f6 f7)), (78, rt (D8 r0 r1 r2 r3 r4 r5 r6 r7)), (76, rt (wv z)), (77, rt (bb (p))), (77, rt (bb (q)))] =
    some (rt (tp [wv z, bb (false)]), [PureX Try.prog 79 #[wv x] (rt (D8 d0 d1 d2 d3 d4 d5 d6 d7)), PureX Try.prog 79 #[wv y] (rt (D8 e0 e1 e2 e3 e4 e5 e6 e7)), PureX Try.prog 80 #[D8 e0 e1 e2 e3 e4 e5 e6 e7] (rt (D8 f0 f1 f2 f3 f4 f5 f6 f7)), PureX Try.prog 78 #[D8 d0 d1 d2 d3 d4 d5 d6 d7, D8 f0 f1 f2 f3 f4 f5 f6 f7, u 1] (rt (D8 r0 r1 r2 r3 r4 r5 r6 r7)), PureX Try.prog 76 #[D8 r0 r1 r2 r3 r4 r5 r6 r7] (rt (wv z)), PureX Try.prog 77 #[wv x] (rt (bb (p))), PureX Try.prog 77 #[wv y] (rt (bb (q))), (!(p == q)) = false]) := by kernel_rfl
theorem rneg_raw1 (x z d0 d1 d2 d3 d4 d5 d6 d7 f0 f1 f2 f3 f4 f5 f6 f7 r0 r1 r2 r3 r4 r5 r6 r7 : Nat) (p q : Bool) : runA Try.prog 34 #[wv x] [t, n] [(79, rt (D8 d0 d1 d2 d3 d4 d5 d6 d7)), (80, rt (D8 f0 f1 f2 f3 f4 f5 f6 f7)), (78, rt (D8 r0 r1 r2 r3 r4 r5 r6 r7)), (76, rt (wv z)), (77, rt (bb (p))), (77, rt (bb (q)))] =
    some (rt (tp [wv z, bb (q)]), [PureX Try.prog 79 #[wv x] (rt (D8 d0 d1 d2 d3 d4 d5 d6 d7)), PureX Try.prog 80 #[D8 d0 d1 d2 d3 d4 d5 d6 d7] (rt (D8 f0 f1 f2 f3 f4 f5 f6 f7)), PureX Try.prog 78 #[D8 f0 f1 f2 f3 f4 f5 f6 f7, D8 0 0 0 0 0 0 0 0, u 1] (rt (D8 r0 r1 r2 r3 r4 r5 r6 r7)), PureX Try.prog 76 #[D8 r0 r1 r2 r3 r4 r5 r6 r7] (rt (wv z)), PureX Try.prog 77 #[wv x] (rt (bb (p))), (p) = true, PureX Try.prog 77 #[wv z] (rt (bb (q)))]) := by kernel_rfl
theorem rneg_raw2 (x z d0 d1 d2 d3 d4 d5 d6 d7 f0 f1 f2 f3 f4 f5 f6 f7 r0 r1 r2 r3 r4 r5 r6 r7 : Nat) (p : Bool) : runA Try.prog 34 #[wv x] [f, n] [(79, rt (D8 d0 d1 d2 d3 d4 d5 d6 d7)), (80, rt (D8 f0 f1 f2 f3 f4 f5 f6 f7)), (78, rt (D8 r0 r1 r2 r3 r4 r5 r6 r7)), (76, rt (wv z)), (77, rt (bb (p)))] =
    some (rt (tp [wv z, bb (false)]), [PureX Try.prog 79 #[wv x] (rt (D8 d0 d1 d2 d3 d4 d5 d6 d7)), PureX Try.prog 80 #[D8 d0 d1 d2 d3 d4 d5 d6 d7] (rt (D8 f0 f1 f2 f3 f4 f5 f6 f7)), PureX Try.prog 78 #[D8 f0 f1 f2 f3 f4 f5 f6 f7, D8 0 0 0 0 0 0 0 0, u 1] (rt (D8 r0 r1 r2 r3 r4 r5 r6 r7)), PureX Try.prog 76 #[D8 r0 r1 r2 r3 r4 r5 r6 r7] (rt (wv z)), PureX Try.prog 77 #[wv x] (rt (bb (p))), (p) = false]) := by kernel_rfl

theorem wrapu {a : Nat} (ha : a < 18446744073709551616) : IntKind.u64.wrap (Int.ofNat a) = Int.ofNat a := by
  rw [IntKind.wrap_u64]
  simp only [Int.ofNat_eq_natCast]
  omega
theorem digits_x (x : Nat) : ∃ d0 d1 d2 d3 d4 d5 d6 d7, d0 < 4294967296 ∧ d1 < 4294967296 ∧ d2 < 4294967296 ∧ d3 < 4294967296 ∧ d4 < 4294967296 ∧ d5 < 4294967296 ∧ d6 < 4294967296 ∧ d7 < 4294967296 ∧ e8 d0 d1 d2 d3 d4 d5 d6 d7 = x % Mw ∧ PureX Try.prog 79 #[wv x] (rt (D8 d0 d1 d2 d3 d4 d5 d6 d7)) := by
  obtain ⟨a0, a1, a2, a3, ha0, ha1, ha2, ha3, ea, ea2, _⟩ := vl_wv x
  have h := runA_pure mix (digits_raw a0 a1 a2 a3) trivial rfl rfl
  rw [wrapu (show a0 / 4294967296 < 18446744073709551616 by omega), wrapu (show a1 / 4294967296 < 18446744073709551616 by omega), wrapu (show a2 / 4294967296 < 18446744073709551616 by omega), wrapu (show a3 / 4294967296 < 18446744073709551616 by omega)] at h
  refine ⟨a0 % 4294967296, a0 / 4294967296, a1 % 4294967296, a1 / 4294967296, a2 % 4294967296, a2 / 4294967296, a3 % 4294967296, a3 / 4294967296, by omega, by omega, by omega, by omega, by omega, by omega, by omega, by omega, ?_, ?_⟩
  · rw [← ea]
    unfold e8 vl
    have k : ∀ a r : Nat, a % 4294967296 + 4294967296 * (a / 4294967296 + 4294967296 * r) = a + 18446744073709551616 * r := by omega
    have k3 : a3 % 4294967296 + 4294967296 * (a3 / 4294967296) = a3 := by omega
    rw [k3, k, k, k]
  · rw [ea2]
    exact h
theorem not_c {d0 d1 d2 d3 d4 d5 d6 d7 : Nat} (hd0 : d0 < 4294967296) (hd1 : d1 < 4294967296) (hd2 : d2 < 4294967296) (hd3 : d3 < 4294967296) (hd4 : d4 < 4294967296) (hd5 : d5 < 4294967296) (hd6 : d6 < 4294967296) (hd7 : d7 < 4294967296) : PureX Try.prog 80 #[D8 d0 d1 d2 d3 d4 d5 d6 d7] (rt (D8 (4294967295 - d0) (4294967295 - d1) (4294967295 - d2) (4294967295 - d3) (4294967295 - d4) (4294967295 - d5) (4294967295 - d6) (4294967295 - d7))) := by
  have h := runA_pure mix (not_raw d0 d1 d2 d3 d4 d5 d6 d7) trivial rfl rfl
  have k : ∀ a : Nat, a < 4294967296 → IntKind.u64.wrap (4294967295 - Int.ofNat a) = Int.ofNat (4294967295 - a) := by
    intro a ha
    rw [IntKind.wrap_u64]
    simp only [Int.ofNat_eq_natCast]
    omega
  rw [k d0 hd0, k d1 hd1, k d2 hd2, k d3 hd3, k d4 hd4, k d5 hd5, k d6 hd6, k d7 hd7] at h
  exact h
theorem wide_c {d0 d1 d2 d3 d4 d5 d6 d7 : Nat} (hd0 : d0 < 4294967296) (hd1 : d1 < 4294967296) (hd2 : d2 < 4294967296) (hd3 : d3 < 4294967296) (hd4 : d4 < 4294967296) (hd5 : d5 < 4294967296) (hd6 : d6 < 4294967296) (hd7 : d7 < 4294967296) : PureX Try.prog 76 #[D8 d0 d1 d2 d3 d4 d5 d6 d7] (rt (wv (e8 d0 d1 d2 d3 d4 d5 d6 d7))) := by
  have h := runA_pure mix (wide_raw d0 d1 d2 d3 d4 d5 d6 d7) trivial rfl rfl
  have k : ∀ a b : Nat, a < 4294967296 → b < 4294967296 → IntKind.u64.wrap (IntKind.u64.wrap (Int.ofNat b * 4294967296) + Int.ofNat a) = Int.ofNat (a + 4294967296 * b) := by
    intro a b ha hb
    rw [IntKind.wrap_u64, IntKind.wrap_u64]
    simp only [Int.ofNat_eq_natCast]
    omega
  rw [k d0 d1 hd0 hd1, k d2 d3 hd2 hd3, k d4 d5 hd4 hd5, k d6 d7 hd6 hd7] at h
  have e : e8 d0 d1 d2 d3 d4 d5 d6 d7 = vl (d0 + 4294967296 * d1) (d2 + 4294967296 * d3) (d4 + 4294967296 * d5) (d6 + 4294967296 * d7) := by
    unfold e8 vl
    have k : ∀ a b r : Nat, a + 4294967296 * (b + 4294967296 * r) = a + 4294967296 * b + 18446744073709551616 * r := by omega
    rw [k, k, k]
  rw [e, wv_vl (by omega) (by omega) (by omega) (by omega)]
  exact h
theorem low_x (x : Nat) : PureX Try.prog 77 #[wv x] (rt (bb (ng x))) := by
  obtain ⟨a0, a1, a2, a3, ha0, ha1, ha2, ha3, ea, ea2, _⟩ := vl_wv x
  have h := runA_pure mix (low_raw a0 a1 a2 a3) trivial rfl rfl
  rw [ea2, ng_mod (x := x) (y := vl a0 a1 a2 a3) (by rw [ea, Nat.mod_mod]), ng_top ha0 ha1 ha2 ha3]
  have e : ((Int.ofNat a3).fdiv (2 ^ Int.toNat 63) == 1) = decide (9223372036854775808 ≤ a3) := by
    rw [Bool.eq_iff_iff, beq_iff_eq, decide_eq_true_iff]
    rw [show ((2 : Int) ^ Int.toNat 63) = 9223372036854775808 from rfl, Int.fdiv_eq_ediv_of_nonneg _ (by decide)]
    simp only [Int.ofNat_eq_natCast]
    omega
  rw [e] at h
  exact h
theorem plus_c {d0 d1 d2 d3 d4 d5 d6 d7 e0 e1 e2 e3 e4 e5 e6 e7 c : Nat} (hd0 : d0 < 4294967296) (hd1 : d1 < 4294967296) (hd2 : d2 < 4294967296) (hd3 : d3 < 4294967296) (hd4 : d4 < 4294967296) (hd5 : d5 < 4294967296) (hd6 : d6 < 4294967296) (hd7 : d7 < 4294967296) (he0 : e0 < 4294967296) (he1 : e1 < 4294967296) (he2 : e2 < 4294967296) (he3 : e3 < 4294967296) (he4 : e4 < 4294967296) (he5 : e5 < 4294967296) (he6 : e6 < 4294967296) (he7 : e7 < 4294967296) (hc : c ≤ 1) : ∃ r0 r1 r2 r3 r4 r5 r6 r7 k, r0 < 4294967296 ∧ r1 < 4294967296 ∧ r2 < 4294967296 ∧ r3 < 4294967296 ∧ r4 < 4294967296 ∧ r5 < 4294967296 ∧ r6 < 4294967296 ∧ r7 < 4294967296 ∧ k ≤ 1 ∧ e8 r0 r1 r2 r3 r4 r5 r6 r7 + Mw * k = e8 d0 d1 d2 d3 d4 d5 d6 d7 + e8 e0 e1 e2 e3 e4 e5 e6 e7 + c ∧ PureX Try.prog 78 #[D8 d0 d1 d2 d3 d4 d5 d6 d7, D8 e0 e1 e2 e3 e4 e5 e6 e7, u c] (rt (D8 r0 r1 r2 r3 r4 r5 r6 r7)) := by
  have h := runA_pure mix (plus_raw d0 d1 d2 d3 d4 d5 d6 d7 e0 e1 e2 e3 e4 e5 e6 e7 c) trivial rfl rfl
  have k0 := pd_spec hd0 he0 hc
  have k1 := pd_spec hd1 he1 k0.2.1
  have k2 := pd_spec hd2 he2 k1.2.1
  have k3 := pd_spec hd3 he3 k2.2.1
  have k4 := pd_spec hd4 he4 k3.2.1
  have k5 := pd_spec hd5 he5 k4.2.1
  have k6 := pd_spec hd6 he6 k5.2.1
  have k7 := pd_spec hd7 he7 k6.2.1
  generalize (pd d7 e7 (pc d6 e6 (pc d5 e5 (pc d4 e4 (pc d3 e3 (pc d2 e2 (pc d1 e1 (pc d0 e0 c)))))))) = r7 at k7 h
  generalize (pc d7 e7 (pc d6 e6 (pc d5 e5 (pc d4 e4 (pc d3 e3 (pc d2 e2 (pc d1 e1 (pc d0 e0 c)))))))) = c8 at k7
  generalize (pd d6 e6 (pc d5 e5 (pc d4 e4 (pc d3 e3 (pc d2 e2 (pc d1 e1 (pc d0 e0 c))))))) = r6 at k6 h
  generalize (pc d6 e6 (pc d5 e5 (pc d4 e4 (pc d3 e3 (pc d2 e2 (pc d1 e1 (pc d0 e0 c))))))) = c7 at k6 k7
  generalize (pd d5 e5 (pc d4 e4 (pc d3 e3 (pc d2 e2 (pc d1 e1 (pc d0 e0 c)))))) = r5 at k5 h
  generalize (pc d5 e5 (pc d4 e4 (pc d3 e3 (pc d2 e2 (pc d1 e1 (pc d0 e0 c)))))) = c6 at k5 k6
  generalize (pd d4 e4 (pc d3 e3 (pc d2 e2 (pc d1 e1 (pc d0 e0 c))))) = r4 at k4 h
  generalize (pc d4 e4 (pc d3 e3 (pc d2 e2 (pc d1 e1 (pc d0 e0 c))))) = c5 at k4 k5
  generalize (pd d3 e3 (pc d2 e2 (pc d1 e1 (pc d0 e0 c)))) = r3 at k3 h
  generalize (pc d3 e3 (pc d2 e2 (pc d1 e1 (pc d0 e0 c)))) = c4 at k3 k4
  generalize (pd d2 e2 (pc d1 e1 (pc d0 e0 c))) = r2 at k2 h
  generalize (pc d2 e2 (pc d1 e1 (pc d0 e0 c))) = c3 at k2 k3
  generalize (pd d1 e1 (pc d0 e0 c)) = r1 at k1 h
  generalize (pc d1 e1 (pc d0 e0 c)) = c2 at k1 k2
  generalize (pd d0 e0 c) = r0 at k0 h
  generalize (pc d0 e0 c) = c1 at k0 k1
  refine ⟨r0, r1, r2, r3, r4, r5, r6, r7, c8, k0.1, k1.1, k2.1, k3.1, k4.1, k5.1, k6.1, k7.1, k7.2.1, ?_, h⟩
  replace k0 := k0.2.2
  replace k1 := k1.2.2
  replace k2 := k2.2.2
  replace k3 := k3.2.2
  replace k4 := k4.2.2
  replace k5 := k5.2.2
  replace k6 := k6.2.2
  replace k7 := k7.2.2
  unfold e8
  simp only [Mw]
  clear h
  omega

theorem radd_x (x y : Nat) : PureX Try.prog 29 #[wv x, wv y] (rt (tp [wv (x + y), bb (addO x y)])) := by
  obtain ⟨d0, d1, d2, d3, d4, d5, d6, d7, hd0, hd1, hd2, hd3, hd4, hd5, hd6, hd7, ed, qd⟩ := digits_x x
  obtain ⟨e0, e1, e2, e3, e4, e5, e6, e7, he0, he1, he2, he3, he4, he5, he6, he7, ee, qe⟩ := digits_x y
  obtain ⟨r0, r1, r2, r3, r4, r5, r6, r7, k, hr0, hr1, hr2, hr3, hr4, hr5, hr6, hr7, hk, er, qr⟩ := plus_c hd0 hd1 hd2 hd3 hd4 hd5 hd6 hd7 he0 he1 he2 he3 he4 he5 he6 he7 (c := 0) (by decide)
  have qw := wide_c hr0 hr1 hr2 hr3 hr4 hr5 hr6 hr7
  rw [ed, ee] at er
  have hz : (x + y) % Mw = e8 r0 r1 r2 r3 r4 r5 r6 r7 % Mw := by
    have h2 := congrArg (· % Mw) er
    simp only [Nat.add_mul_mod_self_left, Nat.add_zero] at h2
    rw [h2, ← Nat.add_mod]
  rw [wv_mod hz.symm] at qw
  clear hz er ed ee
  have l1 := low_x x
  have l2 := low_x y
  have l3 := low_x (x + y)
  unfold addO
  generalize ng x = A at l1 ⊢
  generalize ng y = B at l2 ⊢
  generalize ng (x + y) = R at l3 ⊢
  cases hq : (A == B) <;> simp only [Bool.true_and, Bool.false_and]
  · exact runA_pure mix (radd_raw2 x y (x + y) d0 d1 d2 d3 d4 d5 d6 d7 e0 e1 e2 e3 e4 e5 e6 e7 r0 r1 r2 r3 r4 r5 r6 r7 A B) ⟨qd, qe, qr, qw, l1, l2, hq, trivial⟩ rfl rfl
  · exact runA_pure mix (radd_raw1 x y (x + y) d0 d1 d2 d3 d4 d5 d6 d7 e0 e1 e2 e3 e4 e5 e6 e7 r0 r1 r2 r3 r4 r5 r6 r7 A B R A) ⟨qd, qe, qr, qw, l1, l2, hq, l3, l1, trivial⟩ rfl rfl
theorem e8_not {d0 d1 d2 d3 d4 d5 d6 d7 : Nat} (hd0 : d0 < 4294967296) (hd1 : d1 < 4294967296) (hd2 : d2 < 4294967296) (hd3 : d3 < 4294967296) (hd4 : d4 < 4294967296) (hd5 : d5 < 4294967296) (hd6 : d6 < 4294967296) (hd7 : d7 < 4294967296) : e8 (4294967295 - d0) (4294967295 - d1) (4294967295 - d2) (4294967295 - d3) (4294967295 - d4) (4294967295 - d5) (4294967295 - d6) (4294967295 - d7) + e8 d0 d1 d2 d3 d4 d5 d6 d7 + 1 = Mw := by
  obtain ⟨f0, e0⟩ : ∃ f, f = 4294967295 - d0 := ⟨_, rfl⟩
  have g0 : f0 + d0 = 4294967295 := by omega
  rw [← e0]
  clear e0 hd0
  obtain ⟨f1, e1⟩ : ∃ f, f = 4294967295 - d1 := ⟨_, rfl⟩
  have g1 : f1 + d1 = 4294967295 := by omega
  rw [← e1]
  clear e1 hd1
  obtain ⟨f2, e2⟩ : ∃ f, f = 4294967295 - d2 := ⟨_, rfl⟩
  have g2 : f2 + d2 = 4294967295 := by omega
  rw [← e2]
  clear e2 hd2
  obtain ⟨f3, e3⟩ : ∃ f, f = 4294967295 - d3 := ⟨_, rfl⟩
  have g3 : f3 + d3 = 4294967295 := by omega
  rw [← e3]
  clear e3 hd3
  obtain ⟨f4, e4⟩ : ∃ f, f = 4294967295 - d4 := ⟨_, rfl⟩
  have g4 : f4 + d4 = 4294967295 := by omega
  rw [← e4]
  clear e4 hd4
  obtain ⟨f5, e5⟩ : ∃ f, f = 4294967295 - d5 := ⟨_, rfl⟩
  have g5 : f5 + d5 = 4294967295 := by omega
  rw [← e5]
  clear e5 hd5
  obtain ⟨f6, e6⟩ : ∃ f, f = 4294967295 - d6 := ⟨_, rfl⟩
  have g6 : f6 + d6 = 4294967295 := by omega
  rw [← e6]
  clear e6 hd6
  obtain ⟨f7, e7⟩ : ∃ f, f = 4294967295 - d7 := ⟨_, rfl⟩
  have g7 : f7 + d7 = 4294967295 := by omega
  rw [← e7]
  clear e7 hd7
  have s : ∀ f d F D : Nat, f + d = 4294967295 → f + 4294967296 * F + (d + 4294967296 * D) + 1 = 4294967296 * (F + D + 1) := by
    intro f d F D h
    omega
  unfold e8
  rw [s _ _ _ _ g0, s _ _ _ _ g1, s _ _ _ _ g2, s _ _ _ _ g3, s _ _ _ _ g4, s _ _ _ _ g5, s _ _ _ _ g6, show f7 + d7 + 1 = 4294967296 by omega]
theorem rsub_x (x y : Nat) : PureX Try.prog 30 #[wv x, wv y] (rt (tp [wv (dif x y), bb (subO x y)])) := by
  obtain ⟨e0, e1, e2, e3, e4, e5, e6, e7, he0, he1, he2, he3, he4, he5, he6, he7, ee, qe⟩ := digits_x x
  obtain ⟨d0, d1, d2, d3, d4, d5, d6, d7, hd0, hd1, hd2, hd3, hd4, hd5, hd6, hd7, ed, qd⟩ := digits_x y
  have qn := not_c hd0 hd1 hd2 hd3 hd4 hd5 hd6 hd7
  have en := e8_not hd0 hd1 hd2 hd3 hd4 hd5 hd6 hd7
  obtain ⟨r0, r1, r2, r3, r4, r5, r6, r7, k, hr0, hr1, hr2, hr3, hr4, hr5, hr6, hr7, hk, er, qr⟩ := plus_c he0 he1 he2 he3 he4 he5 he6 he7 (show 4294967295 - d0 < 4294967296 by omega) (show 4294967295 - d1 < 4294967296 by omega) (show 4294967295 - d2 < 4294967296 by omega) (show 4294967295 - d3 < 4294967296 by omega) (show 4294967295 - d4 < 4294967296 by omega) (show 4294967295 - d5 < 4294967296 by omega) (show 4294967295 - d6 < 4294967296 by omega) (show 4294967295 - d7 < 4294967296 by omega) (c := 1) (by decide)
  have qw := wide_c hr0 hr1 hr2 hr3 hr4 hr5 hr6 hr7
  rw [ee] at er
  rw [ed] at en
  generalize e8 (4294967295 - d0) (4294967295 - d1) (4294967295 - d2) (4294967295 - d3) (4294967295 - d4) (4294967295 - d5) (4294967295 - d6) (4294967295 - d7) = N at en er
  have hl : y % Mw < Mw := Nat.mod_lt _ (by decide)
  have hz : dif x y % Mw = e8 r0 r1 r2 r3 r4 r5 r6 r7 % Mw := by
    have h2 := congrArg (· % Mw) er
    simp only [Nat.add_mul_mod_self_left] at h2
    rw [h2]
    unfold dif
    rw [show x % Mw + N + 1 = x % Mw + (Mw - y % Mw) by omega, Nat.mod_add_mod]
  rw [wv_mod hz.symm] at qw
  clear hz er ed ee en hl
  have l1 := low_x x
  have l2 := low_x y
  have l3 := low_x (dif x y)
  unfold subO
  generalize ng x = A at l1 ⊢
  generalize ng y = B at l2 ⊢
  generalize ng (dif x y) = R at l3 ⊢
  generalize dif x y = z at l3 qw ⊢
  cases hq : (A == B) <;> simp only [Bool.not_true, Bool.not_false, Bool.true_and, Bool.false_and]
  · have hq2 : (!(A == B)) = true := by rw [hq]; rfl
    exact runA_pure mix (rsub_raw1 x y z e0 e1 e2 e3 e4 e5 e6 e7 d0 d1 d2 d3 d4 d5 d6 d7 (4294967295 - d0) (4294967295 - d1) (4294967295 - d2) (4294967295 - d3) (4294967295 - d4) (4294967295 - d5) (4294967295 - d6) (4294967295 - d7) r0 r1 r2 r3 r4 r5 r6 r7 A B R A) ⟨qe, qd, qn, qr, qw, l1, l2, hq2, l3, l1, trivial⟩ rfl rfl
  · have hq2 : (!(A == B)) = false := by rw [hq]; rfl
    exact runA_pure mix (rsub_raw2 x y z e0 e1 e2 e3 e4 e5 e6 e7 d0 d1 d2 d3 d4 d5 d6 d7 (4294967295 - d0) (4294967295 - d1) (4294967295 - d2) (4294967295 - d3) (4294967295 - d4) (4294967295 - d5) (4294967295 - d6) (4294967295 - d7) r0 r1 r2 r3 r4 r5 r6 r7 A B) ⟨qe, qd, qn, qr, qw, l1, l2, hq2, trivial⟩ rfl rfl
theorem rneg_x (x : Nat) : PureX Try.prog 34 #[wv x] (rt (tp [wv (dif 0 x), bb (subO 0 x)])) := by
  obtain ⟨d0, d1, d2, d3, d4, d5, d6, d7, hd0, hd1, hd2, hd3, hd4, hd5, hd6, hd7, ed, qd⟩ := digits_x x
  have qn := not_c hd0 hd1 hd2 hd3 hd4 hd5 hd6 hd7
  have en := e8_not hd0 hd1 hd2 hd3 hd4 hd5 hd6 hd7
  obtain ⟨r0, r1, r2, r3, r4, r5, r6, r7, k, hr0, hr1, hr2, hr3, hr4, hr5, hr6, hr7, hk, er, qr⟩ := plus_c (show 4294967295 - d0 < 4294967296 by omega) (show 4294967295 - d1 < 4294967296 by omega) (show 4294967295 - d2 < 4294967296 by omega) (show 4294967295 - d3 < 4294967296 by omega) (show 4294967295 - d4 < 4294967296 by omega) (show 4294967295 - d5 < 4294967296 by omega) (show 4294967295 - d6 < 4294967296 by omega) (show 4294967295 - d7 < 4294967296 by omega) (show 0 < 4294967296 by decide) (show 0 < 4294967296 by decide) (show 0 < 4294967296 by decide) (show 0 < 4294967296 by decide) (show 0 < 4294967296 by decide) (show 0 < 4294967296 by decide) (show 0 < 4294967296 by decide) (show 0 < 4294967296 by decide) (c := 1) (by decide)
  have qw := wide_c hr0 hr1 hr2 hr3 hr4 hr5 hr6 hr7
  rw [ed] at en
  generalize e8 (4294967295 - d0) (4294967295 - d1) (4294967295 - d2) (4294967295 - d3) (4294967295 - d4) (4294967295 - d5) (4294967295 - d6) (4294967295 - d7) = N at en er
  rw [show e8 0 0 0 0 0 0 0 0 = 0 from rfl] at er
  have hl : x % Mw < Mw := Nat.mod_lt _ (by decide)
  have hz : dif 0 x % Mw = e8 r0 r1 r2 r3 r4 r5 r6 r7 % Mw := by
    have h2 := congrArg (· % Mw) er
    simp only [Nat.add_mul_mod_self_left] at h2
    rw [h2]
    unfold dif
    rw [show N + 0 + 1 = 0 + (Mw - x % Mw) by omega]
  rw [wv_mod hz.symm] at qw
  clear hz er ed en hl
  have l1 := low_x x
  have l3 := low_x (dif 0 x)
  unfold subO
  rw [show ng 0 = false from rfl]
  generalize ng x = A at l1 ⊢
  generalize ng (dif 0 x) = R at l3 ⊢
  generalize dif 0 x = z at l3 qw ⊢
  cases A
  · exact runA_pure mix (rneg_raw2 x z d0 d1 d2 d3 d4 d5 d6 d7 (4294967295 - d0) (4294967295 - d1) (4294967295 - d2) (4294967295 - d3) (4294967295 - d4) (4294967295 - d5) (4294967295 - d6) (4294967295 - d7) r0 r1 r2 r3 r4 r5 r6 r7 false) ⟨qd, qn, qr, qw, l1, rfl, trivial⟩ rfl rfl
  · have e : (!(false == true) && !(R == false)) = R := by cases R <;> rfl
    rw [e]
    exact runA_pure mix (rneg_raw1 x z d0 d1 d2 d3 d4 d5 d6 d7 (4294967295 - d0) (4294967295 - d1) (4294967295 - d2) (4294967295 - d3) (4294967295 - d4) (4294967295 - d5) (4294967295 - d6) (4294967295 - d7) r0 r1 r2 r3 r4 r5 r6 r7 true R) ⟨qd, qn, qr, qw, l1, rfl, l3, trivial⟩ rfl rfl
theorem radd_z {x y : Int} (hx : inR x) (hy : inR y) : PureX Try.prog 29 #[wz x, wz y] (rt (tp [wz (x + y), bb (decide (¬ inR (x + y)))])) := by
  have h := radd_x (nz x) (nz y)
  rw [(add_wv x y).1, over_add hx hy] at h
  exact h
theorem rsub_z {x y : Int} (hx : inR x) (hy : inR y) : PureX Try.prog 30 #[wz x, wz y] (rt (tp [wz (x - y), bb (decide (¬ inR (x - y)))])) := by
  have h := rsub_x (nz x) (nz y)
  rw [(dif_wv x y).1, over_sub hx hy] at h
  exact h
theorem rneg_z {x : Int} (hx : inR x) : PureX Try.prog 34 #[wz x] (rt (tp [wz (-x), bb (decide (¬ inR (-x)))])) := by
  have h := rneg_x (nz x)
  have e0 : (0 : Nat) = nz 0 := rfl
  rw [e0, (dif_wv 0 x).1, over_sub (by decide) hx, show (0 : Int) - x = -x by omega] at h
  exact h

end Go.Proofs.Ytpbhoamojocbpaa
