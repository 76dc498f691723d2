/- The document's own Cmp, Sign, Of. -/
import Derived.Test.YtpbhoamojocbpaaF6
namespace Go.Proofs.Ytpbhoamojocbpaa
open Go Go.RowKit
set_option linter.unusedSimpArgs false
set_option linter.unusedVariables false

theorem rcmp_raw1 (x y : Nat) (p q r : Bool) : runA Try.prog 33 #[wv x, wv y] [t, t] [(77, rt (bb (p))), (77, rt (bb (q))), (77, rt (bb (r)))] =
    some (rt (.int .i64 (-1)), [PureX Try.prog 77 #[wv x] (rt (bb (p))), PureX Try.prog 77 #[wv y] (rt (bb (q))), (!(p == q)) = true, PureX Try.prog 77 #[wv x] (rt (bb (r))), (r) = true]) := by kernel_rfl
theorem rcmp_raw2 (x y : Nat) (p q r : Bool) : runA Try.prog 33 #[wv x, wv y] [t, f] [(77, rt (bb (p))), (77, rt (bb (q))), (77, rt (bb (r)))] =
    some (rt (.int .i64 (1)), [PureX Try.prog 77 #[wv x] (rt (bb (p))), PureX Try.prog 77 #[wv y] (rt (bb (q))), (!(p == q)) = true, PureX Try.prog 77 #[wv x] (rt (bb (r))), (r) = false]) := by kernel_rfl
theorem rcmp_a3 (a0 a1 a2 a3 b0 b1 b2 b3 : Nat) (p q : Bool) : runA Try.prog 33 #[W4 a0 a1 a2 a3, W4 b0 b1 b2 b3] [f, n, t] [(77, rt (bb (p))), (77, rt (bb (q)))] =
    some (rt (.int .i64 (-1)), [PureX Try.prog 77 #[W4 a0 a1 a2 a3] (rt (bb (p))), PureX Try.prog 77 #[W4 b0 b1 b2 b3] (rt (bb (q))), (!(p == q)) = false, (decide (Int.ofNat a3 < Int.ofNat b3)) = true]) := by kernel_rfl
theorem rcmp_b3 (a0 a1 a2 a3 b0 b1 b2 b3 : Nat) (p q : Bool) : runA Try.prog 33 #[W4 a0 a1 a2 a3, W4 b0 b1 b2 b3] [f, n, f, t] [(77, rt (bb (p))), (77, rt (bb (q)))] =
    some (rt (.int .i64 (1)), [PureX Try.prog 77 #[W4 a0 a1 a2 a3] (rt (bb (p))), PureX Try.prog 77 #[W4 b0 b1 b2 b3] (rt (bb (q))), (!(p == q)) = false, (decide (Int.ofNat a3 < Int.ofNat b3)) = false, (decide (Int.ofNat b3 < Int.ofNat a3)) = true]) := by kernel_rfl
theorem rcmp_a2 (a0 a1 a2 a3 b0 b1 b2 b3 : Nat) (p q : Bool) : runA Try.prog 33 #[W4 a0 a1 a2 a3, W4 b0 b1 b2 b3] [f, n, f, f, n, t] [(77, rt (bb (p))), (77, rt (bb (q)))] =
    some (rt (.int .i64 (-1)), [PureX Try.prog 77 #[W4 a0 a1 a2 a3] (rt (bb (p))), PureX Try.prog 77 #[W4 b0 b1 b2 b3] (rt (bb (q))), (!(p == q)) = false, (decide (Int.ofNat a3 < Int.ofNat b3)) = false, (decide (Int.ofNat b3 < Int.ofNat a3)) = false, (decide (Int.ofNat a2 < Int.ofNat b2)) = true]) := by kernel_rfl
theorem rcmp_b2 (a0 a1 a2 a3 b0 b1 b2 b3 : Nat) (p q : Bool) : runA Try.prog 33 #[W4 a0 a1 a2 a3, W4 b0 b1 b2 b3] [f, n, f, f, n, f, t] [(77, rt (bb (p))), (77, rt (bb (q)))] =
    some (rt (.int .i64 (1)), [PureX Try.prog 77 #[W4 a0 a1 a2 a3] (rt (bb (p))), PureX Try.prog 77 #[W4 b0 b1 b2 b3] (rt (bb (q))), (!(p == q)) = false, (decide (Int.ofNat a3 < Int.ofNat b3)) = false, (decide (Int.ofNat b3 < Int.ofNat a3)) = false, (decide (Int.ofNat a2 < Int.ofNat b2)) = false, (decide (Int.ofNat b2 < Int.ofNat a2)) = true]) := by kernel_rfl
theorem rcmp_a1 (a0 a1 a2 a3 b0 b1 b2 b3 : Nat) (p q : Bool) : runA Try.prog 33 #[W4 a0 a1 a2 a3, W4 b0 b1 b2 b3] [f, n, f, f, n, f, f, n, t] [(77, rt (bb (p))), (77, rt (bb (q)))] =
    some (rt (.int .i64 (-1)), [PureX Try.prog 77 #[W4 a0 a1 a2 a3] (rt (bb (p))), PureX Try.prog 77 #[W4 b0 b1 b2 b3] (rt (bb (q))), (!(p == q)) = false, (decide (Int.ofNat a3 < Int.ofNat b3)) = false, (decide (Int.ofNat b3 < Int.ofNat a3)) = false, (decide (Int.ofNat a2 < Int.ofNat b2)) = false, (decide (Int.ofNat b2 < Int.ofNat a2)) = false, (decide (Int.ofNat a1 < Int.ofNat b1)) = true]) := by kernel_rfl
theorem rcmp_b1 (a0 a1 a2 a3 b0 b1 b2 b3 : Nat) (p q : Bool) : runA Try.prog 33 #[W4 a0 a1 a2 a3, W4 b0 b1 b2 b3] [f, n, f, f, n, f, f, n, f, t] [(77, rt (bb (p))), (77, rt (bb (q)))] =
    some (rt (.int .i64 (1)), [PureX Try.prog 77 #[W4 a0 a1 a2 a3] (rt (bb (p))), PureX Try.prog 77 #[W4 b0 b1 b2 b3] (rt (bb (q))), (!(p == q)) = false, (decide (Int.ofNat a3 < Int.ofNat b3)) = false, (decide (Int.ofNat b3 < Int.ofNat a3)) = false, (decide (Int.ofNat a2 < Int.ofNat b2)) = false, (decide (Int.ofNat b2 < Int.ofNat a2)) = false, (decide (Int.ofNat a1 < Int.ofNat b1)) = false, (decide (Int.ofNat b1 < Int.ofNat a1)) = true]) := by kernel_rfl
theorem rcmp_a0 (a0 a1 a2 a3 b0 b1 b2 b3 : Nat) (p q : Bool) : runA Try.prog 33 #[W4 a0 a1 a2 a3, W4 b0 b1 b2 b3] [f, n, f, f, n, f, f, n, f, f, n, t] [(77, rt (bb (p))), (77, rt (bb (q)))] =
    some (rt (.int .i64 (-1)), [PureX Try.prog 77 #[W4 a0 a1 a2 a3] (rt (bb (p))), PureX Try.prog 77 #[W4 b0 b1 b2 b3] (rt (bb (q))), (!(p == q)) = false, (decide (Int.ofNat a3 < Int.ofNat b3)) = false, (decide (Int.ofNat b3 < Int.ofNat a3)) = false, (decide (Int.ofNat a2 < Int.ofNat b2)) = false, (decide (Int.ofNat b2 < Int.ofNat a2)) = false, (decide (Int.ofNat a1 < Int.ofNat b1)) = false, (decide (Int.ofNat b1 < Int.ofNat a1)) = false, (decide (Int.ofNat a0 < Int.ofNat b0)) = true]) := by kernel_rfl
theorem rcmp_b0 (a0 a1 a2 a3 b0 b1 b2 b3 : Nat) (p q : Bool) : runA Try.prog 33 #[W4 a0 a1 a2 a3, W4 b0 b1 b2 b3] [f, n, f, f, n, f, f, n, f, f, n, f, t] [(77, rt (bb (p))), (77, rt (bb (q)))] =
    some (rt (.int .i64 (1)), [PureX Try.prog 77 #[W4 a0 a1 a2 a3] (rt (bb (p))), PureX Try.prog 77 #[W4 b0 b1 b2 b3] (rt (bb (q))), (!(p == q)) = false, (decide (Int.ofNat a3 < Int.ofNat b3)) = false, (decide (Int.ofNat b3 < Int.ofNat a3)) = false, (decide (Int.ofNat a2 < Int.ofNat b2)) = false, (decide (Int.ofNat b2 < Int.ofNat a2)) = false, (decide (Int.ofNat a1 < Int.ofNat b1)) = false, (decide (Int.ofNat b1 < Int.ofNat a1)) = false, (decide (Int.ofNat a0 < Int.ofNat b0)) = false, (decide (Int.ofNat b0 < Int.ofNat a0)) = true]) := by kernel_rfl
theorem rcmp_e (a0 a1 a2 a3 b0 b1 b2 b3 : Nat) (p q : Bool) : runA Try.prog 33 #[W4 a0 a1 a2 a3, W4 b0 b1 b2 b3] [f, n, f, f, n, f, f, n, f, f, n, f, f, n] [(77, rt (bb (p))), (77, rt (bb (q)))] =
    some (rt (.int .i64 (0)), [PureX Try.prog 77 #[W4 a0 a1 a2 a3] (rt (bb (p))), PureX Try.prog 77 #[W4 b0 b1 b2 b3] (rt (bb (q))), (!(p == q)) = false, (decide (Int.ofNat a3 < Int.ofNat b3)) = false, (decide (Int.ofNat b3 < Int.ofNat a3)) = false, (decide (Int.ofNat a2 < Int.ofNat b2)) = false, (decide (Int.ofNat b2 < Int.ofNat a2)) = false, (decide (Int.ofNat a1 < Int.ofNat b1)) = false, (decide (Int.ofNat b1 < Int.ofNat a1)) = false, (decide (Int.ofNat a0 < Int.ofNat b0)) = false, (decide (Int.ofNat b0 < Int.ofNat a0)) = false]) := by kernel_rfl
theorem rsign_raw (x : Nat) (s : Int) : runA Try.prog 32 #[wv x] [] [(33, rt (.int .i64 (s)))] =
    some (rt (.int .i64 (s)), [PureX Try.prog 33 #[wv x, wv 0] (rt (.int .i64 (s)))]) := by kernel_rfl
theorem rof_raw1 (x : Int) : runA Try.prog 50 #[.int .i64 (x)] [n, n, f] [] =
    some (rt (.agg ⟨[.int .u64 (IntKind.u64.wrap x), u 0, u 0, u 0]⟩), [(decide (x < 0)) = false]) := by kernel_rfl
theorem rof_raw2 (x : Int) : runA Try.prog 50 #[.int .i64 (x)] [n, n, t, n, n, t, n, n, t, n, n, n] [] =
    some (rt (.agg ⟨[.int .u64 (IntKind.u64.wrap x), .int .u64 (18446744073709551615), .int .u64 (18446744073709551615), .int .u64 (18446744073709551615)]⟩), [(decide (x < 0)) = true, (decide (x < 0)) = true, (decide (x < 0)) = true]) := by kernel_rfl
theorem rof1 (x : Nat) : runA Try.prog 50 #[.int .i64 (1)] [] [] =
    some (rt (wv 1), []) := by kernel_rfl
theorem lof1 (x : Nat) : runA Try.prog 31 #[.int .i64 (1)] [] [] =
    some (rt (wv 1), []) := by kernel_rfl

theorem lt_t {a b : Nat} (h : a < b) : (decide (Int.ofNat a < Int.ofNat b)) = true := by
  rw [decide_eq_true_eq]
  exact Int.ofNat_lt.2 h
theorem lt_f {a b : Nat} (h : ¬ a < b) : (decide (Int.ofNat a < Int.ofNat b)) = false := by
  rw [decide_eq_false_iff_not]
  exact fun c => h (Int.ofNat_lt.1 c)
/-- The order of words, the highest first. -/
theorem rcmp_w {a0 a1 a2 a3 b0 b1 b2 b3 : Nat} (ha0 : a0 < 18446744073709551616) (ha1 : a1 < 18446744073709551616) (ha2 : a2 < 18446744073709551616) (ha3 : a3 < 18446744073709551616) (hb0 : b0 < 18446744073709551616) (hb1 : b1 < 18446744073709551616) (hb2 : b2 < 18446744073709551616) (hb3 : b3 < 18446744073709551616) {p q : Bool}
    (l1 : PureX Try.prog 77 #[W4 a0 a1 a2 a3] (rt (bb p))) (l2 : PureX Try.prog 77 #[W4 b0 b1 b2 b3] (rt (bb q))) (hq : (!(p == q)) = false) :
    PureX Try.prog 33 #[W4 a0 a1 a2 a3, W4 b0 b1 b2 b3] (rt (.int .i64 ((vl a0 a1 a2 a3 : Int) - (vl b0 b1 b2 b3 : Int)).sign)) := by
  by_cases c3 : a3 < b3
  · rw [Int.sign_eq_neg_one_of_neg (by unfold vl; omega)]
    exact runA_pure mix (rcmp_a3 a0 a1 a2 a3 b0 b1 b2 b3 p q) ⟨l1, l2, hq, lt_t c3, trivial⟩ rfl rfl
  by_cases d3 : b3 < a3
  · rw [Int.sign_eq_one_of_pos (by unfold vl; omega)]
    exact runA_pure mix (rcmp_b3 a0 a1 a2 a3 b0 b1 b2 b3 p q) ⟨l1, l2, hq, lt_f c3, lt_t d3, trivial⟩ rfl rfl
  have e3 : a3 = b3 := by omega
  by_cases c2 : a2 < b2
  · rw [Int.sign_eq_neg_one_of_neg (by subst e3; unfold vl; omega)]
    exact runA_pure mix (rcmp_a2 a0 a1 a2 a3 b0 b1 b2 b3 p q) ⟨l1, l2, hq, lt_f c3, lt_f d3, lt_t c2, trivial⟩ rfl rfl
  by_cases d2 : b2 < a2
  · rw [Int.sign_eq_one_of_pos (by subst e3; unfold vl; omega)]
    exact runA_pure mix (rcmp_b2 a0 a1 a2 a3 b0 b1 b2 b3 p q) ⟨l1, l2, hq, lt_f c3, lt_f d3, lt_f c2, lt_t d2, trivial⟩ rfl rfl
  have e2 : a2 = b2 := by omega
  by_cases c1 : a1 < b1
  · rw [Int.sign_eq_neg_one_of_neg (by subst e3 e2; unfold vl; omega)]
    exact runA_pure mix (rcmp_a1 a0 a1 a2 a3 b0 b1 b2 b3 p q) ⟨l1, l2, hq, lt_f c3, lt_f d3, lt_f c2, lt_f d2, lt_t c1, trivial⟩ rfl rfl
  by_cases d1 : b1 < a1
  · rw [Int.sign_eq_one_of_pos (by subst e3 e2; unfold vl; omega)]
    exact runA_pure mix (rcmp_b1 a0 a1 a2 a3 b0 b1 b2 b3 p q) ⟨l1, l2, hq, lt_f c3, lt_f d3, lt_f c2, lt_f d2, lt_f c1, lt_t d1, trivial⟩ rfl rfl
  have e1 : a1 = b1 := by omega
  by_cases c0 : a0 < b0
  · rw [Int.sign_eq_neg_one_of_neg (by subst e3 e2 e1; unfold vl; omega)]
    exact runA_pure mix (rcmp_a0 a0 a1 a2 a3 b0 b1 b2 b3 p q) ⟨l1, l2, hq, lt_f c3, lt_f d3, lt_f c2, lt_f d2, lt_f c1, lt_f d1, lt_t c0, trivial⟩ rfl rfl
  by_cases d0 : b0 < a0
  · rw [Int.sign_eq_one_of_pos (by subst e3 e2 e1; unfold vl; omega)]
    exact runA_pure mix (rcmp_b0 a0 a1 a2 a3 b0 b1 b2 b3 p q) ⟨l1, l2, hq, lt_f c3, lt_f d3, lt_f c2, lt_f d2, lt_f c1, lt_f d1, lt_f c0, lt_t d0, trivial⟩ rfl rfl
  have e0 : a0 = b0 := by omega
  have es : ((vl a0 a1 a2 a3 : Int) - (vl b0 b1 b2 b3 : Int)).sign = 0 := by rw [e3, e2, e1, e0, Int.sub_self]; rfl
  rw [es]
  exact runA_pure mix (rcmp_e a0 a1 a2 a3 b0 b1 b2 b3 p q) ⟨l1, l2, hq, lt_f c3, lt_f d3, lt_f c2, lt_f d2, lt_f c1, lt_f d1, lt_f c0, lt_f d0, trivial⟩ rfl rfl
theorem nz_diff {x y : Int} (hx : inR x) (hy : inR y) (h : decide (x < 0) = decide (y < 0)) : (nz x : Int) - (nz y : Int) = x - y := by
  rw [decide_eq_decide] at h
  rw [nz_cast, nz_cast]
  unfold inR at *
  simp only [Mw]
  omega
theorem rcmp_z {x y : Int} (hx : inR x) (hy : inR y) : PureX Try.prog 33 #[wz x, wz y] (rt (.int .i64 (x - y).sign)) := by
  have l1 := low_x (nz x)
  have l2 := low_x (nz y)
  rw [ng_z hx] at l1
  rw [ng_z hy] at l2
  by_cases hs : decide (x < 0) = decide (y < 0)
  · rw [← nz_diff hx hy hs]
    unfold wz at *
    obtain ⟨a0, a1, a2, a3, ha0, ha1, ha2, ha3, ea, ea2, _⟩ := vl_wv (nz x)
    obtain ⟨b0, b1, b2, b3, hb0, hb1, hb2, hb3, eb, eb2, _⟩ := vl_wv (nz y)
    rw [Nat.mod_eq_of_lt (nz_lt x)] at ea
    rw [Nat.mod_eq_of_lt (nz_lt y)] at eb
    rw [ea2] at l1 ⊢
    rw [eb2] at l2 ⊢
    rw [← ea, ← eb]
    exact rcmp_w ha0 ha1 ha2 ha3 hb0 hb1 hb2 hb3 l1 l2 (by rw [hs, beq_self_eq_true]; rfl)
  · have hq : (!(decide (x < 0) == decide (y < 0))) = true := by
      rw [Bool.not_eq_true', beq_eq_false_iff_ne]
      exact hs
    rw [decide_eq_decide] at hs
    by_cases hx0 : x < 0
    · have hy0 : ¬ y < 0 := fun c => hs ⟨fun _ => c, fun _ => hx0⟩
      rw [Int.sign_eq_neg_one_of_neg (by omega)]
      exact runA_pure mix (rcmp_raw1 (nz x) (nz y) _ _ _) ⟨l1, l2, hq, l1, decide_eq_true hx0, trivial⟩ rfl rfl
    · have hy0 : y < 0 := by
        by_cases c : y < 0
        · exact c
        · exact absurd ⟨fun h => absurd h hx0, fun h => absurd h c⟩ hs
      rw [Int.sign_eq_one_of_pos (by omega)]
      exact runA_pure mix (rcmp_raw2 (nz x) (nz y) _ _ _) ⟨l1, l2, hq, l1, decide_eq_false hx0, trivial⟩ rfl rfl
theorem rsign_z {x : Int} (hx : inR x) : PureX Try.prog 32 #[wz x] (rt (.int .i64 x.sign)) := by
  have h := rcmp_z hx (y := 0) (by decide)
  rw [Int.sub_zero] at h
  exact runA_pure mix (rsign_raw (nz x) x.sign) ⟨h, trivial⟩ rfl rfl
theorem rof_z {x : Int} (h1 : -9223372036854775808 ≤ x) (h2 : x < 9223372036854775808) : PureX Try.prog 50 #[.int .i64 x] (rt (wz x)) := by
  have hm : ((x % 18446744073709551616).toNat : Int) = x % 18446744073709551616 := Int.toNat_of_nonneg (Int.emod_nonneg _ (by decide))
  have hw : IntKind.u64.wrap x = Int.ofNat (x % 18446744073709551616).toNat := by
    rw [IntKind.wrap_u64, Int.ofNat_eq_natCast, hm]
  have hlt : (x % 18446744073709551616).toNat < 18446744073709551616 := by omega
  by_cases hx : x < 0
  · have h := runA_pure mix (rof_raw2 x) ⟨decide_eq_true hx, decide_eq_true hx, decide_eq_true hx, trivial⟩ rfl rfl
    rw [hw] at h
    have e : wz x = W4 (x % 18446744073709551616).toNat 18446744073709551615 18446744073709551615 18446744073709551615 := by
      rw [← wv_vl hlt (by decide) (by decide) (by decide)]
      symm
      apply nz_of
      unfold vl
      simp only [Mw]
      omega
    rw [e]
    exact h
  · have h := runA_pure mix (rof_raw1 x) ⟨decide_eq_false hx, trivial⟩ rfl rfl
    rw [hw] at h
    have e : wz x = W4 (x % 18446744073709551616).toNat 0 0 0 := by
      rw [← wv_vl hlt (by decide) (by decide) (by decide)]
      symm
      apply nz_of
      unfold vl
      simp only [Mw]
      omega
    rw [e]
    exact h

end Go.Proofs.Ytpbhoamojocbpaa
