/- WideOver answers true at every input. -/
import Derived.Test.YtmlbppljencdnaaL5a
import Derived.Test.YtmlbppljencdnaaL5b
import Derived.Test.YtmlbppljencdnaaL5c
import Derived.Test.YtmlbppljencdnaaL5d
import Derived.IntWalk
namespace Go.Proofs.Ytmlbppljencdnaa
open Go Go.RowKit Go.Shelf

theorem sgn_mul (x y : Int) : sgn (x * y) = sgn x * sgn y := by
  unfold sgn
  by_cases hx : x = 0
  · subst hx; simp
  · by_cases hy : y = 0
    · subst hy; simp
    · have hxy : x * y ≠ 0 := Int.mul_ne_zero hx hy
      rw [if_neg hxy, if_neg hx, if_neg hy]
      by_cases h1 : x < 0
      · by_cases h2 : y < 0
        · have := Int.mul_pos_of_neg_of_neg h1 h2
          rw [if_pos h1, if_pos h2, if_neg (by omega)]; rfl
        · have := Int.mul_neg_of_neg_of_pos h1 (show 0 < y by omega)
          rw [if_pos h1, if_neg h2, if_pos this]; rfl
      · by_cases h2 : y < 0
        · have := Int.mul_neg_of_pos_of_neg (show 0 < x by omega) h2
          rw [if_neg h1, if_pos h2, if_pos this]; rfl
        · have := Int.mul_pos (show 0 < x by omega) (show 0 < y by omega)
          rw [if_neg h1, if_neg h2, if_neg (by omega)]; rfl
theorem sgn_in (x : Int) : -1 ≤ sgn x ∧ sgn x ≤ 1 := by
  unfold sgn
  split
  · omega
  · split <;> omega
theorem cmpZ_sub (x y : Int) : cmpZ x y = sgn (x - y) := by
  unfold cmpZ sgn
  by_cases h1 : x < y
  · rw [if_pos h1, if_neg (by omega), if_pos (by omega)]
  · rw [if_neg h1]
    by_cases h2 : y < x
    · rw [if_pos h2, if_neg (by omega), if_neg (by omega)]
    · rw [if_neg h2, if_pos (by omega)]
theorem prod_in {n m : Int} (h1 : -9223372036854775808 ≤ n) (h2 : n ≤ 9223372036854775807) (h3 : -9223372036854775808 ≤ m) (h4 : m ≤ 9223372036854775807) : -85070591730234615865843651857942052864 ≤ n * m ∧ n * m ≤ 85070591730234615865843651857942052864 := by
  have h := Int.natAbs_mul n m
  have k1 : n.natAbs ≤ 9223372036854775808 := by omega
  have k2 : m.natAbs ≤ 9223372036854775808 := by omega
  have k3 := Nat.mul_le_mul k1 k2
  rw [← h] at k3
  omega

theorem over_walk (n m : Int) (a b : Nat → Nat) (n1 : -9223372036854775808 ≤ n) (n2 : n ≤ 9223372036854775807) (m1 : -9223372036854775808 ≤ m) (m2 : m ≤ 9223372036854775807) (ha : Wds a) (hb : Wds b) (w : World) :
    Calls Try.prog 5 #[.int .i64 n, .int .i64 m, .agg #[.int .u64 (a 0), .int .u64 (a 1), .int .u64 (a 2), .int .u64 (a 3)], .agg #[.int .u64 (b 0), .int .u64 (b 1), .int .u64 (b 2), .int .u64 (b 3)]] w fun e w' => e = .returned (.bool true) ∧ Below w.heap.size w w' := by
  have vpn := ofR_words n
  have vpm := ofR_words m
  have zn := ofR_sval n1 n2
  have zm := ofR_sval m1 m2
  have hp := prod_in n1 n2 m1 m2
  have vx := mulR_words _ _ vpn vpm
  have vy := addR_words (ofR n) (ofR m)
  have vz := subR_words (ofR n) (ofR m)
  have vs := addR_words a b
  have vd := subR_words a b
  have hox : mulO (ofR n) (ofR m) = false := by rw [mulO_z vpn vpm, zn, zm]; exact over_of (by omega) (by omega)
  have hoy : addO (ofR n) (ofR m) = false := by rw [addO_z vpn vpm, zn, zm]; exact over_of (by omega) (by omega)
  have hoz : subO (ofR n) (ofR m) = false := by rw [subO_z vpn vpm, zn, zm]; exact over_of (by omega) (by omega)
  have sx : sval (mulR (ofR n) (ofR m)) = n * m := by
    refine sval_of vx ?_ (by omega) (by omega)
    rw [mulR_z vpn vpm, zn, zm]
  have sy : sval (addR (ofR n) (ofR m)) = n + m := by
    refine sval_of vy ?_ (by omega) (by omega)
    rw [addR_z vpn vpm, zn, zm]
  have sz : sval (subR (ofR n) (ofR m)) = n - m := by
    refine sval_of vz ?_ (by omega) (by omega)
    rw [subR_z vpn vpm, zn, zm]
  have hsz : signI (subR (ofR n) (ofR m)) = cmpR (ofR n) (ofR m) := by rw [signI_z vz, sz, cmpR_z vpn vpm, zn, zm, cmpZ_sub]
  have hwm : IntKind.i64.wrap (signI (ofR n) * signI (ofR m)) = signI (mulR (ofR n) (ofR m)) := by
    rw [signI_z vpn, signI_z vpm, signI_z vx, sx, zn, zm, sgn_mul]
    have k1 := sgn_in (n * m)
    rw [sgn_mul] at k1
    exact IntWalk.i64_in _ (by omega)
  have i1 := sval_in ha
  have i2 := sval_in hb
  have hsc := sval_cases vs (addR_z ha hb) (by omega) (by omega)
  have hno : addO a b = false → cmpR (addR a b) a = signI b ∧ cmpR (addR a b) b = signI a := by
    intro h
    rw [addO_z ha hb] at h
    have k := over_false h
    have e := sval_of vs (addR_z ha hb) k.1 k.2
    rw [cmpR_z vs ha, cmpR_z vs hb, signI_z ha, signI_z hb, e, cmpZ_sub, cmpZ_sub]
    exact ⟨by congr 1; omega, by congr 1; omega⟩
  have hyes : addO a b = true → signI a = signI b ∧ (cmpR (addR a b) a == signI b) = false := by
    intro h
    rw [addO_z ha hb] at h
    unfold overZ at h
    rw [decide_eq_true_eq] at h
    rw [cmpR_z vs ha, signI_z ha, signI_z hb]
    rcases h with h | h
    · have e : sval (addR a b) = sval a + sval b + 115792089237316195423570985008687907853269984665640564039457584007913129639936 := by omega
      have q1 : sgn (sval a) = -1 := by unfold sgn; rw [if_neg (by omega), if_pos (by omega)]
      have q2 : sgn (sval b) = -1 := by unfold sgn; rw [if_neg (by omega), if_pos (by omega)]
      have q3 : cmpZ (sval (addR a b)) (sval a) = 1 := by unfold cmpZ; rw [if_neg (by omega), if_pos (by omega)]
      rw [q1, q2, q3]
      exact ⟨rfl, rfl⟩
    · have e : sval (addR a b) = sval a + sval b - 115792089237316195423570985008687907853269984665640564039457584007913129639936 := by omega
      have q1 : sgn (sval a) = 1 := by unfold sgn; rw [if_neg (by omega), if_neg (by omega)]
      have q2 : sgn (sval b) = 1 := by unfold sgn; rw [if_neg (by omega), if_neg (by omega)]
      have q3 : cmpZ (sval (addR a b)) (sval a) = -1 := by unfold cmpZ; rw [if_pos (by omega)]
      rw [q1, q2, q3]
      exact ⟨rfl, rfl⟩
  have hle : subO a b = false → signI (subR a b) = cmpR a b := by
    intro h
    rw [subO_z ha hb] at h
    have k := over_false h
    rw [signI_z vd, sval_of vd (subR_z ha hb) k.1 k.2, cmpR_z ha hb, cmpZ_sub]
  cases hok : intB (addR (ofR n) (ofR m)) with
  | false =>
    cases hov : addO a b with
    | false =>
      cases hles : subO a b with
      | false => exact ov_000 n m a b _ _ _ _ _ _ _ _ _ _ _ _ _ _ 0 _ n1 n2 m1 m2 ha hb vpn vpm vx vy vz vs vd rfl rfl rfl hox rfl hoy rfl hoz rfl hsz rfl rfl rfl hwm rfl rfl hok rfl hov hles rfl rfl (hno hov).2.symm (hno hov).1.symm rfl (hle hles).symm w
      | true => exact ov_001 n m a b _ _ _ _ _ _ _ _ _ _ _ _ _ _ 0 0 n1 n2 m1 m2 ha hb vpn vpm vx vy vz vs vd rfl rfl rfl hox rfl hoy rfl hoz rfl hsz rfl rfl rfl hwm rfl rfl hok rfl hov hles rfl rfl (hno hov).2.symm (hno hov).1.symm w
    | true =>
      cases hles : subO a b with
      | false => exact ov_010 n m a b _ _ _ _ _ _ _ _ _ _ _ _ _ 0 _ _ n1 n2 m1 m2 ha hb vpn vpm vx vy vz vs vd rfl rfl rfl hox rfl hoy rfl hoz rfl hsz rfl rfl rfl hwm rfl rfl hok rfl hov hles rfl (hyes hov).1 rfl (hyes hov).2 rfl (hle hles).symm w
      | true => exact ov_011 n m a b _ _ _ _ _ _ _ _ _ _ _ _ _ 0 _ 0 n1 n2 m1 m2 ha hb vpn vpm vx vy vz vs vd rfl rfl rfl hox rfl hoy rfl hoz rfl hsz rfl rfl rfl hwm rfl rfl hok rfl hov hles rfl (hyes hov).1 rfl (hyes hov).2 w
  | true =>
    have ki := intB_z vy hok
    rw [sy] at ki
    cases hov : addO a b with
    | false =>
      cases hles : subO a b with
      | false => exact ov_100 n m a b _ _ _ _ _ _ _ _ _ _ _ 0 _ _ 0 _ n1 n2 m1 m2 ha hb vpn vpm vx vy vz vs vd rfl rfl rfl hox rfl hoy rfl hoz rfl hsz rfl rfl rfl hwm rfl rfl hok ki.1 (by omega) (by omega) hov hles rfl rfl (hno hov).2.symm (hno hov).1.symm rfl (hle hles).symm w
      | true => exact ov_101 n m a b _ _ _ _ _ _ _ _ _ _ _ 0 _ _ 0 0 n1 n2 m1 m2 ha hb vpn vpm vx vy vz vs vd rfl rfl rfl hox rfl hoy rfl hoz rfl hsz rfl rfl rfl hwm rfl rfl hok ki.1 (by omega) (by omega) hov hles rfl rfl (hno hov).2.symm (hno hov).1.symm w
    | true =>
      cases hles : subO a b with
      | false => exact ov_110 n m a b _ _ _ _ _ _ _ _ _ _ _ 0 _ 0 _ _ n1 n2 m1 m2 ha hb vpn vpm vx vy vz vs vd rfl rfl rfl hox rfl hoy rfl hoz rfl hsz rfl rfl rfl hwm rfl rfl hok ki.1 (by omega) (by omega) hov hles rfl (hyes hov).1 rfl (hyes hov).2 rfl (hle hles).symm w
      | true => exact ov_111 n m a b _ _ _ _ _ _ _ _ _ _ _ 0 _ 0 _ 0 n1 n2 m1 m2 ha hb vpn vpm vx vy vz vs vd rfl rfl rfl hox rfl hoy rfl hoz rfl hsz rfl rfl rfl hwm rfl rfl hok ki.1 (by omega) (by omega) hov hles rfl (hyes hov).1 rfl (hyes hov).2 w

end Go.Proofs.Ytmlbppljencdnaa
