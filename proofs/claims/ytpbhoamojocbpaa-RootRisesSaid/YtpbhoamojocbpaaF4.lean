/- The product of two wide numbers. -/
import Derived.Test.YtpbhoamojocbpaaF3
import Derived.Test.YtpbhoamojocbpaaRows
import Derived.WalkKit
import Derived.Outline
import Derived.RangeFuncNested
import Derived.RangeFuncBound
import Derived.RangeFuncCalls
import Derived.RangeFuncLeaves
import Derived.RangeFuncBox
import Derived.Shelf.Abstract
import Derived.Shelf.RegionOpen
import Derived.OwnWalkIn
import Derived.TacticsInMore
import Derived.LoopNIn
import Derived.LoopIn
import Derived.Maps.AppendAt
import Derived.Lib.Hide
import Derived.Lib.Mul64
import Derived.Laws.Bits64b
import Derived.Laws.Externs
namespace Go.Proofs.Ytpbhoamojocbpaa
open Go Go.RowKit Go.Shelf Go.Lib
set_option linter.unusedSimpArgs false
set_option linter.unusedVariables false

attribute [local go_sem] Oper.semAt_some

theorem maskN (a : Nat) (ha : a < 18446744073709551616) : bits .and .u64 (a : Int) 4294967295 = ((a % 4294967296 : Nat) : Int) := by
  have h := bits_and_u64_nat a 4294967295 ha (by omega)
  have e : a &&& 4294967295 = a % 4294967296 := Nat.and_two_pow_sub_one_eq_mod a 32
  rw [e] at h
  exact h
theorem divN (a : Nat) : (a : Int) / 4294967296 = ((a / 4294967296 : Nat) : Int) := by omega
theorem mulN (a b : Nat) : (a : Int) * (b : Int) = ((a * b : Nat) : Int) := (Int.natCast_mul a b).symm
theorem addN (a b : Nat) : (a : Int) + (b : Int) = ((a + b : Nat) : Int) := (Int.natCast_add a b).symm
theorem wrapN (a : Nat) (ha : a < 18446744073709551616) : IntKind.u64.wrap (a : Int) = (a : Int) := by rw [IntKind.wrap_u64]; omega
theorem wrapM (a : Nat) : IntKind.u64.wrap (a : Int) = ((a % 18446744073709551616 : Nat) : Int) := by rw [IntKind.wrap_u64]; omega

set_option maxHeartbeats 1000000 in
theorem mul64_x (x y : Nat) (hx : x < 18446744073709551616) (hy : y < 18446744073709551616) (w : World) :
    Calls Try.prog 142 #[.int .u64 x, .int .u64 y] w fun e w' => e = .returned (.tuple #[.int .u64 ((x * y / 18446744073709551616 : Nat) : Int), .int .u64 ((x * y % 18446744073709551616 : Nat) : Int)]) ∧ w = w' := by
  obtain ⟨bd, bt, bw, hhi⟩ := Lib.mul64_hi x y hx hy
  have ba := Lib.half_mul_le (a := x / 4294967296) (b := y / 4294967296) (by omega) (by omega)
  have bb := Lib.half_mul_le (a := x / 4294967296) (b := y % 4294967296) (by omega) (by omega)
  have bc := Lib.half_mul_le (a := x % 4294967296) (b := y / 4294967296) (by omega) (by omega)
  have ba' : x / 4294967296 * (y / 4294967296) < 18446744073709551616 := by omega
  have bb' : x / 4294967296 * (y % 4294967296) < 18446744073709551616 := by omega
  have bc' : x % 4294967296 * (y / 4294967296) < 18446744073709551616 := by omega
  have bh1 : x / 4294967296 * (y / 4294967296) + (x / 4294967296 * (y % 4294967296) + x % 4294967296 * (y % 4294967296) / 4294967296) / 4294967296 < 18446744073709551616 := by omega
  have bh : x / 4294967296 * (y / 4294967296) + (x / 4294967296 * (y % 4294967296) + x % 4294967296 * (y % 4294967296) / 4294967296) / 4294967296 + ((x / 4294967296 * (y % 4294967296) + x % 4294967296 * (y % 4294967296) / 4294967296) % 4294967296 + x % 4294967296 * (y / 4294967296)) / 4294967296 < 18446744073709551616 := by omega
  go_enter Try.func142, Try.ntmps142
  go_wp2
  simp only [maskN x hx, maskN y hy, divN, mulN, addN, wrapN _ bd, wrapN _ bb', wrapN _ bt, maskN _ bt, wrapN _ bc', wrapN _ bw, wrapN _ ba', wrapN _ bh1, wrapN _ bh, wrapM (x * y)]
  rw [hhi]
  go_ret2
  exact ⟨rfl, rfl⟩

theorem sq_le {x y : Nat} (hx : x < 18446744073709551616) (hy : y < 18446744073709551616) : x * y ≤ 340282366920938463426481119284349108225 := Nat.mul_le_mul (Nat.le_of_lt_succ hx) (Nat.le_of_lt_succ hy)

theorem mul64_c {x y : Nat} (hx : x < 18446744073709551616) (hy : y < 18446744073709551616) : PureX Try.prog 142 #[u x, u y] (rt (tp [u (x * y / 18446744073709551616), u (x * y % 18446744073709551616)])) := by
  intro w
  refine (mul64_x x y hx hy w).mono ?_
  rintro e w' ⟨rfl, rfl⟩
  exact ⟨rfl, Below.refl _ _⟩

theorem wordp_raw (v w more carry lo hi : Nat) : runA Try.prog 131 #[u v, u w, u more, u carry] [] [(142, rt (tp [u hi, u lo]))] =
    some (rt (tp [u (((lo + more + 0) % 18446744073709551616 + carry + 0) % 18446744073709551616), .int .u64 (IntKind.u64.wrap (IntKind.u64.wrap (Int.ofNat hi + Int.ofNat ((lo + more + 0) / 18446744073709551616)) + Int.ofNat (((lo + more + 0) % 18446744073709551616 + carry + 0) / 18446744073709551616)))]), [PureX Try.prog 142 #[u v, u w] (rt (tp [u hi, u lo]))]) := by kernel_rfl
theorem wordp_c {v w m c : Nat} (hv : v < 18446744073709551616) (hw : w < 18446744073709551616) (hm : m < 18446744073709551616) (hc : c < 18446744073709551616) :
    ∃ l h, l < 18446744073709551616 ∧ h < 18446744073709551616 ∧ l + 18446744073709551616 * h = v * w + m + c ∧ PureX Try.prog 131 #[u v, u w, u m, u c] (rt (tp [u l, u h])) := by
  have hr := runA_pure mix (wordp_raw v w m c (v * w % 18446744073709551616) (v * w / 18446744073709551616)) ⟨mul64_c hv hw, trivial⟩ rfl rfl
  have hp := sq_le hv hw
  generalize v * w = p at hr hp ⊢
  refine ⟨(p + m + c) % 18446744073709551616, (p + m + c) / 18446744073709551616, by omega, by omega, by omega, ?_⟩
  have e1 : ((p % 18446744073709551616 + m + 0) % 18446744073709551616 + c + 0) % 18446744073709551616 = (p + m + c) % 18446744073709551616 := by omega
  have e2 : IntKind.u64.wrap (IntKind.u64.wrap (Int.ofNat (p / 18446744073709551616) + Int.ofNat ((p % 18446744073709551616 + m + 0) / 18446744073709551616)) + Int.ofNat (((p % 18446744073709551616 + m + 0) % 18446744073709551616 + c + 0) / 18446744073709551616)) = Int.ofNat ((p + m + c) / 18446744073709551616) := by
    rw [IntKind.wrap_u64, IntKind.wrap_u64]
    simp only [Int.ofNat_eq_natCast]
    omega
  rw [e1, e2] at hr
  exact hr

theorem product_raw (a0 a1 a2 a3 b0 b1 b2 b3 l0 h0 l1 h1 l2 h2 l3 h3 l4 h4 l5 h5 l6 h6 l7 h7 l8 h8 l9 h9 l10 h10 l11 h11 l12 h12 l13 h13 l14 h14 l15 h15 : Nat) : runA Try.prog 107 #[W4 a0 a1 a2 a3, W4 b0 b1 b2 b3] [] [(131, rt (tp [u l0, u h0])), (131, rt (tp [u l1, u h1])), (131, rt (tp [u l2, u h2])), (131, rt (tp [u l3, u h3])), (131, rt (tp [u l4, u h4])), (131, rt (tp [u l5, u h5])), (131, rt (tp [u l6, u h6])), (131, rt (tp [u l7, u h7])), (131, rt (tp [u l8, u h8])), (131, rt (tp [u l9, u h9])), (131, rt (tp [u l10, u h10])), (131, rt (tp [u l11, u h11])), (131, rt (tp [u l12, u h12])), (131, rt (tp [u l13, u h13])), (131, rt (tp [u l14, u h14])), (131, rt (tp [u l15, u h15]))] =
    some (rt (tp [W4 l0 l4 l8 l12, W4 l13 l14 l15 h15]), [PureX Try.prog 131 #[u a0, u b0, u 0, u 0] (rt (tp [u l0, u h0])), PureX Try.prog 131 #[u a0, u b1, u 0, u h0] (rt (tp [u l1, u h1])), PureX Try.prog 131 #[u a0, u b2, u 0, u h1] (rt (tp [u l2, u h2])), PureX Try.prog 131 #[u a0, u b3, u 0, u h2] (rt (tp [u l3, u h3])), PureX Try.prog 131 #[u a1, u b0, u l1, u 0] (rt (tp [u l4, u h4])), PureX Try.prog 131 #[u a1, u b1, u l2, u h4] (rt (tp [u l5, u h5])), PureX Try.prog 131 #[u a1, u b2, u l3, u h5] (rt (tp [u l6, u h6])), PureX Try.prog 131 #[u a1, u b3, u h3, u h6] (rt (tp [u l7, u h7])), PureX Try.prog 131 #[u a2, u b0, u l5, u 0] (rt (tp [u l8, u h8])), PureX Try.prog 131 #[u a2, u b1, u l6, u h8] (rt (tp [u l9, u h9])), PureX Try.prog 131 #[u a2, u b2, u l7, u h9] (rt (tp [u l10, u h10])), PureX Try.prog 131 #[u a2, u b3, u h7, u h10] (rt (tp [u l11, u h11])), PureX Try.prog 131 #[u a3, u b0, u l9, u 0] (rt (tp [u l12, u h12])), PureX Try.prog 131 #[u a3, u b1, u l10, u h12] (rt (tp [u l13, u h13])), PureX Try.prog 131 #[u a3, u b2, u l11, u h13] (rt (tp [u l14, u h14])), PureX Try.prog 131 #[u a3, u b3, u h11, u h14] (rt (tp [u l15, u h15]))]) := by kernel_rfl

theorem row_sum {x0 x1 x2 x3 l0 l1 l2 l3 h0 h1 h2 h3 p0 p1 p2 p3 : Nat}
    (e0 : l0 + 18446744073709551616 * h0 = p0 + x0 + 0) (e1 : l1 + 18446744073709551616 * h1 = p1 + x1 + h0) (e2 : l2 + 18446744073709551616 * h2 = p2 + x2 + h1) (e3 : l3 + 18446744073709551616 * h3 = p3 + x3 + h2) :
    l0 + l1 * 18446744073709551616 + l2 * (18446744073709551616 * 18446744073709551616) + l3 * (18446744073709551616 * 18446744073709551616 * 18446744073709551616) + h3 * (18446744073709551616 * 18446744073709551616 * 18446744073709551616 * 18446744073709551616) =
    x0 + x1 * 18446744073709551616 + x2 * (18446744073709551616 * 18446744073709551616) + x3 * (18446744073709551616 * 18446744073709551616 * 18446744073709551616) + (p0 + p1 * 18446744073709551616 + p2 * (18446744073709551616 * 18446744073709551616) + p3 * (18446744073709551616 * 18446744073709551616 * 18446744073709551616)) := by
  omega
theorem four_rows (K q0 q1 q2 q3 c0 t0 t1 t2 t3 c1 v0 v1 v2 v3 c2 w0 w1 w2 w3 c3 y0 y1 y2 y3 : Nat)
    (s0 : q0 + q1 * K + q2 * (K * K) + q3 * (K * K * K) + c0 * (K * K * K * K) = y0)
    (s1 : t0 + t1 * K + t2 * (K * K) + t3 * (K * K * K) + c1 * (K * K * K * K) = q1 + q2 * K + q3 * (K * K) + c0 * (K * K * K) + y1)
    (s2 : v0 + v1 * K + v2 * (K * K) + v3 * (K * K * K) + c2 * (K * K * K * K) = t1 + t2 * K + t3 * (K * K) + c1 * (K * K * K) + y2)
    (s3 : w0 + w1 * K + w2 * (K * K) + w3 * (K * K * K) + c3 * (K * K * K * K) = v1 + v2 * K + v3 * (K * K) + c2 * (K * K * K) + y3) :
    q0 + t0 * K + v0 * (K * K) + w0 * (K * K * K) + (w1 + w2 * K + w3 * (K * K) + c3 * (K * K * K)) * (K * K * K * K) = y0 + y1 * K + y2 * (K * K) + y3 * (K * K * K) := by
  have e1 := congrArg (· * K) s1
  have e2 := congrArg (· * (K * K)) s2
  have e3 := congrArg (· * (K * K * K)) s3
  subst s0
  clear s1 s2 s3
  simp only [Nat.add_mul, Nat.mul_add, Nat.mul_assoc, Nat.mul_comm, Nat.mul_left_comm] at e1 e2 e3 ⊢
  omega

theorem product_c {a0 a1 a2 a3 b0 b1 b2 b3 : Nat} (ha0 : a0 < 18446744073709551616) (ha1 : a1 < 18446744073709551616) (ha2 : a2 < 18446744073709551616) (ha3 : a3 < 18446744073709551616) (hb0 : b0 < 18446744073709551616) (hb1 : b1 < 18446744073709551616) (hb2 : b2 < 18446744073709551616) (hb3 : b3 < 18446744073709551616) :
    PureX Try.prog 107 #[W4 a0 a1 a2 a3, W4 b0 b1 b2 b3] (rt (tp [wv (vl a0 a1 a2 a3 * vl b0 b1 b2 b3), wv (vl a0 a1 a2 a3 * vl b0 b1 b2 b3 / Mw)])) := by
  have z : (0 : Nat) < 18446744073709551616 := by decide
  obtain ⟨l0, h0, Hl0, Hh0, e0, q0⟩ := wordp_c ha0 hb0 z z
  obtain ⟨l1, h1, Hl1, Hh1, e1, q1⟩ := wordp_c ha0 hb1 z Hh0
  obtain ⟨l2, h2, Hl2, Hh2, e2, q2⟩ := wordp_c ha0 hb2 z Hh1
  obtain ⟨l3, h3, Hl3, Hh3, e3, q3⟩ := wordp_c ha0 hb3 z Hh2
  obtain ⟨l4, h4, Hl4, Hh4, e4, q4⟩ := wordp_c ha1 hb0 Hl1 z
  obtain ⟨l5, h5, Hl5, Hh5, e5, q5⟩ := wordp_c ha1 hb1 Hl2 Hh4
  obtain ⟨l6, h6, Hl6, Hh6, e6, q6⟩ := wordp_c ha1 hb2 Hl3 Hh5
  obtain ⟨l7, h7, Hl7, Hh7, e7, q7⟩ := wordp_c ha1 hb3 Hh3 Hh6
  obtain ⟨l8, h8, Hl8, Hh8, e8, q8⟩ := wordp_c ha2 hb0 Hl5 z
  obtain ⟨l9, h9, Hl9, Hh9, e9, q9⟩ := wordp_c ha2 hb1 Hl6 Hh8
  obtain ⟨l10, h10, Hl10, Hh10, e10, q10⟩ := wordp_c ha2 hb2 Hl7 Hh9
  obtain ⟨l11, h11, Hl11, Hh11, e11, q11⟩ := wordp_c ha2 hb3 Hh7 Hh10
  obtain ⟨l12, h12, Hl12, Hh12, e12, q12⟩ := wordp_c ha3 hb0 Hl9 z
  obtain ⟨l13, h13, Hl13, Hh13, e13, q13⟩ := wordp_c ha3 hb1 Hl10 Hh12
  obtain ⟨l14, h14, Hl14, Hh14, e14, q14⟩ := wordp_c ha3 hb2 Hl11 Hh13
  obtain ⟨l15, h15, Hl15, Hh15, e15, q15⟩ := wordp_c ha3 hb3 Hh11 Hh14
  have hr := runA_pure mix (product_raw a0 a1 a2 a3 b0 b1 b2 b3 l0 h0 l1 h1 l2 h2 l3 h3 l4 h4 l5 h5 l6 h6 l7 h7 l8 h8 l9 h9 l10 h10 l11 h11 l12 h12 l13 h13 l14 h14 l15 h15) ⟨q0, q1, q2, q3, q4, q5, q6, q7, q8, q9, q10, q11, q12, q13, q14, q15, trivial⟩ rfl rfl
  clear q0 q1 q2 q3 q4 q5 q6 q7 q8 q9 q10 q11 q12 q13 q14 q15
  have s0 := row_sum (x0 := 0) (x1 := 0) (x2 := 0) (x3 := 0) (p0 := a0 * b0) (p1 := a0 * b1) (p2 := a0 * b2) (p3 := a0 * b3) e0 e1 e2 e3
  have s1 := row_sum (x0 := l1) (x1 := l2) (x2 := l3) (x3 := h3) (p0 := a1 * b0) (p1 := a1 * b1) (p2 := a1 * b2) (p3 := a1 * b3) e4 e5 e6 e7
  have s2 := row_sum (x0 := l5) (x1 := l6) (x2 := l7) (x3 := h7) (p0 := a2 * b0) (p1 := a2 * b1) (p2 := a2 * b2) (p3 := a2 * b3) e8 e9 e10 e11
  have s3 := row_sum (x0 := l9) (x1 := l10) (x2 := l11) (x3 := h11) (p0 := a3 * b0) (p1 := a3 * b1) (p2 := a3 * b2) (p3 := a3 * b3) e12 e13 e14 e15
  clear e0 e1 e2 e3 e4 e5 e6 e7 e8 e9 e10 e11 e12 e13 e14 e15
  simp only [Nat.zero_mul, Nat.zero_add] at s0
  have key := four_rows 18446744073709551616 l0 l1 l2 l3 h3 l4 l5 l6 l7 h7 l8 l9 l10 l11 h11 l12 l13 l14 l15 h15 _ _ _ _ s0 s1 s2 s3
  have hv : vl a0 a1 a2 a3 * vl b0 b1 b2 b3 = vl l0 l4 l8 l12 + Mw * vl l13 l14 l15 h15 := by
    clear s0 s1 s2 s3 hr
    have e1 : vl l0 l4 l8 l12 + Mw * vl l13 l14 l15 h15 = l0 + l4 * 18446744073709551616 + l8 * (18446744073709551616 * 18446744073709551616) + l12 * (18446744073709551616 * 18446744073709551616 * 18446744073709551616) + (l13 + l14 * 18446744073709551616 + l15 * (18446744073709551616 * 18446744073709551616) + h15 * (18446744073709551616 * 18446744073709551616 * 18446744073709551616)) * (18446744073709551616 * 18446744073709551616 * 18446744073709551616 * 18446744073709551616) := by
      unfold vl
      simp only [Mw]
      omega
    rw [e1, key]
    unfold vl
    simp only [Nat.mul_add, Nat.add_mul, Nat.mul_assoc, Nat.mul_comm, Nat.mul_left_comm]
    omega
  rw [hv, Nat.mul_comm Mw, Nat.add_mul_div_right _ _ (by decide), Nat.div_eq_of_lt (vl_lt Hl0 Hl4 Hl8 Hl12), Nat.zero_add, wv_vl Hl13 Hl14 Hl15 Hh15]
  rw [wv_mod (x := vl l0 l4 l8 l12 + vl l13 l14 l15 h15 * Mw) (y := vl l0 l4 l8 l12) (by rw [Nat.add_mul_mod_self_right]), wv_vl Hl0 Hl4 Hl8 Hl12]
  exact hr
theorem product_x (x y : Nat) : PureX Try.prog 107 #[wv x, wv y] (rt (tp [wv (x % Mw * (y % Mw)), wv (x % Mw * (y % Mw) / Mw)])) := by
  obtain ⟨a0, a1, a2, a3, ha0, ha1, ha2, ha3, ea, ea2, _⟩ := vl_wv x
  obtain ⟨b0, b1, b2, b3, hb0, hb1, hb2, hb3, eb, eb2, _⟩ := vl_wv y
  rw [ea2, eb2, ← ea, ← eb]
  exact product_c ha0 ha1 ha2 ha3 hb0 hb1 hb2 hb3

end Go.Proofs.Ytpbhoamojocbpaa
