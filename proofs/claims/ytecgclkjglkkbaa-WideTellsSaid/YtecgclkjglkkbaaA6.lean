/- The contracts of Mul64 and of wordProduct, for every input. -/
import Derived.Test.YtecgclkjglkkbaaA5
namespace Go.Proofs.Ytecgclkjglkkbaa
open Go Go.RowKit Go.Shelf Go.Lib
set_option linter.unusedSimpArgs false
set_option linter.unusedVariables false

attribute [local go_sem] Oper.semAt_some

theorem maskN (a : Nat) (ha : a < 18446744073709551616) : bits .and .u64 (a : Int) 4294967295 = ((a % 4294967296 : Nat) : Int) := by
  have h := bits_and_u64_nat a 4294967295 ha (by omega)
  have e : a &&& 4294967295 = a % 4294967296 := Nat.and_two_pow_sub_one_eq_mod a 32
  rw [e] at h
  exact h
theorem divN (a : Nat) : (a : Int) / 4294967296 = ((a / 4294967296 : Nat) : Int) := by omega
theorem mulN (a b : Nat) : (a : Int) * (b : Int) = ((a * b : Nat) : Int) := (Int.natCast_mul a b).symm
theorem addN (a b : Nat) : (a : Int) + (b : Int) = ((a + b : Nat) : Int) := (Int.natCast_add a b).symm
theorem wrapN (a : Nat) (ha : a < 18446744073709551616) : IntKind.u64.wrap (a : Int) = (a : Int) := by rw [IntKind.wrap_u64]; omega
theorem wrapM (a : Nat) : IntKind.u64.wrap (a : Int) = ((a % 18446744073709551616 : Nat) : Int) := by rw [IntKind.wrap_u64]; omega

set_option maxHeartbeats 1000000 in
theorem mul64_x (x y : Nat) (hx : x < 18446744073709551616) (hy : y < 18446744073709551616) (w : World) :
    Calls Try.prog 93 #[.int .u64 x, .int .u64 y] w fun e w' => e = .returned (.tuple #[.int .u64 ((x * y / 18446744073709551616 : Nat) : Int), .int .u64 ((x * y % 18446744073709551616 : Nat) : Int)]) ∧ w = w' := by
  obtain ⟨bd, bt, bw, hhi⟩ := Lib.mul64_hi x y hx hy
  have ba := Lib.half_mul_le (a := x / 4294967296) (b := y / 4294967296) (by omega) (by omega)
  have bb := Lib.half_mul_le (a := x / 4294967296) (b := y % 4294967296) (by omega) (by omega)
  have bc := Lib.half_mul_le (a := x % 4294967296) (b := y / 4294967296) (by omega) (by omega)
  have ba' : x / 4294967296 * (y / 4294967296) < 18446744073709551616 := by omega
  have bb' : x / 4294967296 * (y % 4294967296) < 18446744073709551616 := by omega
  have bc' : x % 4294967296 * (y / 4294967296) < 18446744073709551616 := by omega
  have bh1 : x / 4294967296 * (y / 4294967296) + (x / 4294967296 * (y % 4294967296) + x % 4294967296 * (y % 4294967296) / 4294967296) / 4294967296 < 18446744073709551616 := by omega
  have bh : x / 4294967296 * (y / 4294967296) + (x / 4294967296 * (y % 4294967296) + x % 4294967296 * (y % 4294967296) / 4294967296) / 4294967296 + ((x / 4294967296 * (y % 4294967296) + x % 4294967296 * (y % 4294967296) / 4294967296) % 4294967296 + x % 4294967296 * (y / 4294967296)) / 4294967296 < 18446744073709551616 := by omega
  go_enter Try.func93, Try.ntmps93
  go_wp2
  simp only [maskN x hx, maskN y hy, divN, mulN, addN, wrapN _ bd, wrapN _ bb', wrapN _ bt, maskN _ bt, wrapN _ bc', wrapN _ bw, wrapN _ ba', wrapN _ bh1, wrapN _ bh, wrapM (x * y)]
  rw [hhi]
  go_ret2
  exact ⟨rfl, rfl⟩

theorem sq_le {x y : Nat} (hx : x < 18446744073709551616) (hy : y < 18446744073709551616) : x * y ≤ 340282366920938463426481119284349108225 := Nat.mul_le_mul (Nat.le_of_lt_succ hx) (Nat.le_of_lt_succ hy)

set_option maxHeartbeats 1000000 in
theorem wordProduct_x (x y m c : Nat) (hx : x < 18446744073709551616) (hy : y < 18446744073709551616) (hm : m < 18446744073709551616) (hc : c < 18446744073709551616) (w : World) :
    Calls Try.prog 83 #[.int .u64 x, .int .u64 y, .int .u64 m, .int .u64 c] w fun e w' => e = .returned (.tuple #[.int .u64 (((x * y + m + c) % 18446744073709551616 : Nat) : Int), .int .u64 (((x * y + m + c) / 18446744073709551616 : Nat) : Int)]) ∧ w = w' := by
  have hp := sq_le hx hy
  have hmul := fun w => mul64_x x y hx hy w
  generalize x * y = p at *
  obtain ⟨h, hh⟩ : ∃ h, p / 18446744073709551616 = h := ⟨_, rfl⟩
  obtain ⟨l, hl⟩ : ∃ l, p % 18446744073709551616 = l := ⟨_, rfl⟩
  rw [hh, hl] at hmul
  obtain ⟨s1, c1, hs1, e1, e2⟩ : ∃ s c : Nat, (∀ w, (callFunc 47 #[.int .u64 l, .int .u64 m, .int .u64 0]).run Try.prog w = .ok (.value (.tuple #[.int .u64 s, .int .u64 c])) w) ∧ s = (l + m + 0) % 18446744073709551616 ∧ c = (l + m + 0) / 18446744073709551616 := ⟨_, _, call_add64 l m 0 (by omega), rfl, rfl⟩
  obtain ⟨s2, c2, hs2, e3, e4⟩ : ∃ s d : Nat, (∀ w, (callFunc 47 #[.int .u64 s1, .int .u64 c, .int .u64 0]).run Try.prog w = .ok (.value (.tuple #[.int .u64 s, .int .u64 d])) w) ∧ s = (s1 + c + 0) % 18446744073709551616 ∧ d = (s1 + c + 0) / 18446744073709551616 := ⟨_, _, call_add64 s1 c 0 (by omega), rfl, rfl⟩
  have f1 : (p + m + c) % 18446744073709551616 = s2 := by omega
  have f2 : (p + m + c) / 18446744073709551616 = h + c1 + c2 := by omega
  rw [f1, f2]
  have b1 : h + c1 < 18446744073709551616 := by omega
  have b2 : h + c1 + c2 < 18446744073709551616 := by omega
  have B1 : ((h : Int) + c1) ≤ 18446744073709551615 := by omega
  have B2 : ((h : Int) + c1 + c2) ≤ 18446744073709551615 := by omega
  have w1 : IntKind.u64.wrap ((h : Int) + c1) = (h : Int) + c1 := by rw [IntKind.wrap_u64]; omega
  have w2 : IntKind.u64.wrap ((h : Int) + c1 + c2) = (h : Int) + c1 + c2 := by rw [IntKind.wrap_u64]; omega
  have W1 := Lib.hid w1
  have W2 := Lib.hid w2
  clear hh hl e1 e2 e3 e4 f1 f2 w1 w2
  go_enter Try.func83, Try.ntmps83
  go_wp2_with (go_at_call 93; refine (hmul _).mono ?_; rintro e w' ⟨rfl, rfl⟩)
  rw [show ((h + c1 + c2 : Nat) : Int) = (h : Int) + c1 + c2 by omega]
  go_ret2
  exact ⟨rfl, rfl⟩

end Go.Proofs.Ytecgclkjglkkbaa
