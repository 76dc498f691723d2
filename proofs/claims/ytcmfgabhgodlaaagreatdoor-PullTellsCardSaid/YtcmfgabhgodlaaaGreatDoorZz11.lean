/- Texts of the seat, joined. -/
import Derived.Test.YtcmfgabhgodlaaaGreatDoorZz10
/- Numbers lifted and lowered by some bits. -/
namespace Go.Proofs.YtcmfgabhgodlaaaGreatDoor
open Go Go.RowKit
set_option linter.unusedSimpArgs false
set_option linter.unusedVariables false

theorem or_parts {x y s : Nat} (hs : s < 64) (hy : y < 2 ^ s) : y ||| x * 2 ^ s % 18446744073709551616 = y + 2 ^ s * (x % 2 ^ (64 - s)) := by
  have e : x * 2 ^ s % 18446744073709551616 = 2 ^ s * (x % 2 ^ (64 - s)) := by
    rw [show (18446744073709551616 : Nat) = 2 ^ s * 2 ^ (64 - s) by rw [← Nat.pow_add, show s + (64 - s) = 64 by omega], Nat.mul_comm x, Nat.mul_mod_mul_left]
  rw [e, Nat.or_comm, ← Nat.two_pow_add_eq_or_of_lt hy, Nat.add_comm]
theorem split_word (x s : Nat) (hs : s < 64) : 2 ^ s * (x % 2 ^ (64 - s)) + x / 2 ^ (64 - s) * 18446744073709551616 = x * 2 ^ s := by
  have e : (18446744073709551616 : Nat) = 2 ^ s * 2 ^ (64 - s) := by rw [← Nat.pow_add, show s + (64 - s) = 64 by omega]
  rw [e, Nat.mul_left_comm, ← Nat.mul_add, Nat.mul_comm (x / _), Nat.add_comm, Nat.div_add_mod, Nat.mul_comm]

theorem shl_or (x y s : Nat) (hx : x < 18446744073709551616) (hy : y < 18446744073709551616) : bits BinOp.or IntKind.u64 (y : Int) (IntKind.u64.wrap ((x : Int) * 2 ^ s)) = ((y ||| x * 2 ^ s % 18446744073709551616 : Nat) : Int) := by
  have e : IntKind.u64.wrap ((x : Int) * 2 ^ s) = ((x * 2 ^ s % 18446744073709551616 : Nat) : Int) := by
    rw [IntKind.wrap_u64]
    have : ((x : Int) * 2 ^ s) = ((x * 2 ^ s : Nat) : Int) := by simp
    rw [this]
    omega
  rw [e]
  exact bits_or_u64_nat _ _ hy (Nat.mod_lt _ (by omega))

def lif1 (a b s : Nat) : Value := .int .u64 (bits BinOp.or IntKind.u64 (Int.fdiv (Int.ofNat a) (2 ^ (64 - s))) (IntKind.u64.wrap (Int.ofNat b * 2 ^ s)))
def LFr (x0 x1 x2 x3 s : Nat) : Res × List Prop := (rt (.agg #[.int .u64 (bits BinOp.or IntKind.u64 0 (IntKind.u64.wrap (Int.ofNat x0 * 2 ^ s))), lif1 x0 x1 s, lif1 x1 x2 s, lif1 x2 x3 s, .int .u64 (Int.fdiv (Int.ofNat x3) (2 ^ (64 - s)))]), [])
theorem lf_0 (x0 x1 x2 x3 : Nat) : runA Tryz.prog 110 #[W4 x0 x1 x2 x3, .int .i64 (Int.ofNat 0)] [] [] = some (LFr x0 x1 x2 x3 0) := by kernel_rfl
theorem lf_1 (x0 x1 x2 x3 : Nat) : runA Tryz.prog 110 #[W4 x0 x1 x2 x3, .int .i64 (Int.ofNat 1)] [] [] = some (LFr x0 x1 x2 x3 1) := by kernel_rfl
theorem lf_2 (x0 x1 x2 x3 : Nat) : runA Tryz.prog 110 #[W4 x0 x1 x2 x3, .int .i64 (Int.ofNat 2)] [] [] = some (LFr x0 x1 x2 x3 2) := by kernel_rfl
theorem lf_3 (x0 x1 x2 x3 : Nat) : runA Tryz.prog 110 #[W4 x0 x1 x2 x3, .int .i64 (Int.ofNat 3)] [] [] = some (LFr x0 x1 x2 x3 3) := by kernel_rfl
theorem lf_4 (x0 x1 x2 x3 : Nat) : runA Tryz.prog 110 #[W4 x0 x1 x2 x3, .int .i64 (Int.ofNat 4)] [] [] = some (LFr x0 x1 x2 x3 4) := by kernel_rfl
theorem lf_5 (x0 x1 x2 x3 : Nat) : runA Tryz.prog 110 #[W4 x0 x1 x2 x3, .int .i64 (Int.ofNat 5)] [] [] = some (LFr x0 x1 x2 x3 5) := by kernel_rfl
theorem lf_6 (x0 x1 x2 x3 : Nat) : runA Tryz.prog 110 #[W4 x0 x1 x2 x3, .int .i64 (Int.ofNat 6)] [] [] = some (LFr x0 x1 x2 x3 6) := by kernel_rfl
theorem lf_7 (x0 x1 x2 x3 : Nat) : runA Tryz.prog 110 #[W4 x0 x1 x2 x3, .int .i64 (Int.ofNat 7)] [] [] = some (LFr x0 x1 x2 x3 7) := by kernel_rfl
theorem lf_8 (x0 x1 x2 x3 : Nat) : runA Tryz.prog 110 #[W4 x0 x1 x2 x3, .int .i64 (Int.ofNat 8)] [] [] = some (LFr x0 x1 x2 x3 8) := by kernel_rfl
theorem lf_9 (x0 x1 x2 x3 : Nat) : runA Tryz.prog 110 #[W4 x0 x1 x2 x3, .int .i64 (Int.ofNat 9)] [] [] = some (LFr x0 x1 x2 x3 9) := by kernel_rfl
theorem lf_10 (x0 x1 x2 x3 : Nat) : runA Tryz.prog 110 #[W4 x0 x1 x2 x3, .int .i64 (Int.ofNat 10)] [] [] = some (LFr x0 x1 x2 x3 10) := by kernel_rfl
theorem lf_11 (x0 x1 x2 x3 : Nat) : runA Tryz.prog 110 #[W4 x0 x1 x2 x3, .int .i64 (Int.ofNat 11)] [] [] = some (LFr x0 x1 x2 x3 11) := by kernel_rfl
theorem lf_12 (x0 x1 x2 x3 : Nat) : runA Tryz.prog 110 #[W4 x0 x1 x2 x3, .int .i64 (Int.ofNat 12)] [] [] = some (LFr x0 x1 x2 x3 12) := by kernel_rfl
theorem lf_13 (x0 x1 x2 x3 : Nat) : runA Tryz.prog 110 #[W4 x0 x1 x2 x3, .int .i64 (Int.ofNat 13)] [] [] = some (LFr x0 x1 x2 x3 13) := by kernel_rfl
theorem lf_14 (x0 x1 x2 x3 : Nat) : runA Tryz.prog 110 #[W4 x0 x1 x2 x3, .int .i64 (Int.ofNat 14)] [] [] = some (LFr x0 x1 x2 x3 14) := by kernel_rfl
theorem lf_15 (x0 x1 x2 x3 : Nat) : runA Tryz.prog 110 #[W4 x0 x1 x2 x3, .int .i64 (Int.ofNat 15)] [] [] = some (LFr x0 x1 x2 x3 15) := by kernel_rfl
theorem lf_16 (x0 x1 x2 x3 : Nat) : runA Tryz.prog 110 #[W4 x0 x1 x2 x3, .int .i64 (Int.ofNat 16)] [] [] = some (LFr x0 x1 x2 x3 16) := by kernel_rfl
theorem lf_17 (x0 x1 x2 x3 : Nat) : runA Tryz.prog 110 #[W4 x0 x1 x2 x3, .int .i64 (Int.ofNat 17)] [] [] = some (LFr x0 x1 x2 x3 17) := by kernel_rfl
theorem lf_18 (x0 x1 x2 x3 : Nat) : runA Tryz.prog 110 #[W4 x0 x1 x2 x3, .int .i64 (Int.ofNat 18)] [] [] = some (LFr x0 x1 x2 x3 18) := by kernel_rfl
theorem lf_19 (x0 x1 x2 x3 : Nat) : runA Tryz.prog 110 #[W4 x0 x1 x2 x3, .int .i64 (Int.ofNat 19)] [] [] = some (LFr x0 x1 x2 x3 19) := by kernel_rfl
theorem lf_20 (x0 x1 x2 x3 : Nat) : runA Tryz.prog 110 #[W4 x0 x1 x2 x3, .int .i64 (Int.ofNat 20)] [] [] = some (LFr x0 x1 x2 x3 20) := by kernel_rfl
theorem lf_21 (x0 x1 x2 x3 : Nat) : runA Tryz.prog 110 #[W4 x0 x1 x2 x3, .int .i64 (Int.ofNat 21)] [] [] = some (LFr x0 x1 x2 x3 21) := by kernel_rfl
theorem lf_22 (x0 x1 x2 x3 : Nat) : runA Tryz.prog 110 #[W4 x0 x1 x2 x3, .int .i64 (Int.ofNat 22)] [] [] = some (LFr x0 x1 x2 x3 22) := by kernel_rfl
theorem lf_23 (x0 x1 x2 x3 : Nat) : runA Tryz.prog 110 #[W4 x0 x1 x2 x3, .int .i64 (Int.ofNat 23)] [] [] = some (LFr x0 x1 x2 x3 23) := by kernel_rfl
theorem lf_24 (x0 x1 x2 x3 : Nat) : runA Tryz.prog 110 #[W4 x0 x1 x2 x3, .int .i64 (Int.ofNat 24)] [] [] = some (LFr x0 x1 x2 x3 24) := by kernel_rfl
theorem lf_25 (x0 x1 x2 x3 : Nat) : runA Tryz.prog 110 #[W4 x0 x1 x2 x3, .int .i64 (Int.ofNat 25)] [] [] = some (LFr x0 x1 x2 x3 25) := by kernel_rfl
theorem lf_26 (x0 x1 x2 x3 : Nat) : runA Tryz.prog 110 #[W4 x0 x1 x2 x3, .int .i64 (Int.ofNat 26)] [] [] = some (LFr x0 x1 x2 x3 26) := by kernel_rfl
theorem lf_27 (x0 x1 x2 x3 : Nat) : runA Tryz.prog 110 #[W4 x0 x1 x2 x3, .int .i64 (Int.ofNat 27)] [] [] = some (LFr x0 x1 x2 x3 27) := by kernel_rfl
theorem lf_28 (x0 x1 x2 x3 : Nat) : runA Tryz.prog 110 #[W4 x0 x1 x2 x3, .int .i64 (Int.ofNat 28)] [] [] = some (LFr x0 x1 x2 x3 28) := by kernel_rfl
theorem lf_29 (x0 x1 x2 x3 : Nat) : runA Tryz.prog 110 #[W4 x0 x1 x2 x3, .int .i64 (Int.ofNat 29)] [] [] = some (LFr x0 x1 x2 x3 29) := by kernel_rfl
theorem lf_30 (x0 x1 x2 x3 : Nat) : runA Tryz.prog 110 #[W4 x0 x1 x2 x3, .int .i64 (Int.ofNat 30)] [] [] = some (LFr x0 x1 x2 x3 30) := by kernel_rfl
theorem lf_31 (x0 x1 x2 x3 : Nat) : runA Tryz.prog 110 #[W4 x0 x1 x2 x3, .int .i64 (Int.ofNat 31)] [] [] = some (LFr x0 x1 x2 x3 31) := by kernel_rfl
theorem lf_32 (x0 x1 x2 x3 : Nat) : runA Tryz.prog 110 #[W4 x0 x1 x2 x3, .int .i64 (Int.ofNat 32)] [] [] = some (LFr x0 x1 x2 x3 32) := by kernel_rfl
theorem lf_33 (x0 x1 x2 x3 : Nat) : runA Tryz.prog 110 #[W4 x0 x1 x2 x3, .int .i64 (Int.ofNat 33)] [] [] = some (LFr x0 x1 x2 x3 33) := by kernel_rfl
theorem lf_34 (x0 x1 x2 x3 : Nat) : runA Tryz.prog 110 #[W4 x0 x1 x2 x3, .int .i64 (Int.ofNat 34)] [] [] = some (LFr x0 x1 x2 x3 34) := by kernel_rfl
theorem lf_35 (x0 x1 x2 x3 : Nat) : runA Tryz.prog 110 #[W4 x0 x1 x2 x3, .int .i64 (Int.ofNat 35)] [] [] = some (LFr x0 x1 x2 x3 35) := by kernel_rfl
theorem lf_36 (x0 x1 x2 x3 : Nat) : runA Tryz.prog 110 #[W4 x0 x1 x2 x3, .int .i64 (Int.ofNat 36)] [] [] = some (LFr x0 x1 x2 x3 36) := by kernel_rfl
theorem lf_37 (x0 x1 x2 x3 : Nat) : runA Tryz.prog 110 #[W4 x0 x1 x2 x3, .int .i64 (Int.ofNat 37)] [] [] = some (LFr x0 x1 x2 x3 37) := by kernel_rfl
theorem lf_38 (x0 x1 x2 x3 : Nat) : runA Tryz.prog 110 #[W4 x0 x1 x2 x3, .int .i64 (Int.ofNat 38)] [] [] = some (LFr x0 x1 x2 x3 38) := by kernel_rfl
theorem lf_39 (x0 x1 x2 x3 : Nat) : runA Tryz.prog 110 #[W4 x0 x1 x2 x3, .int .i64 (Int.ofNat 39)] [] [] = some (LFr x0 x1 x2 x3 39) := by kernel_rfl
theorem lf_40 (x0 x1 x2 x3 : Nat) : runA Tryz.prog 110 #[W4 x0 x1 x2 x3, .int .i64 (Int.ofNat 40)] [] [] = some (LFr x0 x1 x2 x3 40) := by kernel_rfl
theorem lf_41 (x0 x1 x2 x3 : Nat) : runA Tryz.prog 110 #[W4 x0 x1 x2 x3, .int .i64 (Int.ofNat 41)] [] [] = some (LFr x0 x1 x2 x3 41) := by kernel_rfl
theorem lf_42 (x0 x1 x2 x3 : Nat) : runA Tryz.prog 110 #[W4 x0 x1 x2 x3, .int .i64 (Int.ofNat 42)] [] [] = some (LFr x0 x1 x2 x3 42) := by kernel_rfl
theorem lf_43 (x0 x1 x2 x3 : Nat) : runA Tryz.prog 110 #[W4 x0 x1 x2 x3, .int .i64 (Int.ofNat 43)] [] [] = some (LFr x0 x1 x2 x3 43) := by kernel_rfl
theorem lf_44 (x0 x1 x2 x3 : Nat) : runA Tryz.prog 110 #[W4 x0 x1 x2 x3, .int .i64 (Int.ofNat 44)] [] [] = some (LFr x0 x1 x2 x3 44) := by kernel_rfl
theorem lf_45 (x0 x1 x2 x3 : Nat) : runA Tryz.prog 110 #[W4 x0 x1 x2 x3, .int .i64 (Int.ofNat 45)] [] [] = some (LFr x0 x1 x2 x3 45) := by kernel_rfl
theorem lf_46 (x0 x1 x2 x3 : Nat) : runA Tryz.prog 110 #[W4 x0 x1 x2 x3, .int .i64 (Int.ofNat 46)] [] [] = some (LFr x0 x1 x2 x3 46) := by kernel_rfl
theorem lf_47 (x0 x1 x2 x3 : Nat) : runA Tryz.prog 110 #[W4 x0 x1 x2 x3, .int .i64 (Int.ofNat 47)] [] [] = some (LFr x0 x1 x2 x3 47) := by kernel_rfl
theorem lf_48 (x0 x1 x2 x3 : Nat) : runA Tryz.prog 110 #[W4 x0 x1 x2 x3, .int .i64 (Int.ofNat 48)] [] [] = some (LFr x0 x1 x2 x3 48) := by kernel_rfl
theorem lf_49 (x0 x1 x2 x3 : Nat) : runA Tryz.prog 110 #[W4 x0 x1 x2 x3, .int .i64 (Int.ofNat 49)] [] [] = some (LFr x0 x1 x2 x3 49) := by kernel_rfl
theorem lf_50 (x0 x1 x2 x3 : Nat) : runA Tryz.prog 110 #[W4 x0 x1 x2 x3, .int .i64 (Int.ofNat 50)] [] [] = some (LFr x0 x1 x2 x3 50) := by kernel_rfl
theorem lf_51 (x0 x1 x2 x3 : Nat) : runA Tryz.prog 110 #[W4 x0 x1 x2 x3, .int .i64 (Int.ofNat 51)] [] [] = some (LFr x0 x1 x2 x3 51) := by kernel_rfl
theorem lf_52 (x0 x1 x2 x3 : Nat) : runA Tryz.prog 110 #[W4 x0 x1 x2 x3, .int .i64 (Int.ofNat 52)] [] [] = some (LFr x0 x1 x2 x3 52) := by kernel_rfl
theorem lf_53 (x0 x1 x2 x3 : Nat) : runA Tryz.prog 110 #[W4 x0 x1 x2 x3, .int .i64 (Int.ofNat 53)] [] [] = some (LFr x0 x1 x2 x3 53) := by kernel_rfl
theorem lf_54 (x0 x1 x2 x3 : Nat) : runA Tryz.prog 110 #[W4 x0 x1 x2 x3, .int .i64 (Int.ofNat 54)] [] [] = some (LFr x0 x1 x2 x3 54) := by kernel_rfl
theorem lf_55 (x0 x1 x2 x3 : Nat) : runA Tryz.prog 110 #[W4 x0 x1 x2 x3, .int .i64 (Int.ofNat 55)] [] [] = some (LFr x0 x1 x2 x3 55) := by kernel_rfl
theorem lf_56 (x0 x1 x2 x3 : Nat) : runA Tryz.prog 110 #[W4 x0 x1 x2 x3, .int .i64 (Int.ofNat 56)] [] [] = some (LFr x0 x1 x2 x3 56) := by kernel_rfl
theorem lf_57 (x0 x1 x2 x3 : Nat) : runA Tryz.prog 110 #[W4 x0 x1 x2 x3, .int .i64 (Int.ofNat 57)] [] [] = some (LFr x0 x1 x2 x3 57) := by kernel_rfl
theorem lf_58 (x0 x1 x2 x3 : Nat) : runA Tryz.prog 110 #[W4 x0 x1 x2 x3, .int .i64 (Int.ofNat 58)] [] [] = some (LFr x0 x1 x2 x3 58) := by kernel_rfl
theorem lf_59 (x0 x1 x2 x3 : Nat) : runA Tryz.prog 110 #[W4 x0 x1 x2 x3, .int .i64 (Int.ofNat 59)] [] [] = some (LFr x0 x1 x2 x3 59) := by kernel_rfl
theorem lf_60 (x0 x1 x2 x3 : Nat) : runA Tryz.prog 110 #[W4 x0 x1 x2 x3, .int .i64 (Int.ofNat 60)] [] [] = some (LFr x0 x1 x2 x3 60) := by kernel_rfl
theorem lf_61 (x0 x1 x2 x3 : Nat) : runA Tryz.prog 110 #[W4 x0 x1 x2 x3, .int .i64 (Int.ofNat 61)] [] [] = some (LFr x0 x1 x2 x3 61) := by kernel_rfl
theorem lf_62 (x0 x1 x2 x3 : Nat) : runA Tryz.prog 110 #[W4 x0 x1 x2 x3, .int .i64 (Int.ofNat 62)] [] [] = some (LFr x0 x1 x2 x3 62) := by kernel_rfl
theorem lf_63 (x0 x1 x2 x3 : Nat) : runA Tryz.prog 110 #[W4 x0 x1 x2 x3, .int .i64 (Int.ofNat 63)] [] [] = some (LFr x0 x1 x2 x3 63) := by kernel_rfl
theorem lf_raw (x0 x1 x2 x3 s : Nat) (hs : s < 64) : runA Tryz.prog 110 #[W4 x0 x1 x2 x3, .int .i64 (Int.ofNat s)] [] [] = some (LFr x0 x1 x2 x3 s) := by
  have h : s = 0 ∨ s = 1 ∨ s = 2 ∨ s = 3 ∨ s = 4 ∨ s = 5 ∨ s = 6 ∨ s = 7 ∨ s = 8 ∨ s = 9 ∨ s = 10 ∨ s = 11 ∨ s = 12 ∨ s = 13 ∨ s = 14 ∨ s = 15 ∨ s = 16 ∨ s = 17 ∨ s = 18 ∨ s = 19 ∨ s = 20 ∨ s = 21 ∨ s = 22 ∨ s = 23 ∨ s = 24 ∨ s = 25 ∨ s = 26 ∨ s = 27 ∨ s = 28 ∨ s = 29 ∨ s = 30 ∨ s = 31 ∨ s = 32 ∨ s = 33 ∨ s = 34 ∨ s = 35 ∨ s = 36 ∨ s = 37 ∨ s = 38 ∨ s = 39 ∨ s = 40 ∨ s = 41 ∨ s = 42 ∨ s = 43 ∨ s = 44 ∨ s = 45 ∨ s = 46 ∨ s = 47 ∨ s = 48 ∨ s = 49 ∨ s = 50 ∨ s = 51 ∨ s = 52 ∨ s = 53 ∨ s = 54 ∨ s = 55 ∨ s = 56 ∨ s = 57 ∨ s = 58 ∨ s = 59 ∨ s = 60 ∨ s = 61 ∨ s = 62 ∨ s = 63 := by omega
  rcases h with rfl | rfl | rfl | rfl | rfl | rfl | rfl | rfl | rfl | rfl | rfl | rfl | rfl | rfl | rfl | rfl | rfl | rfl | rfl | rfl | rfl | rfl | rfl | rfl | rfl | rfl | rfl | rfl | rfl | rfl | rfl | rfl | rfl | rfl | rfl | rfl | rfl | rfl | rfl | rfl | rfl | rfl | rfl | rfl | rfl | rfl | rfl | rfl | rfl | rfl | rfl | rfl | rfl | rfl | rfl | rfl | rfl | rfl | rfl | rfl | rfl | rfl | rfl | rfl
  · exact lf_0 x0 x1 x2 x3
  · exact lf_1 x0 x1 x2 x3
  · exact lf_2 x0 x1 x2 x3
  · exact lf_3 x0 x1 x2 x3
  · exact lf_4 x0 x1 x2 x3
  · exact lf_5 x0 x1 x2 x3
  · exact lf_6 x0 x1 x2 x3
  · exact lf_7 x0 x1 x2 x3
  · exact lf_8 x0 x1 x2 x3
  · exact lf_9 x0 x1 x2 x3
  · exact lf_10 x0 x1 x2 x3
  · exact lf_11 x0 x1 x2 x3
  · exact lf_12 x0 x1 x2 x3
  · exact lf_13 x0 x1 x2 x3
  · exact lf_14 x0 x1 x2 x3
  · exact lf_15 x0 x1 x2 x3
  · exact lf_16 x0 x1 x2 x3
  · exact lf_17 x0 x1 x2 x3
  · exact lf_18 x0 x1 x2 x3
  · exact lf_19 x0 x1 x2 x3
  · exact lf_20 x0 x1 x2 x3
  · exact lf_21 x0 x1 x2 x3
  · exact lf_22 x0 x1 x2 x3
  · exact lf_23 x0 x1 x2 x3
  · exact lf_24 x0 x1 x2 x3
  · exact lf_25 x0 x1 x2 x3
  · exact lf_26 x0 x1 x2 x3
  · exact lf_27 x0 x1 x2 x3
  · exact lf_28 x0 x1 x2 x3
  · exact lf_29 x0 x1 x2 x3
  · exact lf_30 x0 x1 x2 x3
  · exact lf_31 x0 x1 x2 x3
  · exact lf_32 x0 x1 x2 x3
  · exact lf_33 x0 x1 x2 x3
  · exact lf_34 x0 x1 x2 x3
  · exact lf_35 x0 x1 x2 x3
  · exact lf_36 x0 x1 x2 x3
  · exact lf_37 x0 x1 x2 x3
  · exact lf_38 x0 x1 x2 x3
  · exact lf_39 x0 x1 x2 x3
  · exact lf_40 x0 x1 x2 x3
  · exact lf_41 x0 x1 x2 x3
  · exact lf_42 x0 x1 x2 x3
  · exact lf_43 x0 x1 x2 x3
  · exact lf_44 x0 x1 x2 x3
  · exact lf_45 x0 x1 x2 x3
  · exact lf_46 x0 x1 x2 x3
  · exact lf_47 x0 x1 x2 x3
  · exact lf_48 x0 x1 x2 x3
  · exact lf_49 x0 x1 x2 x3
  · exact lf_50 x0 x1 x2 x3
  · exact lf_51 x0 x1 x2 x3
  · exact lf_52 x0 x1 x2 x3
  · exact lf_53 x0 x1 x2 x3
  · exact lf_54 x0 x1 x2 x3
  · exact lf_55 x0 x1 x2 x3
  · exact lf_56 x0 x1 x2 x3
  · exact lf_57 x0 x1 x2 x3
  · exact lf_58 x0 x1 x2 x3
  · exact lf_59 x0 x1 x2 x3
  · exact lf_60 x0 x1 x2 x3
  · exact lf_61 x0 x1 x2 x3
  · exact lf_62 x0 x1 x2 x3
  · exact lf_63 x0 x1 x2 x3

end Go.Proofs.YtcmfgabhgodlaaaGreatDoor
