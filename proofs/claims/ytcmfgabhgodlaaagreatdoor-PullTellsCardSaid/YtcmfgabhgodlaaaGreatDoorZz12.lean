/- Texts of the seat, joined. -/
import Derived.Test.YtcmfgabhgodlaaaGreatDoorZz10
/- Numbers lifted and lowered by some bits. -/
namespace Go.Proofs.YtcmfgabhgodlaaaGreatDoor
open Go Go.RowKit
set_option linter.unusedSimpArgs false
set_option linter.unusedVariables false

def low1 (a b s : Nat) : Value := .int .u64 (bits BinOp.or IntKind.u64 (Int.fdiv (Int.ofNat a) (2 ^ s)) (IntKind.u64.wrap (Int.ofNat b * 2 ^ (64 - s))))
def LWr (a0 a1 a2 a3 a4 s : Nat) : Res × List Prop := (rt (.agg #[low1 a0 a1 s, low1 a1 a2 s, low1 a2 a3 s, low1 a3 a4 s]), [])
theorem lw_0 (a0 a1 a2 a3 a4 : Nat) : runA Tryz.prog 113 #[.agg #[u a0, u a1, u a2, u a3, u a4], .int .i64 (Int.ofNat 0)] [] [] = some (LWr a0 a1 a2 a3 a4 0) := by kernel_rfl
theorem lw_1 (a0 a1 a2 a3 a4 : Nat) : runA Tryz.prog 113 #[.agg #[u a0, u a1, u a2, u a3, u a4], .int .i64 (Int.ofNat 1)] [] [] = some (LWr a0 a1 a2 a3 a4 1) := by kernel_rfl
theorem lw_2 (a0 a1 a2 a3 a4 : Nat) : runA Tryz.prog 113 #[.agg #[u a0, u a1, u a2, u a3, u a4], .int .i64 (Int.ofNat 2)] [] [] = some (LWr a0 a1 a2 a3 a4 2) := by kernel_rfl
theorem lw_3 (a0 a1 a2 a3 a4 : Nat) : runA Tryz.prog 113 #[.agg #[u a0, u a1, u a2, u a3, u a4], .int .i64 (Int.ofNat 3)] [] [] = some (LWr a0 a1 a2 a3 a4 3) := by kernel_rfl
theorem lw_4 (a0 a1 a2 a3 a4 : Nat) : runA Tryz.prog 113 #[.agg #[u a0, u a1, u a2, u a3, u a4], .int .i64 (Int.ofNat 4)] [] [] = some (LWr a0 a1 a2 a3 a4 4) := by kernel_rfl
theorem lw_5 (a0 a1 a2 a3 a4 : Nat) : runA Tryz.prog 113 #[.agg #[u a0, u a1, u a2, u a3, u a4], .int .i64 (Int.ofNat 5)] [] [] = some (LWr a0 a1 a2 a3 a4 5) := by kernel_rfl
theorem lw_6 (a0 a1 a2 a3 a4 : Nat) : runA Tryz.prog 113 #[.agg #[u a0, u a1, u a2, u a3, u a4], .int .i64 (Int.ofNat 6)] [] [] = some (LWr a0 a1 a2 a3 a4 6) := by kernel_rfl
theorem lw_7 (a0 a1 a2 a3 a4 : Nat) : runA Tryz.prog 113 #[.agg #[u a0, u a1, u a2, u a3, u a4], .int .i64 (Int.ofNat 7)] [] [] = some (LWr a0 a1 a2 a3 a4 7) := by kernel_rfl
theorem lw_8 (a0 a1 a2 a3 a4 : Nat) : runA Tryz.prog 113 #[.agg #[u a0, u a1, u a2, u a3, u a4], .int .i64 (Int.ofNat 8)] [] [] = some (LWr a0 a1 a2 a3 a4 8) := by kernel_rfl
theorem lw_9 (a0 a1 a2 a3 a4 : Nat) : runA Tryz.prog 113 #[.agg #[u a0, u a1, u a2, u a3, u a4], .int .i64 (Int.ofNat 9)] [] [] = some (LWr a0 a1 a2 a3 a4 9) := by kernel_rfl
theorem lw_10 (a0 a1 a2 a3 a4 : Nat) : runA Tryz.prog 113 #[.agg #[u a0, u a1, u a2, u a3, u a4], .int .i64 (Int.ofNat 10)] [] [] = some (LWr a0 a1 a2 a3 a4 10) := by kernel_rfl
theorem lw_11 (a0 a1 a2 a3 a4 : Nat) : runA Tryz.prog 113 #[.agg #[u a0, u a1, u a2, u a3, u a4], .int .i64 (Int.ofNat 11)] [] [] = some (LWr a0 a1 a2 a3 a4 11) := by kernel_rfl
theorem lw_12 (a0 a1 a2 a3 a4 : Nat) : runA Tryz.prog 113 #[.agg #[u a0, u a1, u a2, u a3, u a4], .int .i64 (Int.ofNat 12)] [] [] = some (LWr a0 a1 a2 a3 a4 12) := by kernel_rfl
theorem lw_13 (a0 a1 a2 a3 a4 : Nat) : runA Tryz.prog 113 #[.agg #[u a0, u a1, u a2, u a3, u a4], .int .i64 (Int.ofNat 13)] [] [] = some (LWr a0 a1 a2 a3 a4 13) := by kernel_rfl
theorem lw_14 (a0 a1 a2 a3 a4 : Nat) : runA Tryz.prog 113 #[.agg #[u a0, u a1, u a2, u a3, u a4], .int .i64 (Int.ofNat 14)] [] [] = some (LWr a0 a1 a2 a3 a4 14) := by kernel_rfl
theorem lw_15 (a0 a1 a2 a3 a4 : Nat) : runA Tryz.prog 113 #[.agg #[u a0, u a1, u a2, u a3, u a4], .int .i64 (Int.ofNat 15)] [] [] = some (LWr a0 a1 a2 a3 a4 15) := by kernel_rfl
theorem lw_16 (a0 a1 a2 a3 a4 : Nat) : runA Tryz.prog 113 #[.agg #[u a0, u a1, u a2, u a3, u a4], .int .i64 (Int.ofNat 16)] [] [] = some (LWr a0 a1 a2 a3 a4 16) := by kernel_rfl
theorem lw_17 (a0 a1 a2 a3 a4 : Nat) : runA Tryz.prog 113 #[.agg #[u a0, u a1, u a2, u a3, u a4], .int .i64 (Int.ofNat 17)] [] [] = some (LWr a0 a1 a2 a3 a4 17) := by kernel_rfl
theorem lw_18 (a0 a1 a2 a3 a4 : Nat) : runA Tryz.prog 113 #[.agg #[u a0, u a1, u a2, u a3, u a4], .int .i64 (Int.ofNat 18)] [] [] = some (LWr a0 a1 a2 a3 a4 18) := by kernel_rfl
theorem lw_19 (a0 a1 a2 a3 a4 : Nat) : runA Tryz.prog 113 #[.agg #[u a0, u a1, u a2, u a3, u a4], .int .i64 (Int.ofNat 19)] [] [] = some (LWr a0 a1 a2 a3 a4 19) := by kernel_rfl
theorem lw_20 (a0 a1 a2 a3 a4 : Nat) : runA Tryz.prog 113 #[.agg #[u a0, u a1, u a2, u a3, u a4], .int .i64 (Int.ofNat 20)] [] [] = some (LWr a0 a1 a2 a3 a4 20) := by kernel_rfl
theorem lw_21 (a0 a1 a2 a3 a4 : Nat) : runA Tryz.prog 113 #[.agg #[u a0, u a1, u a2, u a3, u a4], .int .i64 (Int.ofNat 21)] [] [] = some (LWr a0 a1 a2 a3 a4 21) := by kernel_rfl
theorem lw_22 (a0 a1 a2 a3 a4 : Nat) : runA Tryz.prog 113 #[.agg #[u a0, u a1, u a2, u a3, u a4], .int .i64 (Int.ofNat 22)] [] [] = some (LWr a0 a1 a2 a3 a4 22) := by kernel_rfl
theorem lw_23 (a0 a1 a2 a3 a4 : Nat) : runA Tryz.prog 113 #[.agg #[u a0, u a1, u a2, u a3, u a4], .int .i64 (Int.ofNat 23)] [] [] = some (LWr a0 a1 a2 a3 a4 23) := by kernel_rfl
theorem lw_24 (a0 a1 a2 a3 a4 : Nat) : runA Tryz.prog 113 #[.agg #[u a0, u a1, u a2, u a3, u a4], .int .i64 (Int.ofNat 24)] [] [] = some (LWr a0 a1 a2 a3 a4 24) := by kernel_rfl
theorem lw_25 (a0 a1 a2 a3 a4 : Nat) : runA Tryz.prog 113 #[.agg #[u a0, u a1, u a2, u a3, u a4], .int .i64 (Int.ofNat 25)] [] [] = some (LWr a0 a1 a2 a3 a4 25) := by kernel_rfl
theorem lw_26 (a0 a1 a2 a3 a4 : Nat) : runA Tryz.prog 113 #[.agg #[u a0, u a1, u a2, u a3, u a4], .int .i64 (Int.ofNat 26)] [] [] = some (LWr a0 a1 a2 a3 a4 26) := by kernel_rfl
theorem lw_27 (a0 a1 a2 a3 a4 : Nat) : runA Tryz.prog 113 #[.agg #[u a0, u a1, u a2, u a3, u a4], .int .i64 (Int.ofNat 27)] [] [] = some (LWr a0 a1 a2 a3 a4 27) := by kernel_rfl
theorem lw_28 (a0 a1 a2 a3 a4 : Nat) : runA Tryz.prog 113 #[.agg #[u a0, u a1, u a2, u a3, u a4], .int .i64 (Int.ofNat 28)] [] [] = some (LWr a0 a1 a2 a3 a4 28) := by kernel_rfl
theorem lw_29 (a0 a1 a2 a3 a4 : Nat) : runA Tryz.prog 113 #[.agg #[u a0, u a1, u a2, u a3, u a4], .int .i64 (Int.ofNat 29)] [] [] = some (LWr a0 a1 a2 a3 a4 29) := by kernel_rfl
theorem lw_30 (a0 a1 a2 a3 a4 : Nat) : runA Tryz.prog 113 #[.agg #[u a0, u a1, u a2, u a3, u a4], .int .i64 (Int.ofNat 30)] [] [] = some (LWr a0 a1 a2 a3 a4 30) := by kernel_rfl
theorem lw_31 (a0 a1 a2 a3 a4 : Nat) : runA Tryz.prog 113 #[.agg #[u a0, u a1, u a2, u a3, u a4], .int .i64 (Int.ofNat 31)] [] [] = some (LWr a0 a1 a2 a3 a4 31) := by kernel_rfl
theorem lw_32 (a0 a1 a2 a3 a4 : Nat) : runA Tryz.prog 113 #[.agg #[u a0, u a1, u a2, u a3, u a4], .int .i64 (Int.ofNat 32)] [] [] = some (LWr a0 a1 a2 a3 a4 32) := by kernel_rfl
theorem lw_33 (a0 a1 a2 a3 a4 : Nat) : runA Tryz.prog 113 #[.agg #[u a0, u a1, u a2, u a3, u a4], .int .i64 (Int.ofNat 33)] [] [] = some (LWr a0 a1 a2 a3 a4 33) := by kernel_rfl
theorem lw_34 (a0 a1 a2 a3 a4 : Nat) : runA Tryz.prog 113 #[.agg #[u a0, u a1, u a2, u a3, u a4], .int .i64 (Int.ofNat 34)] [] [] = some (LWr a0 a1 a2 a3 a4 34) := by kernel_rfl
theorem lw_35 (a0 a1 a2 a3 a4 : Nat) : runA Tryz.prog 113 #[.agg #[u a0, u a1, u a2, u a3, u a4], .int .i64 (Int.ofNat 35)] [] [] = some (LWr a0 a1 a2 a3 a4 35) := by kernel_rfl
theorem lw_36 (a0 a1 a2 a3 a4 : Nat) : runA Tryz.prog 113 #[.agg #[u a0, u a1, u a2, u a3, u a4], .int .i64 (Int.ofNat 36)] [] [] = some (LWr a0 a1 a2 a3 a4 36) := by kernel_rfl
theorem lw_37 (a0 a1 a2 a3 a4 : Nat) : runA Tryz.prog 113 #[.agg #[u a0, u a1, u a2, u a3, u a4], .int .i64 (Int.ofNat 37)] [] [] = some (LWr a0 a1 a2 a3 a4 37) := by kernel_rfl
theorem lw_38 (a0 a1 a2 a3 a4 : Nat) : runA Tryz.prog 113 #[.agg #[u a0, u a1, u a2, u a3, u a4], .int .i64 (Int.ofNat 38)] [] [] = some (LWr a0 a1 a2 a3 a4 38) := by kernel_rfl
theorem lw_39 (a0 a1 a2 a3 a4 : Nat) : runA Tryz.prog 113 #[.agg #[u a0, u a1, u a2, u a3, u a4], .int .i64 (Int.ofNat 39)] [] [] = some (LWr a0 a1 a2 a3 a4 39) := by kernel_rfl
theorem lw_40 (a0 a1 a2 a3 a4 : Nat) : runA Tryz.prog 113 #[.agg #[u a0, u a1, u a2, u a3, u a4], .int .i64 (Int.ofNat 40)] [] [] = some (LWr a0 a1 a2 a3 a4 40) := by kernel_rfl
theorem lw_41 (a0 a1 a2 a3 a4 : Nat) : runA Tryz.prog 113 #[.agg #[u a0, u a1, u a2, u a3, u a4], .int .i64 (Int.ofNat 41)] [] [] = some (LWr a0 a1 a2 a3 a4 41) := by kernel_rfl
theorem lw_42 (a0 a1 a2 a3 a4 : Nat) : runA Tryz.prog 113 #[.agg #[u a0, u a1, u a2, u a3, u a4], .int .i64 (Int.ofNat 42)] [] [] = some (LWr a0 a1 a2 a3 a4 42) := by kernel_rfl
theorem lw_43 (a0 a1 a2 a3 a4 : Nat) : runA Tryz.prog 113 #[.agg #[u a0, u a1, u a2, u a3, u a4], .int .i64 (Int.ofNat 43)] [] [] = some (LWr a0 a1 a2 a3 a4 43) := by kernel_rfl
theorem lw_44 (a0 a1 a2 a3 a4 : Nat) : runA Tryz.prog 113 #[.agg #[u a0, u a1, u a2, u a3, u a4], .int .i64 (Int.ofNat 44)] [] [] = some (LWr a0 a1 a2 a3 a4 44) := by kernel_rfl
theorem lw_45 (a0 a1 a2 a3 a4 : Nat) : runA Tryz.prog 113 #[.agg #[u a0, u a1, u a2, u a3, u a4], .int .i64 (Int.ofNat 45)] [] [] = some (LWr a0 a1 a2 a3 a4 45) := by kernel_rfl
theorem lw_46 (a0 a1 a2 a3 a4 : Nat) : runA Tryz.prog 113 #[.agg #[u a0, u a1, u a2, u a3, u a4], .int .i64 (Int.ofNat 46)] [] [] = some (LWr a0 a1 a2 a3 a4 46) := by kernel_rfl
theorem lw_47 (a0 a1 a2 a3 a4 : Nat) : runA Tryz.prog 113 #[.agg #[u a0, u a1, u a2, u a3, u a4], .int .i64 (Int.ofNat 47)] [] [] = some (LWr a0 a1 a2 a3 a4 47) := by kernel_rfl
theorem lw_48 (a0 a1 a2 a3 a4 : Nat) : runA Tryz.prog 113 #[.agg #[u a0, u a1, u a2, u a3, u a4], .int .i64 (Int.ofNat 48)] [] [] = some (LWr a0 a1 a2 a3 a4 48) := by kernel_rfl
theorem lw_49 (a0 a1 a2 a3 a4 : Nat) : runA Tryz.prog 113 #[.agg #[u a0, u a1, u a2, u a3, u a4], .int .i64 (Int.ofNat 49)] [] [] = some (LWr a0 a1 a2 a3 a4 49) := by kernel_rfl
theorem lw_50 (a0 a1 a2 a3 a4 : Nat) : runA Tryz.prog 113 #[.agg #[u a0, u a1, u a2, u a3, u a4], .int .i64 (Int.ofNat 50)] [] [] = some (LWr a0 a1 a2 a3 a4 50) := by kernel_rfl
theorem lw_51 (a0 a1 a2 a3 a4 : Nat) : runA Tryz.prog 113 #[.agg #[u a0, u a1, u a2, u a3, u a4], .int .i64 (Int.ofNat 51)] [] [] = some (LWr a0 a1 a2 a3 a4 51) := by kernel_rfl
theorem lw_52 (a0 a1 a2 a3 a4 : Nat) : runA Tryz.prog 113 #[.agg #[u a0, u a1, u a2, u a3, u a4], .int .i64 (Int.ofNat 52)] [] [] = some (LWr a0 a1 a2 a3 a4 52) := by kernel_rfl
theorem lw_53 (a0 a1 a2 a3 a4 : Nat) : runA Tryz.prog 113 #[.agg #[u a0, u a1, u a2, u a3, u a4], .int .i64 (Int.ofNat 53)] [] [] = some (LWr a0 a1 a2 a3 a4 53) := by kernel_rfl
theorem lw_54 (a0 a1 a2 a3 a4 : Nat) : runA Tryz.prog 113 #[.agg #[u a0, u a1, u a2, u a3, u a4], .int .i64 (Int.ofNat 54)] [] [] = some (LWr a0 a1 a2 a3 a4 54) := by kernel_rfl
theorem lw_55 (a0 a1 a2 a3 a4 : Nat) : runA Tryz.prog 113 #[.agg #[u a0, u a1, u a2, u a3, u a4], .int .i64 (Int.ofNat 55)] [] [] = some (LWr a0 a1 a2 a3 a4 55) := by kernel_rfl
theorem lw_56 (a0 a1 a2 a3 a4 : Nat) : runA Tryz.prog 113 #[.agg #[u a0, u a1, u a2, u a3, u a4], .int .i64 (Int.ofNat 56)] [] [] = some (LWr a0 a1 a2 a3 a4 56) := by kernel_rfl
theorem lw_57 (a0 a1 a2 a3 a4 : Nat) : runA Tryz.prog 113 #[.agg #[u a0, u a1, u a2, u a3, u a4], .int .i64 (Int.ofNat 57)] [] [] = some (LWr a0 a1 a2 a3 a4 57) := by kernel_rfl
theorem lw_58 (a0 a1 a2 a3 a4 : Nat) : runA Tryz.prog 113 #[.agg #[u a0, u a1, u a2, u a3, u a4], .int .i64 (Int.ofNat 58)] [] [] = some (LWr a0 a1 a2 a3 a4 58) := by kernel_rfl
theorem lw_59 (a0 a1 a2 a3 a4 : Nat) : runA Tryz.prog 113 #[.agg #[u a0, u a1, u a2, u a3, u a4], .int .i64 (Int.ofNat 59)] [] [] = some (LWr a0 a1 a2 a3 a4 59) := by kernel_rfl
theorem lw_60 (a0 a1 a2 a3 a4 : Nat) : runA Tryz.prog 113 #[.agg #[u a0, u a1, u a2, u a3, u a4], .int .i64 (Int.ofNat 60)] [] [] = some (LWr a0 a1 a2 a3 a4 60) := by kernel_rfl
theorem lw_61 (a0 a1 a2 a3 a4 : Nat) : runA Tryz.prog 113 #[.agg #[u a0, u a1, u a2, u a3, u a4], .int .i64 (Int.ofNat 61)] [] [] = some (LWr a0 a1 a2 a3 a4 61) := by kernel_rfl
theorem lw_62 (a0 a1 a2 a3 a4 : Nat) : runA Tryz.prog 113 #[.agg #[u a0, u a1, u a2, u a3, u a4], .int .i64 (Int.ofNat 62)] [] [] = some (LWr a0 a1 a2 a3 a4 62) := by kernel_rfl
theorem lw_63 (a0 a1 a2 a3 a4 : Nat) : runA Tryz.prog 113 #[.agg #[u a0, u a1, u a2, u a3, u a4], .int .i64 (Int.ofNat 63)] [] [] = some (LWr a0 a1 a2 a3 a4 63) := by kernel_rfl
theorem lw_raw (a0 a1 a2 a3 a4 s : Nat) (hs : s < 64) : runA Tryz.prog 113 #[.agg #[u a0, u a1, u a2, u a3, u a4], .int .i64 (Int.ofNat s)] [] [] = some (LWr a0 a1 a2 a3 a4 s) := by
  have h : s = 0 ∨ s = 1 ∨ s = 2 ∨ s = 3 ∨ s = 4 ∨ s = 5 ∨ s = 6 ∨ s = 7 ∨ s = 8 ∨ s = 9 ∨ s = 10 ∨ s = 11 ∨ s = 12 ∨ s = 13 ∨ s = 14 ∨ s = 15 ∨ s = 16 ∨ s = 17 ∨ s = 18 ∨ s = 19 ∨ s = 20 ∨ s = 21 ∨ s = 22 ∨ s = 23 ∨ s = 24 ∨ s = 25 ∨ s = 26 ∨ s = 27 ∨ s = 28 ∨ s = 29 ∨ s = 30 ∨ s = 31 ∨ s = 32 ∨ s = 33 ∨ s = 34 ∨ s = 35 ∨ s = 36 ∨ s = 37 ∨ s = 38 ∨ s = 39 ∨ s = 40 ∨ s = 41 ∨ s = 42 ∨ s = 43 ∨ s = 44 ∨ s = 45 ∨ s = 46 ∨ s = 47 ∨ s = 48 ∨ s = 49 ∨ s = 50 ∨ s = 51 ∨ s = 52 ∨ s = 53 ∨ s = 54 ∨ s = 55 ∨ s = 56 ∨ s = 57 ∨ s = 58 ∨ s = 59 ∨ s = 60 ∨ s = 61 ∨ s = 62 ∨ s = 63 := by omega
  rcases h with rfl | rfl | rfl | rfl | rfl | rfl | rfl | rfl | rfl | rfl | rfl | rfl | rfl | rfl | rfl | rfl | rfl | rfl | rfl | rfl | rfl | rfl | rfl | rfl | rfl | rfl | rfl | rfl | rfl | rfl | rfl | rfl | rfl | rfl | rfl | rfl | rfl | rfl | rfl | rfl | rfl | rfl | rfl | rfl | rfl | rfl | rfl | rfl | rfl | rfl | rfl | rfl | rfl | rfl | rfl | rfl | rfl | rfl | rfl | rfl | rfl | rfl | rfl | rfl
  · exact lw_0 a0 a1 a2 a3 a4
  · exact lw_1 a0 a1 a2 a3 a4
  · exact lw_2 a0 a1 a2 a3 a4
  · exact lw_3 a0 a1 a2 a3 a4
  · exact lw_4 a0 a1 a2 a3 a4
  · exact lw_5 a0 a1 a2 a3 a4
  · exact lw_6 a0 a1 a2 a3 a4
  · exact lw_7 a0 a1 a2 a3 a4
  · exact lw_8 a0 a1 a2 a3 a4
  · exact lw_9 a0 a1 a2 a3 a4
  · exact lw_10 a0 a1 a2 a3 a4
  · exact lw_11 a0 a1 a2 a3 a4
  · exact lw_12 a0 a1 a2 a3 a4
  · exact lw_13 a0 a1 a2 a3 a4
  · exact lw_14 a0 a1 a2 a3 a4
  · exact lw_15 a0 a1 a2 a3 a4
  · exact lw_16 a0 a1 a2 a3 a4
  · exact lw_17 a0 a1 a2 a3 a4
  · exact lw_18 a0 a1 a2 a3 a4
  · exact lw_19 a0 a1 a2 a3 a4
  · exact lw_20 a0 a1 a2 a3 a4
  · exact lw_21 a0 a1 a2 a3 a4
  · exact lw_22 a0 a1 a2 a3 a4
  · exact lw_23 a0 a1 a2 a3 a4
  · exact lw_24 a0 a1 a2 a3 a4
  · exact lw_25 a0 a1 a2 a3 a4
  · exact lw_26 a0 a1 a2 a3 a4
  · exact lw_27 a0 a1 a2 a3 a4
  · exact lw_28 a0 a1 a2 a3 a4
  · exact lw_29 a0 a1 a2 a3 a4
  · exact lw_30 a0 a1 a2 a3 a4
  · exact lw_31 a0 a1 a2 a3 a4
  · exact lw_32 a0 a1 a2 a3 a4
  · exact lw_33 a0 a1 a2 a3 a4
  · exact lw_34 a0 a1 a2 a3 a4
  · exact lw_35 a0 a1 a2 a3 a4
  · exact lw_36 a0 a1 a2 a3 a4
  · exact lw_37 a0 a1 a2 a3 a4
  · exact lw_38 a0 a1 a2 a3 a4
  · exact lw_39 a0 a1 a2 a3 a4
  · exact lw_40 a0 a1 a2 a3 a4
  · exact lw_41 a0 a1 a2 a3 a4
  · exact lw_42 a0 a1 a2 a3 a4
  · exact lw_43 a0 a1 a2 a3 a4
  · exact lw_44 a0 a1 a2 a3 a4
  · exact lw_45 a0 a1 a2 a3 a4
  · exact lw_46 a0 a1 a2 a3 a4
  · exact lw_47 a0 a1 a2 a3 a4
  · exact lw_48 a0 a1 a2 a3 a4
  · exact lw_49 a0 a1 a2 a3 a4
  · exact lw_50 a0 a1 a2 a3 a4
  · exact lw_51 a0 a1 a2 a3 a4
  · exact lw_52 a0 a1 a2 a3 a4
  · exact lw_53 a0 a1 a2 a3 a4
  · exact lw_54 a0 a1 a2 a3 a4
  · exact lw_55 a0 a1 a2 a3 a4
  · exact lw_56 a0 a1 a2 a3 a4
  · exact lw_57 a0 a1 a2 a3 a4
  · exact lw_58 a0 a1 a2 a3 a4
  · exact lw_59 a0 a1 a2 a3 a4
  · exact lw_60 a0 a1 a2 a3 a4
  · exact lw_61 a0 a1 a2 a3 a4
  · exact lw_62 a0 a1 a2 a3 a4
  · exact lw_63 a0 a1 a2 a3 a4

end Go.Proofs.YtcmfgabhgodlaaaGreatDoor
