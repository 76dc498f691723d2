/- CoefWhole: fifteen parts: the operations. -/
import Derived.Test.YtcjjckokaiobcaaDoorW5p
namespace Go.Proofs.YtcjjckokaiobcaaDoor
open Go Go.RowKit
set_option linter.unusedSimpArgs false
set_option linter.unusedVariables false
set_option maxRecDepth 100000

noncomputable def L47 : Code := cK (cK (cB (pcx 7 b4)))
def F47 (i : Int) (X : Nat → Value) : List Value := [.int .i64 (3), ud, bb (false), .slice (some ⟨5000, 0, none⟩) 45 18446744073709551616, .int .i64 (0), .slice (some ⟨5001, 0, none⟩) 15 18446744073709551616, .int .i64 (0), .int .i64 (1000000), .int .i64 (15), ii i, ud, ud, ud, ud, ud, ud, ud, ud, tp [.slice (some ⟨5000, 0, none⟩) 45 18446744073709551616, .int .i64 (0)], .int .i64 (3), tp [.slice (some ⟨5000, 0, none⟩) 45 18446744073709551616, .int .i64 (0)], .slice (some ⟨5000, 0, none⟩) 45 18446744073709551616, .int .i64 (0), tp [.slice (some ⟨5001, 0, none⟩) 15 18446744073709551616, .int .i64 (0)], .int .i64 (3), tp [.slice (some ⟨5001, 0, none⟩) 15 18446744073709551616, .int .i64 (0)], .slice (some ⟨5001, 0, none⟩) 15 18446744073709551616, .int .i64 (0), .int .i64 (3), bb (false), bb (false), .int .i64 (3), bb (false), bb (false), ud, ud, ud, ud, ud, ud, ud, ud, ud, ud, ud, ud, ud, ud, ud, ud, ud, ud, ud, ud, ud, ud, ud, ud, .int .i64 (0), bb (false), bb (false), .int .i64 (0), bb (false), bb (false), bb (false), .slice (some ⟨5000, 0, none⟩) 45 18446744073709551616, .int .i64 (45), bb (false), bb (false), bb (false), .int .i64 (3), st3, .int .i64 (7), bb (false), bb (false), .int .i64 (15), .slice (some ⟨5001, 0, none⟩) 15 18446744073709551616, .int .i64 (15), bb (false), .int .i64 (14), .int .i64 (15), .int .i64 (258330), .slice (some ⟨5001, 0, none⟩) 15 18446744073709551616, .int .i64 (14), .pointer (some ⟨5001, 14, none⟩), .int .i64 (741670), .int .i64 (1000000), .slice (some ⟨5001, 0, none⟩) 15 18446744073709551616, .int .i64 (14), .pointer (some ⟨5001, 14, none⟩), .int .i64 (741670), .slice (some ⟨5001, 0, none⟩) 15 18446744073709551616, .slice (some ⟨5001, 0, none⟩) 15 18446744073709551616, .int .i64 (15), .int .i64 (14), .int .i64 (14), .int .i64 (0), .pointer (some ⟨5001, 0, none⟩), .int .i64 (741670), bb (false), X 0, X 1, X 2, X 3, X 4, X 5, X 6, X 7, X 8, X 9, X 10, X 11, X 12, X 13, X 14, X 15, X 16, X 17, X 18, X 19, X 20, X 21, X 22, X 23, X 24, X 25, X 26, ud, ud, ud, ud, ud, ud, ud, ud, ud, ud, ud, ud, ud, ud, ud, ud, ud, ud, ud, ud, ud, ud, ud, ud, ud, ud, ud, ud, ud, ud, ud, ud, ud, ud, ud, ud, ud, ud, ud, ud, ud, ud, ud, ud, ud, ud, ud, ud, ud, ud, ud, ud, ud, ud, ud, ud, ud, ud, ud, ud, ud, ud, ud, ud, ud, ud, ud, ud, ud, ud, ud, ud, ud, ud]
abbrev H47 : Hp := [(5001, KI.own (parN 3)), (5000, KO.own (opsL 3))]
theorem b4_eq : Tryd.f4.body = some (.seq (pcx 0 b4) (.seq (pcx 1 b4) (.seq (pcx 2 b4) (.seq (pcx 3 b4) (.seq (pcx 4 b4) (.seq (pcx 5 b4) (.seq (pcx 6 b4) (.seq (.seq (cA (pcx 7 b4)) (.block 2 (.loop L47))) (cB (cB (cB (cB (cB (cB (cB (cB b4)))))))))))))))) := by kernel_rfl
theorem t4_7 : runLS Tryd.prog 4000 (cA (pcx 7 b4)) T4_6 H47 [] [] [] [] = some (.normal, F47 0 (fun _ => ud), H47, []) := by kernel_rfl
theorem r47_0 (X : Nat → Value) : runLS Tryd.prog 4000 L47 (F47 0 X) H47 [] [(19, rt (bb true))] [] [] = some (.normal, F47 1 (fun j => lt (runLS Tryd.prog 4000 L47 (F47 0 X) H47 [] [(19, rt (bb true))] [] []) (100 + j)), H47, [rgtP (1, 741670, 2000000)]) := by kernel_rfl
theorem r47_1 (X : Nat → Value) : runLS Tryd.prog 4000 L47 (F47 1 X) H47 [] [(19, rt (bb true))] [] [] = some (.normal, F47 2 (fun j => lt (runLS Tryd.prog 4000 L47 (F47 1 X) H47 [] [(19, rt (bb true))] [] []) (100 + j)), H47, [rgtP (2, 741670, 1000000)]) := by kernel_rfl
theorem r47_2 (X : Nat → Value) : runLS Tryd.prog 4000 L47 (F47 2 X) H47 [] [(19, rt (bb true))] [] [] = some (.normal, F47 3 (fun j => lt (runLS Tryd.prog 4000 L47 (F47 2 X) H47 [] [(19, rt (bb true))] [] []) (100 + j)), H47, [rgtP (1, 741670, 2000000)]) := by kernel_rfl
theorem r47_3 (X : Nat → Value) : runLS Tryd.prog 4000 L47 (F47 3 X) H47 [] [(19, rt (bb true))] [] [] = some (.normal, F47 4 (fun j => lt (runLS Tryd.prog 4000 L47 (F47 3 X) H47 [] [(19, rt (bb true))] [] []) (100 + j)), H47, [rgtP (1, -409101, 2000000)]) := by kernel_rfl
theorem r47_4 (X : Nat → Value) : runLS Tryd.prog 4000 L47 (F47 4 X) H47 [] [(19, rt (bb true))] [] [] = some (.normal, F47 5 (fun j => lt (runLS Tryd.prog 4000 L47 (F47 4 X) H47 [] [(19, rt (bb true))] [] []) (100 + j)), H47, [rgtP (2, -409101, 1000000)]) := by kernel_rfl
theorem r47_5 (X : Nat → Value) : runLS Tryd.prog 4000 L47 (F47 5 X) H47 [] [(19, rt (bb true))] [] [] = some (.normal, F47 6 (fun j => lt (runLS Tryd.prog 4000 L47 (F47 5 X) H47 [] [(19, rt (bb true))] [] []) (100 + j)), H47, [rgtP (1, -409101, 2000000)]) := by kernel_rfl
theorem r47_6 (X : Nat → Value) : runLS Tryd.prog 4000 L47 (F47 6 X) H47 [] [(19, rt (bb true))] [] [] = some (.normal, F47 7 (fun j => lt (runLS Tryd.prog 4000 L47 (F47 6 X) H47 [] [(19, rt (bb true))] [] []) (100 + j)), H47, [rgtP (1, 190755, 2000000)]) := by kernel_rfl
theorem r47_7 (X : Nat → Value) : runLS Tryd.prog 4000 L47 (F47 7 X) H47 [] [(19, rt (bb true))] [] [] = some (.normal, F47 8 (fun j => lt (runLS Tryd.prog 4000 L47 (F47 7 X) H47 [] [(19, rt (bb true))] [] []) (100 + j)), H47, [rgtP (2, 190755, 1000000)]) := by kernel_rfl
theorem r47_8 (X : Nat → Value) : runLS Tryd.prog 4000 L47 (F47 8 X) H47 [] [(19, rt (bb true))] [] [] = some (.normal, F47 9 (fun j => lt (runLS Tryd.prog 4000 L47 (F47 8 X) H47 [] [(19, rt (bb true))] [] []) (100 + j)), H47, [rgtP (1, 190755, 2000000)]) := by kernel_rfl
theorem r47_9 (X : Nat → Value) : runLS Tryd.prog 4000 L47 (F47 9 X) H47 [] [(19, rt (bb true))] [] [] = some (.normal, F47 10 (fun j => lt (runLS Tryd.prog 4000 L47 (F47 9 X) H47 [] [(19, rt (bb true))] [] []) (100 + j)), H47, [rgtP (1, -573862, 2000000)]) := by kernel_rfl
theorem r47_10 (X : Nat → Value) : runLS Tryd.prog 4000 L47 (F47 10 X) H47 [] [(19, rt (bb true))] [] [] = some (.normal, F47 11 (fun j => lt (runLS Tryd.prog 4000 L47 (F47 10 X) H47 [] [(19, rt (bb true))] [] []) (100 + j)), H47, [rgtP (2, -573862, 1000000)]) := by kernel_rfl
theorem r47_11 (X : Nat → Value) : runLS Tryd.prog 4000 L47 (F47 11 X) H47 [] [(19, rt (bb true))] [] [] = some (.normal, F47 12 (fun j => lt (runLS Tryd.prog 4000 L47 (F47 11 X) H47 [] [(19, rt (bb true))] [] []) (100 + j)), H47, [rgtP (1, -573862, 2000000)]) := by kernel_rfl
theorem r47_12 (X : Nat → Value) : runLS Tryd.prog 4000 L47 (F47 12 X) H47 [] [(19, rt (bb true))] [] [] = some (.normal, F47 13 (fun j => lt (runLS Tryd.prog 4000 L47 (F47 12 X) H47 [] [(19, rt (bb true))] [] []) (100 + j)), H47, [rgtP (1, 299064, 2000000)]) := by kernel_rfl
theorem r47_13 (X : Nat → Value) : runLS Tryd.prog 4000 L47 (F47 13 X) H47 [] [(19, rt (bb true))] [] [] = some (.normal, F47 14 (fun j => lt (runLS Tryd.prog 4000 L47 (F47 13 X) H47 [] [(19, rt (bb true))] [] []) (100 + j)), H47, [rgtP (2, 299064, 1000000)]) := by kernel_rfl
theorem r47_14 (X : Nat → Value) : runLS Tryd.prog 4000 L47 (F47 14 X) H47 [] [(19, rt (bb true))] [] [] = some (.normal, F47 15 (fun j => lt (runLS Tryd.prog 4000 L47 (F47 14 X) H47 [] [(19, rt (bb true))] [] []) (100 + j)), H47, [rgtP (1, 299064, 2000000)]) := by kernel_rfl
theorem r47_15 (X : Nat → Value) : runLS Tryd.prog 4000 L47 (F47 15 X) H47 [] [(19, rt (bb true))] [] [] = some (.normal, F47 16 (fun j => lt (runLS Tryd.prog 4000 L47 (F47 15 X) H47 [] [(19, rt (bb true))] [] []) (100 + j)), H47, [rgtP (1, 334625, 2000000)]) := by kernel_rfl
theorem r47_16 (X : Nat → Value) : runLS Tryd.prog 4000 L47 (F47 16 X) H47 [] [(19, rt (bb true))] [] [] = some (.normal, F47 17 (fun j => lt (runLS Tryd.prog 4000 L47 (F47 16 X) H47 [] [(19, rt (bb true))] [] []) (100 + j)), H47, [rgtP (2, 334625, 1000000)]) := by kernel_rfl
theorem r47_17 (X : Nat → Value) : runLS Tryd.prog 4000 L47 (F47 17 X) H47 [] [(19, rt (bb true))] [] [] = some (.normal, F47 18 (fun j => lt (runLS Tryd.prog 4000 L47 (F47 17 X) H47 [] [(19, rt (bb true))] [] []) (100 + j)), H47, [rgtP (1, 334625, 2000000)]) := by kernel_rfl
theorem r47_18 (X : Nat → Value) : runLS Tryd.prog 4000 L47 (F47 18 X) H47 [] [(19, rt (bb true))] [] [] = some (.normal, F47 19 (fun j => lt (runLS Tryd.prog 4000 L47 (F47 18 X) H47 [] [(19, rt (bb true))] [] []) (100 + j)), H47, [rgtP (1, 315293, 2000000)]) := by kernel_rfl
theorem r47_19 (X : Nat → Value) : runLS Tryd.prog 4000 L47 (F47 19 X) H47 [] [(19, rt (bb true))] [] [] = some (.normal, F47 20 (fun j => lt (runLS Tryd.prog 4000 L47 (F47 19 X) H47 [] [(19, rt (bb true))] [] []) (100 + j)), H47, [rgtP (2, 315293, 1000000)]) := by kernel_rfl
theorem r47_20 (X : Nat → Value) : runLS Tryd.prog 4000 L47 (F47 20 X) H47 [] [(19, rt (bb true))] [] [] = some (.normal, F47 21 (fun j => lt (runLS Tryd.prog 4000 L47 (F47 20 X) H47 [] [(19, rt (bb true))] [] []) (100 + j)), H47, [rgtP (1, 315293, 2000000)]) := by kernel_rfl
theorem r47_21 (X : Nat → Value) : runLS Tryd.prog 4000 L47 (F47 21 X) H47 [] [(19, rt (bb true))] [] [] = some (.normal, F47 22 (fun j => lt (runLS Tryd.prog 4000 L47 (F47 21 X) H47 [] [(19, rt (bb true))] [] []) (100 + j)), H47, [rgtP (1, -796888, 2000000)]) := by kernel_rfl
theorem r47_22 (X : Nat → Value) : runLS Tryd.prog 4000 L47 (F47 22 X) H47 [] [(19, rt (bb true))] [] [] = some (.normal, F47 23 (fun j => lt (runLS Tryd.prog 4000 L47 (F47 22 X) H47 [] [(19, rt (bb true))] [] []) (100 + j)), H47, [rgtP (2, -796888, 1000000)]) := by kernel_rfl
theorem r47_23 (X : Nat → Value) : runLS Tryd.prog 4000 L47 (F47 23 X) H47 [] [(19, rt (bb true))] [] [] = some (.normal, F47 24 (fun j => lt (runLS Tryd.prog 4000 L47 (F47 23 X) H47 [] [(19, rt (bb true))] [] []) (100 + j)), H47, [rgtP (1, -796888, 2000000)]) := by kernel_rfl
theorem r47_24 (X : Nat → Value) : runLS Tryd.prog 4000 L47 (F47 24 X) H47 [] [(19, rt (bb true))] [] [] = some (.normal, F47 25 (fun j => lt (runLS Tryd.prog 4000 L47 (F47 24 X) H47 [] [(19, rt (bb true))] [] []) (100 + j)), H47, [rgtP (1, 315293, 2000000)]) := by kernel_rfl
theorem r47_25 (X : Nat → Value) : runLS Tryd.prog 4000 L47 (F47 25 X) H47 [] [(19, rt (bb true))] [] [] = some (.normal, F47 26 (fun j => lt (runLS Tryd.prog 4000 L47 (F47 25 X) H47 [] [(19, rt (bb true))] [] []) (100 + j)), H47, [rgtP (2, 315293, 1000000)]) := by kernel_rfl
theorem r47_26 (X : Nat → Value) : runLS Tryd.prog 4000 L47 (F47 26 X) H47 [] [(19, rt (bb true))] [] [] = some (.normal, F47 27 (fun j => lt (runLS Tryd.prog 4000 L47 (F47 26 X) H47 [] [(19, rt (bb true))] [] []) (100 + j)), H47, [rgtP (1, 315293, 2000000)]) := by kernel_rfl
theorem r47_27 (X : Nat → Value) : runLS Tryd.prog 4000 L47 (F47 27 X) H47 [] [(19, rt (bb true))] [] [] = some (.normal, F47 28 (fun j => lt (runLS Tryd.prog 4000 L47 (F47 27 X) H47 [] [(19, rt (bb true))] [] []) (100 + j)), H47, [rgtP (1, 334625, 2000000)]) := by kernel_rfl
theorem r47_28 (X : Nat → Value) : runLS Tryd.prog 4000 L47 (F47 28 X) H47 [] [(19, rt (bb true))] [] [] = some (.normal, F47 29 (fun j => lt (runLS Tryd.prog 4000 L47 (F47 28 X) H47 [] [(19, rt (bb true))] [] []) (100 + j)), H47, [rgtP (2, 334625, 1000000)]) := by kernel_rfl
theorem r47_29 (X : Nat → Value) : runLS Tryd.prog 4000 L47 (F47 29 X) H47 [] [(19, rt (bb true))] [] [] = some (.normal, F47 30 (fun j => lt (runLS Tryd.prog 4000 L47 (F47 29 X) H47 [] [(19, rt (bb true))] [] []) (100 + j)), H47, [rgtP (1, 334625, 2000000)]) := by kernel_rfl
theorem r47_30 (X : Nat → Value) : runLS Tryd.prog 4000 L47 (F47 30 X) H47 [] [(19, rt (bb true))] [] [] = some (.normal, F47 31 (fun j => lt (runLS Tryd.prog 4000 L47 (F47 30 X) H47 [] [(19, rt (bb true))] [] []) (100 + j)), H47, [rgtP (1, 299064, 2000000)]) := by kernel_rfl
theorem r47_31 (X : Nat → Value) : runLS Tryd.prog 4000 L47 (F47 31 X) H47 [] [(19, rt (bb true))] [] [] = some (.normal, F47 32 (fun j => lt (runLS Tryd.prog 4000 L47 (F47 31 X) H47 [] [(19, rt (bb true))] [] []) (100 + j)), H47, [rgtP (2, 299064, 1000000)]) := by kernel_rfl
theorem r47_32 (X : Nat → Value) : runLS Tryd.prog 4000 L47 (F47 32 X) H47 [] [(19, rt (bb true))] [] [] = some (.normal, F47 33 (fun j => lt (runLS Tryd.prog 4000 L47 (F47 32 X) H47 [] [(19, rt (bb true))] [] []) (100 + j)), H47, [rgtP (1, 299064, 2000000)]) := by kernel_rfl
theorem r47_33 (X : Nat → Value) : runLS Tryd.prog 4000 L47 (F47 33 X) H47 [] [(19, rt (bb true))] [] [] = some (.normal, F47 34 (fun j => lt (runLS Tryd.prog 4000 L47 (F47 33 X) H47 [] [(19, rt (bb true))] [] []) (100 + j)), H47, [rgtP (1, -573862, 2000000)]) := by kernel_rfl
theorem r47_34 (X : Nat → Value) : runLS Tryd.prog 4000 L47 (F47 34 X) H47 [] [(19, rt (bb true))] [] [] = some (.normal, F47 35 (fun j => lt (runLS Tryd.prog 4000 L47 (F47 34 X) H47 [] [(19, rt (bb true))] [] []) (100 + j)), H47, [rgtP (2, -573862, 1000000)]) := by kernel_rfl
theorem r47_35 (X : Nat → Value) : runLS Tryd.prog 4000 L47 (F47 35 X) H47 [] [(19, rt (bb true))] [] [] = some (.normal, F47 36 (fun j => lt (runLS Tryd.prog 4000 L47 (F47 35 X) H47 [] [(19, rt (bb true))] [] []) (100 + j)), H47, [rgtP (1, -573862, 2000000)]) := by kernel_rfl
theorem r47_36 (X : Nat → Value) : runLS Tryd.prog 4000 L47 (F47 36 X) H47 [] [(19, rt (bb true))] [] [] = some (.normal, F47 37 (fun j => lt (runLS Tryd.prog 4000 L47 (F47 36 X) H47 [] [(19, rt (bb true))] [] []) (100 + j)), H47, [rgtP (1, 190755, 2000000)]) := by kernel_rfl
theorem r47_37 (X : Nat → Value) : runLS Tryd.prog 4000 L47 (F47 37 X) H47 [] [(19, rt (bb true))] [] [] = some (.normal, F47 38 (fun j => lt (runLS Tryd.prog 4000 L47 (F47 37 X) H47 [] [(19, rt (bb true))] [] []) (100 + j)), H47, [rgtP (2, 190755, 1000000)]) := by kernel_rfl
theorem r47_38 (X : Nat → Value) : runLS Tryd.prog 4000 L47 (F47 38 X) H47 [] [(19, rt (bb true))] [] [] = some (.normal, F47 39 (fun j => lt (runLS Tryd.prog 4000 L47 (F47 38 X) H47 [] [(19, rt (bb true))] [] []) (100 + j)), H47, [rgtP (1, 190755, 2000000)]) := by kernel_rfl
theorem r47_39 (X : Nat → Value) : runLS Tryd.prog 4000 L47 (F47 39 X) H47 [] [(19, rt (bb true))] [] [] = some (.normal, F47 40 (fun j => lt (runLS Tryd.prog 4000 L47 (F47 39 X) H47 [] [(19, rt (bb true))] [] []) (100 + j)), H47, [rgtP (1, -409101, 2000000)]) := by kernel_rfl
theorem r47_40 (X : Nat → Value) : runLS Tryd.prog 4000 L47 (F47 40 X) H47 [] [(19, rt (bb true))] [] [] = some (.normal, F47 41 (fun j => lt (runLS Tryd.prog 4000 L47 (F47 40 X) H47 [] [(19, rt (bb true))] [] []) (100 + j)), H47, [rgtP (2, -409101, 1000000)]) := by kernel_rfl
theorem r47_41 (X : Nat → Value) : runLS Tryd.prog 4000 L47 (F47 41 X) H47 [] [(19, rt (bb true))] [] [] = some (.normal, F47 42 (fun j => lt (runLS Tryd.prog 4000 L47 (F47 41 X) H47 [] [(19, rt (bb true))] [] []) (100 + j)), H47, [rgtP (1, -409101, 2000000)]) := by kernel_rfl
theorem r47_42 (X : Nat → Value) : runLS Tryd.prog 4000 L47 (F47 42 X) H47 [] [(19, rt (bb true))] [] [] = some (.normal, F47 43 (fun j => lt (runLS Tryd.prog 4000 L47 (F47 42 X) H47 [] [(19, rt (bb true))] [] []) (100 + j)), H47, [rgtP (1, 741670, 2000000)]) := by kernel_rfl
theorem r47_43 (X : Nat → Value) : runLS Tryd.prog 4000 L47 (F47 43 X) H47 [] [(19, rt (bb true))] [] [] = some (.normal, F47 44 (fun j => lt (runLS Tryd.prog 4000 L47 (F47 43 X) H47 [] [(19, rt (bb true))] [] []) (100 + j)), H47, [rgtP (2, 741670, 1000000)]) := by kernel_rfl
theorem r47_44 (X : Nat → Value) : runLS Tryd.prog 4000 L47 (F47 44 X) H47 [] [(19, rt (bb true))] [] [] = some (.normal, F47 45 (fun j => lt (runLS Tryd.prog 4000 L47 (F47 44 X) H47 [] [(19, rt (bb true))] [] []) (100 + j)), H47, [rgtP (1, 741670, 2000000)]) := by kernel_rfl
theorem r47_x (X : Nat → Value) : runLS Tryd.prog 4000 L47 (F47 45 X) H47 [] [] [] [] = some (.exit 2, F47 45 (fun j => lt (runLS Tryd.prog 4000 L47 (F47 45 X) H47 [] [] [] []) (100 + j)), H47, []) := by kernel_rfl
theorem o47 {o : Op3} (h : rightB o = true) : AllP [rgtP o] := ⟨(right_v o).is (by rw [h]), trivial⟩
theorem rnd47 (i : Nat) (h : i < 45) (X : Nat → Value) : ∃ Y, StepV Tryd.prog L47 (F47 i X) [] H47 .normal (F47 ((i + 1 : Nat) : Int) Y) [] H47 := match i, h with
  | 0, _ => ⟨_, runLS_step mix (r47_0 X) (o47 (by decide))⟩
  | 1, _ => ⟨_, runLS_step mix (r47_1 X) (o47 (by decide))⟩
  | 2, _ => ⟨_, runLS_step mix (r47_2 X) (o47 (by decide))⟩
  | 3, _ => ⟨_, runLS_step mix (r47_3 X) (o47 (by decide))⟩
  | 4, _ => ⟨_, runLS_step mix (r47_4 X) (o47 (by decide))⟩
  | 5, _ => ⟨_, runLS_step mix (r47_5 X) (o47 (by decide))⟩
  | 6, _ => ⟨_, runLS_step mix (r47_6 X) (o47 (by decide))⟩
  | 7, _ => ⟨_, runLS_step mix (r47_7 X) (o47 (by decide))⟩
  | 8, _ => ⟨_, runLS_step mix (r47_8 X) (o47 (by decide))⟩
  | 9, _ => ⟨_, runLS_step mix (r47_9 X) (o47 (by decide))⟩
  | 10, _ => ⟨_, runLS_step mix (r47_10 X) (o47 (by decide))⟩
  | 11, _ => ⟨_, runLS_step mix (r47_11 X) (o47 (by decide))⟩
  | 12, _ => ⟨_, runLS_step mix (r47_12 X) (o47 (by decide))⟩
  | 13, _ => ⟨_, runLS_step mix (r47_13 X) (o47 (by decide))⟩
  | 14, _ => ⟨_, runLS_step mix (r47_14 X) (o47 (by decide))⟩
  | 15, _ => ⟨_, runLS_step mix (r47_15 X) (o47 (by decide))⟩
  | 16, _ => ⟨_, runLS_step mix (r47_16 X) (o47 (by decide))⟩
  | 17, _ => ⟨_, runLS_step mix (r47_17 X) (o47 (by decide))⟩
  | 18, _ => ⟨_, runLS_step mix (r47_18 X) (o47 (by decide))⟩
  | 19, _ => ⟨_, runLS_step mix (r47_19 X) (o47 (by decide))⟩
  | 20, _ => ⟨_, runLS_step mix (r47_20 X) (o47 (by decide))⟩
  | 21, _ => ⟨_, runLS_step mix (r47_21 X) (o47 (by decide))⟩
  | 22, _ => ⟨_, runLS_step mix (r47_22 X) (o47 (by decide))⟩
  | 23, _ => ⟨_, runLS_step mix (r47_23 X) (o47 (by decide))⟩
  | 24, _ => ⟨_, runLS_step mix (r47_24 X) (o47 (by decide))⟩
  | 25, _ => ⟨_, runLS_step mix (r47_25 X) (o47 (by decide))⟩
  | 26, _ => ⟨_, runLS_step mix (r47_26 X) (o47 (by decide))⟩
  | 27, _ => ⟨_, runLS_step mix (r47_27 X) (o47 (by decide))⟩
  | 28, _ => ⟨_, runLS_step mix (r47_28 X) (o47 (by decide))⟩
  | 29, _ => ⟨_, runLS_step mix (r47_29 X) (o47 (by decide))⟩
  | 30, _ => ⟨_, runLS_step mix (r47_30 X) (o47 (by decide))⟩
  | 31, _ => ⟨_, runLS_step mix (r47_31 X) (o47 (by decide))⟩
  | 32, _ => ⟨_, runLS_step mix (r47_32 X) (o47 (by decide))⟩
  | 33, _ => ⟨_, runLS_step mix (r47_33 X) (o47 (by decide))⟩
  | 34, _ => ⟨_, runLS_step mix (r47_34 X) (o47 (by decide))⟩
  | 35, _ => ⟨_, runLS_step mix (r47_35 X) (o47 (by decide))⟩
  | 36, _ => ⟨_, runLS_step mix (r47_36 X) (o47 (by decide))⟩
  | 37, _ => ⟨_, runLS_step mix (r47_37 X) (o47 (by decide))⟩
  | 38, _ => ⟨_, runLS_step mix (r47_38 X) (o47 (by decide))⟩
  | 39, _ => ⟨_, runLS_step mix (r47_39 X) (o47 (by decide))⟩
  | 40, _ => ⟨_, runLS_step mix (r47_40 X) (o47 (by decide))⟩
  | 41, _ => ⟨_, runLS_step mix (r47_41 X) (o47 (by decide))⟩
  | 42, _ => ⟨_, runLS_step mix (r47_42 X) (o47 (by decide))⟩
  | 43, _ => ⟨_, runLS_step mix (r47_43 X) (o47 (by decide))⟩
  | 44, _ => ⟨_, runLS_step mix (r47_44 X) (o47 (by decide))⟩
  | i + 45, h => absurd h (by omega)
theorem loop47 : ∀ (j i : Nat) (X : Nat → Value), i + j = 45 → ∃ r Y, LoopN Tryd.prog L47 r (F47 i X) [] H47 (.exit 2) (F47 45 Y) [] H47
  | 0, i, X, h => by
    have e : i = 45 := by omega
    subst e
    exact ⟨1, _, LoopN.last (runLS_step mix (r47_x X) trivial)⟩
  | j + 1, i, X, h => by
    obtain ⟨Y, hs⟩ := rnd47 i (by omega) X
    obtain ⟨r, Z, hl⟩ := loop47 j (i + 1) Y (by omega)
    exact ⟨r + 1, Z, LoopN.round hs hl⟩

end Go.Proofs.YtcjjckokaiobcaaDoor
