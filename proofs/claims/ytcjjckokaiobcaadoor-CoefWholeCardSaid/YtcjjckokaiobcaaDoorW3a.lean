/- CoefWhole: three parts. -/
import Derived.Test.YtcjjckokaiobcaaDoorW3
namespace Go.Proofs.YtcjjckokaiobcaaDoor
open Go Go.RowKit
set_option linter.unusedSimpArgs false
set_option linter.unusedVariables false
set_option maxRecDepth 100000

theorem wh_1 : runF Tryd.prog 1000 [] 4 #[ii 1] [] [] ((21, rt (.string ⟨⟨[116, 104, 114, 101, 101]⟩⟩)) :: (List.replicate 9 (19, rt (bb true)) ++ [(8, rt (bb true))])) [(11, rt (mkA (slw 5000 0 9 capU)), [(5000, KO.own (opsL 1))]), (9, rt (mkA (slw 5001 0 3 capU)), [(5001, KI.own (parN 1))]), (13, rt (tp [ii 1, ii 1]), [(5000, KO.own (opsL 1))]), (13, rt (tp [ii 1, ii 1]), [(5000, KO.own (opsL 1))]), (17, rt (slw 5003 0 9 capU), [(5003, KO.own (bkL (opsL 1))), (5000, KO.own (opsL 1))]), (13, rt (tp [ii 0, ii 1]), [(1002, KO.own (opsL 1 ++ bkL (opsL 1)))]), (13, rt (tp [ii 0, ii 1]), [(1002, KO.own (opsL 1 ++ bkL (opsL 1)))]), (13, rt (tp [ii 0, ii 1]), [(1002, KO.own (opsL 1 ++ bkL (opsL 1)))])] [] = some (rt (bb true), [], [CallsV Tryd.prog (.func 11) #[ii 1] [] (rt (mkA (slw 5000 0 9 capU))) [(5000, KO.own (opsL 1))], CallsV Tryd.prog (.func 9) #[ii 1] [] (rt (mkA (slw 5001 0 3 capU))) [(5001, KI.own (parN 1))], PureX Tryd.prog 21 #[ii 1] (rt (.string ⟨⟨[116, 104, 114, 101, 101]⟩⟩))] ++ ((opsL 1).map rgtP ++ [CallsV Tryd.prog (.func 13) #[uu 1, slw 5000 0 9 capU] [(5000, KO.own (opsL 1))] (rt (tp [ii 1, ii 1])) [(5000, KO.own (opsL 1))], CallsV Tryd.prog (.func 13) #[uu 2, slw 5000 0 9 capU] [(5000, KO.own (opsL 1))] (rt (tp [ii 1, ii 1])) [(5000, KO.own (opsL 1))], CallsV Tryd.prog (.func 17) #[slw 5000 0 9 capU] [(5000, KO.own (opsL 1))] (rt (slw 5003 0 9 capU)) [(5003, KO.own (bkL (opsL 1))), (5000, KO.own (opsL 1))], CallsV Tryd.prog (.func 13) #[uu 1, slw 1002 0 18 capU] [(1002, KO.own (opsL 1 ++ bkL (opsL 1)))] (rt (tp [ii 0, ii 1])) [(1002, KO.own (opsL 1 ++ bkL (opsL 1)))], CallsV Tryd.prog (.func 13) #[uu 2, slw 1002 0 18 capU] [(1002, KO.own (opsL 1 ++ bkL (opsL 1)))] (rt (tp [ii 0, ii 1])) [(1002, KO.own (opsL 1 ++ bkL (opsL 1)))], CallsV Tryd.prog (.func 13) #[uu 3, slw 1002 0 18 capU] [(1002, KO.own (opsL 1 ++ bkL (opsL 1)))] (rt (tp [ii 0, ii 1])) [(1002, KO.own (opsL 1 ++ bkL (opsL 1)))], PureX Tryd.prog 8 #[] (rt (bb true))])) := by kernel_rfl
theorem wt_1_1 : totV 1 (opsL 1) = (1, 1) := by kernel_rfl
theorem wt_1_2 : totV 2 (opsL 1) = (1, 1) := by kernel_rfl
theorem wz_1_1 : totV 1 (opsL 1 ++ bkL (opsL 1)) = (0, 1) := by kernel_rfl
theorem wz_1_2 : totV 2 (opsL 1 ++ bkL (opsL 1)) = (0, 1) := by kernel_rfl
theorem wz_1_3 : totV 3 (opsL 1 ++ bkL (opsL 1)) = (0, 1) := by kernel_rfl
theorem whole_1 : PureX Tryd.prog 4 #[ii 1] (rt (bb true)) :=
  runF_pure mix wh_1 (allP_app (l := [_, _, _]) ⟨new_c (R := opsL 1) (ops_n (m := 1) (L := parN 1) rfl) true (fun _ => rfl) mkA_ren 5000, new_c (parts_n (m := 1) (L := parN 1) rfl) true (fun _ => rfl) mkA_ren 5001, name_1, trivial⟩ (allP_app (rgt_ok (by decide)) ⟨tot_o wt_1_1 5000, tot_o wt_1_2 5000, back_o (opsL 1) (by decide) (by decide), tot_o wz_1_1 1002, tot_o wz_1_2 1002, tot_o wz_1_3 1002, wakes_c, trivial⟩)) rfl rfl

end Go.Proofs.YtcjjckokaiobcaaDoor
