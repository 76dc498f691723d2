/- CoefWhole: turns. -/
import Derived.Test.YtcjjckokaiobcaaDoorW3
namespace Go.Proofs.YtcjjckokaiobcaaDoor
open Go Go.RowKit
set_option linter.unusedSimpArgs false
set_option linter.unusedVariables false
set_option maxRecDepth 100000

theorem wh_4 : runF Tryd.prog 1000 [] 4 #[ii 4] [] [] ((21, rt (.string ⟨⟨[116, 117, 114, 110, 105, 110, 103]⟩⟩)) :: (List.replicate 7 (19, rt (bb true)) ++ [(8, rt (bb true))])) [(11, rt (mkA (slw 5000 0 7 capU)), [(5000, KO.own (opsL 4))]), (9, rt (mkA sl0), []), (13, rt (tp [ii 1, ii 1]), [(5000, KO.own (opsL 4))]), (13, rt (tp [ii 1, ii 1]), [(5000, KO.own (opsL 4))]), (17, rt (slw 5003 0 7 capU), [(5003, KO.own (bkL (opsL 4))), (5000, KO.own (opsL 4))]), (13, rt (tp [ii 0, ii 1]), [(1002, KO.own (opsL 4 ++ bkL (opsL 4)))]), (13, rt (tp [ii 0, ii 1]), [(1002, KO.own (opsL 4 ++ bkL (opsL 4)))]), (13, rt (tp [ii 0, ii 1]), [(1002, KO.own (opsL 4 ++ bkL (opsL 4)))])] [] = some (rt (bb true), [], [CallsV Tryd.prog (.func 11) #[ii 4] [] (rt (mkA (slw 5000 0 7 capU))) [(5000, KO.own (opsL 4))], CallsV Tryd.prog (.func 9) #[ii 4] [] (rt (mkA sl0)) [], PureX Tryd.prog 21 #[ii 4] (rt (.string ⟨⟨[116, 117, 114, 110, 105, 110, 103]⟩⟩))] ++ ((opsL 4).map rgtP ++ [CallsV Tryd.prog (.func 13) #[uu 1, slw 5000 0 7 capU] [(5000, KO.own (opsL 4))] (rt (tp [ii 1, ii 1])) [(5000, KO.own (opsL 4))], CallsV Tryd.prog (.func 13) #[uu 2, slw 5000 0 7 capU] [(5000, KO.own (opsL 4))] (rt (tp [ii 1, ii 1])) [(5000, KO.own (opsL 4))], CallsV Tryd.prog (.func 17) #[slw 5000 0 7 capU] [(5000, KO.own (opsL 4))] (rt (slw 5003 0 7 capU)) [(5003, KO.own (bkL (opsL 4))), (5000, KO.own (opsL 4))], CallsV Tryd.prog (.func 13) #[uu 1, slw 1002 0 14 capU] [(1002, KO.own (opsL 4 ++ bkL (opsL 4)))] (rt (tp [ii 0, ii 1])) [(1002, KO.own (opsL 4 ++ bkL (opsL 4)))], CallsV Tryd.prog (.func 13) #[uu 2, slw 1002 0 14 capU] [(1002, KO.own (opsL 4 ++ bkL (opsL 4)))] (rt (tp [ii 0, ii 1])) [(1002, KO.own (opsL 4 ++ bkL (opsL 4)))], CallsV Tryd.prog (.func 13) #[uu 3, slw 1002 0 14 capU] [(1002, KO.own (opsL 4 ++ bkL (opsL 4)))] (rt (tp [ii 0, ii 1])) [(1002, KO.own (opsL 4 ++ bkL (opsL 4)))], PureX Tryd.prog 8 #[] (rt (bb true))])) := by kernel_rfl
theorem wt_4_1 : totV 1 (opsL 4) = (1, 1) := by kernel_rfl
theorem wt_4_2 : totV 2 (opsL 4) = (1, 1) := by kernel_rfl
theorem wz_4_1 : totV 1 (opsL 4 ++ bkL (opsL 4)) = (0, 1) := by kernel_rfl
theorem wz_4_2 : totV 2 (opsL 4 ++ bkL (opsL 4)) = (0, 1) := by kernel_rfl
theorem wz_4_3 : totV 3 (opsL 4 ++ bkL (opsL 4)) = (0, 1) := by kernel_rfl
theorem whole_4 : PureX Tryd.prog 4 #[ii 4] (rt (bb true)) :=
  runF_pure mix wh_4 (allP_app (l := [_, _, _]) ⟨new_c (R := opsL 4) (ops_4) true (fun _ => rfl) mkA_ren 5000, callsV_pure parts_4 rfl rfl, name_4, trivial⟩ (allP_app (rgt_ok (by decide)) ⟨tot_o wt_4_1 5000, tot_o wt_4_2 5000, back_o (opsL 4) (by decide) (by decide), tot_o wz_4_1 1002, tot_o wz_4_2 1002, tot_o wz_4_3 1002, wakes_c, trivial⟩)) rfl rfl

end Go.Proofs.YtcjjckokaiobcaaDoor
