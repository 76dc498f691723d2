/- CoefWhole: seven parts. -/
import Derived.Test.YtcjjckokaiobcaaDoorW3
namespace Go.Proofs.YtcjjckokaiobcaaDoor
open Go Go.RowKit
set_option linter.unusedSimpArgs false
set_option linter.unusedVariables false
set_option maxRecDepth 100000

theorem wh_2 : runF Tryd.prog 1000 [] 4 #[ii 2] [] [] ((21, rt (.string ⟨⟨[115, 101, 118, 101, 110]⟩⟩)) :: (List.replicate 21 (19, rt (bb true)) ++ [(8, rt (bb true))])) [(11, rt (mkA (slw 5000 0 21 capU)), [(5000, KO.own (opsL 2))]), (9, rt (mkA (slw 5001 0 7 capU)), [(5001, KI.own (parN 2))]), (13, rt (tp [ii 1, ii 1]), [(5000, KO.own (opsL 2))]), (13, rt (tp [ii 1, ii 1]), [(5000, KO.own (opsL 2))]), (17, rt (slw 5003 0 21 capU), [(5003, KO.own (bkL (opsL 2))), (5000, KO.own (opsL 2))]), (13, rt (tp [ii 0, ii 1]), [(1002, KO.own (opsL 2 ++ bkL (opsL 2)))]), (13, rt (tp [ii 0, ii 1]), [(1002, KO.own (opsL 2 ++ bkL (opsL 2)))]), (13, rt (tp [ii 0, ii 1]), [(1002, KO.own (opsL 2 ++ bkL (opsL 2)))])] [] = some (rt (bb true), [], [CallsV Tryd.prog (.func 11) #[ii 2] [] (rt (mkA (slw 5000 0 21 capU))) [(5000, KO.own (opsL 2))], CallsV Tryd.prog (.func 9) #[ii 2] [] (rt (mkA (slw 5001 0 7 capU))) [(5001, KI.own (parN 2))], PureX Tryd.prog 21 #[ii 2] (rt (.string ⟨⟨[115, 101, 118, 101, 110]⟩⟩))] ++ ((opsL 2).map rgtP ++ [CallsV Tryd.prog (.func 13) #[uu 1, slw 5000 0 21 capU] [(5000, KO.own (opsL 2))] (rt (tp [ii 1, ii 1])) [(5000, KO.own (opsL 2))], CallsV Tryd.prog (.func 13) #[uu 2, slw 5000 0 21 capU] [(5000, KO.own (opsL 2))] (rt (tp [ii 1, ii 1])) [(5000, KO.own (opsL 2))], CallsV Tryd.prog (.func 17) #[slw 5000 0 21 capU] [(5000, KO.own (opsL 2))] (rt (slw 5003 0 21 capU)) [(5003, KO.own (bkL (opsL 2))), (5000, KO.own (opsL 2))], CallsV Tryd.prog (.func 13) #[uu 1, slw 1002 0 42 capU] [(1002, KO.own (opsL 2 ++ bkL (opsL 2)))] (rt (tp [ii 0, ii 1])) [(1002, KO.own (opsL 2 ++ bkL (opsL 2)))], CallsV Tryd.prog (.func 13) #[uu 2, slw 1002 0 42 capU] [(1002, KO.own (opsL 2 ++ bkL (opsL 2)))] (rt (tp [ii 0, ii 1])) [(1002, KO.own (opsL 2 ++ bkL (opsL 2)))], CallsV Tryd.prog (.func 13) #[uu 3, slw 1002 0 42 capU] [(1002, KO.own (opsL 2 ++ bkL (opsL 2)))] (rt (tp [ii 0, ii 1])) [(1002, KO.own (opsL 2 ++ bkL (opsL 2)))], PureX Tryd.prog 8 #[] (rt (bb true))])) := by kernel_rfl
theorem wt_2_1 : totV 1 (opsL 2) = (1, 1) := by kernel_rfl
theorem wt_2_2 : totV 2 (opsL 2) = (1, 1) := by kernel_rfl
theorem wz_2_1 : totV 1 (opsL 2 ++ bkL (opsL 2)) = (0, 1) := by kernel_rfl
theorem wz_2_2 : totV 2 (opsL 2 ++ bkL (opsL 2)) = (0, 1) := by kernel_rfl
theorem wz_2_3 : totV 3 (opsL 2 ++ bkL (opsL 2)) = (0, 1) := by kernel_rfl
theorem whole_2 : PureX Tryd.prog 4 #[ii 2] (rt (bb true)) :=
  runF_pure mix wh_2 (allP_app (l := [_, _, _]) ⟨new_c (R := opsL 2) (ops_n (m := 2) (L := parN 2) rfl) true (fun _ => rfl) mkA_ren 5000, new_c (parts_n (m := 2) (L := parN 2) rfl) true (fun _ => rfl) mkA_ren 5001, name_2, trivial⟩ (allP_app (rgt_ok (by decide)) ⟨tot_o wt_2_1 5000, tot_o wt_2_2 5000, back_o (opsL 2) (by decide) (by decide), tot_o wz_2_1 1002, tot_o wz_2_2 1002, tot_o wz_2_3 1002, wakes_c, trivial⟩)) rfl rfl

end Go.Proofs.YtcjjckokaiobcaaDoor
