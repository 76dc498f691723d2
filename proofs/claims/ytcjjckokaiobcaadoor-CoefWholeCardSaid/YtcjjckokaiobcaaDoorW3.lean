/- CoefWhole: a method of one part. -/
import Derived.Test.YtcjjckokaiobcaaDoorZz11
import Derived.Test.YtcjjckokaiobcaaDoorZz8
import Derived.Test.YtcjjckokaiobcaaDoorZz5
namespace Go.Proofs.YtcjjckokaiobcaaDoor
open Go Go.RowKit
set_option linter.unusedSimpArgs false
set_option linter.unusedVariables false
set_option maxRecDepth 100000

abbrev rgtP (o : Op3) : Prop := PureX Tryd.prog 19 #[ov o] (rt (bb true))
theorem rgt_ok : ∀ {L : List Op3}, L.all rightB = true → AllP (L.map rgtP)
  | [], _ => trivial
  | o :: r, h => by
    rw [List.all_cons, Bool.and_eq_true] at h
    exact ⟨(right_v o).is (by rw [h.1]), rgt_ok h.2⟩
theorem tot_o {kd : Int} {L : List Op3} {u d : Int} (h : totV kd L = (u, d)) (k : Nat) : CallsV Tryd.prog (.func 13) #[uu kd, slw k 0 L.length capU] [(k, KO.own L)] (rt (tp [ii u, ii d])) [(k, KO.own L)] := by
  have e := tot_s kd L
  rw [h] at e
  exact semA_calls (s := slw k 0 L.length capU) e (fun _ _ => rfl) rfl (fun _ _ hR => lk_own (K := KO) (L := L) hR (by simp [look]))
theorem back_o (L : List Op3) (hL : L.length ≤ 1000) (hn : bkL L ≠ []) : CallsV Tryd.prog (.func 17) #[slw 5000 0 L.length capU] [(5000, KO.own L)] (rt (slw 5003 0 L.length capU)) [(5003, KO.own (bkL L)), (5000, KO.own L)] := by
  have h := (back_s L hL).2 hn
  have := newA_calls (H := [(5000, KO.own L)]) (k := 5003) (s := slw 5000 0 L.length capU) h true (fun _ _ => rfl) (fun _ _ => rfl) (by simp [domB, look]) (fun _ _ hR => lk_own (K := KO) (L := L) hR (by simp [look]))
  rw [bk_len] at this
  exact this
theorem wh_0 : runF Tryd.prog 1000 [] 4 #[ii 0] [] [] ((21, rt (.string ⟨⟨[108, 101, 97, 112, 102, 114, 111, 103]⟩⟩)) :: (List.replicate 3 (19, rt (bb true)) ++ [(8, rt (bb true))])) [(11, rt (mkA (slw 5000 0 3 capU)), [(5000, KO.own (opsL 0))]), (9, rt (mkA (slw 5001 0 1 capU)), [(5001, KI.own (parN 0))]), (13, rt (tp [ii 1, ii 1]), [(5000, KO.own (opsL 0))]), (13, rt (tp [ii 1, ii 1]), [(5000, KO.own (opsL 0))]), (17, rt (slw 5003 0 3 capU), [(5003, KO.own (bkL (opsL 0))), (5000, KO.own (opsL 0))]), (13, rt (tp [ii 0, ii 1]), [(1002, KO.own (opsL 0 ++ bkL (opsL 0)))]), (13, rt (tp [ii 0, ii 1]), [(1002, KO.own (opsL 0 ++ bkL (opsL 0)))]), (13, rt (tp [ii 0, ii 1]), [(1002, KO.own (opsL 0 ++ bkL (opsL 0)))])] [] = some (rt (bb true), [], [CallsV Tryd.prog (.func 11) #[ii 0] [] (rt (mkA (slw 5000 0 3 capU))) [(5000, KO.own (opsL 0))], CallsV Tryd.prog (.func 9) #[ii 0] [] (rt (mkA (slw 5001 0 1 capU))) [(5001, KI.own (parN 0))], PureX Tryd.prog 21 #[ii 0] (rt (.string ⟨⟨[108, 101, 97, 112, 102, 114, 111, 103]⟩⟩))] ++ ((opsL 0).map rgtP ++ [CallsV Tryd.prog (.func 13) #[uu 1, slw 5000 0 3 capU] [(5000, KO.own (opsL 0))] (rt (tp [ii 1, ii 1])) [(5000, KO.own (opsL 0))], CallsV Tryd.prog (.func 13) #[uu 2, slw 5000 0 3 capU] [(5000, KO.own (opsL 0))] (rt (tp [ii 1, ii 1])) [(5000, KO.own (opsL 0))], CallsV Tryd.prog (.func 17) #[slw 5000 0 3 capU] [(5000, KO.own (opsL 0))] (rt (slw 5003 0 3 capU)) [(5003, KO.own (bkL (opsL 0))), (5000, KO.own (opsL 0))], CallsV Tryd.prog (.func 13) #[uu 1, slw 1002 0 6 capU] [(1002, KO.own (opsL 0 ++ bkL (opsL 0)))] (rt (tp [ii 0, ii 1])) [(1002, KO.own (opsL 0 ++ bkL (opsL 0)))], CallsV Tryd.prog (.func 13) #[uu 2, slw 1002 0 6 capU] [(1002, KO.own (opsL 0 ++ bkL (opsL 0)))] (rt (tp [ii 0, ii 1])) [(1002, KO.own (opsL 0 ++ bkL (opsL 0)))], CallsV Tryd.prog (.func 13) #[uu 3, slw 1002 0 6 capU] [(1002, KO.own (opsL 0 ++ bkL (opsL 0)))] (rt (tp [ii 0, ii 1])) [(1002, KO.own (opsL 0 ++ bkL (opsL 0)))], PureX Tryd.prog 8 #[] (rt (bb true))])) := by kernel_rfl
theorem wt_0_1 : totV 1 (opsL 0) = (1, 1) := by kernel_rfl
theorem wt_0_2 : totV 2 (opsL 0) = (1, 1) := by kernel_rfl
theorem wz_0_1 : totV 1 (opsL 0 ++ bkL (opsL 0)) = (0, 1) := by kernel_rfl
theorem wz_0_2 : totV 2 (opsL 0 ++ bkL (opsL 0)) = (0, 1) := by kernel_rfl
theorem wz_0_3 : totV 3 (opsL 0 ++ bkL (opsL 0)) = (0, 1) := by kernel_rfl
theorem whole_0 : PureX Tryd.prog 4 #[ii 0] (rt (bb true)) :=
  runF_pure mix wh_0 (allP_app (l := [_, _, _]) ⟨new_c (R := opsL 0) (ops_n (m := 0) (L := parN 0) rfl) true (fun _ => rfl) mkA_ren 5000, new_c (parts_n (m := 0) (L := parN 0) rfl) true (fun _ => rfl) mkA_ren 5001, name_0, trivial⟩ (allP_app (rgt_ok (by decide)) ⟨tot_o wt_0_1 5000, tot_o wt_0_2 5000, back_o (opsL 0) (by decide) (by decide), tot_o wz_0_1 1002, tot_o wz_0_2 1002, tot_o wz_0_3 1002, wakes_c, trivial⟩)) rfl rfl

end Go.Proofs.YtcjjckokaiobcaaDoor
