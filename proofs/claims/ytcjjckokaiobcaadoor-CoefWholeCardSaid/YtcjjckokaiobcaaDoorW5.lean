/- CoefWhole: fifteen parts. -/
import Derived.Test.YtcjjckokaiobcaaDoorW5r
namespace Go.Proofs.YtcjjckokaiobcaaDoor
open Go Go.RowKit
set_option linter.unusedSimpArgs false
set_option linter.unusedVariables false
set_option maxRecDepth 100000

theorem wt_3_1 : totV 1 (opsL 3) = (1, 1) := by kernel_rfl
theorem wt_3_2 : totV 2 (opsL 3) = (1, 1) := by kernel_rfl
theorem wz_3_1 : totV 1 (opsL 3 ++ bkL (opsL 3)) = (0, 1) := by kernel_rfl
theorem wz_3_2 : totV 2 (opsL 3 ++ bkL (opsL 3)) = (0, 1) := by kernel_rfl
theorem wz_3_3 : totV 3 (opsL 3 ++ bkL (opsL 3)) = (0, 1) := by kernel_rfl
theorem whole_3 : PureX Tryd.prog 4 #[ii 3] (rt (bb true)) := by
  have s0 := runLS_step mix t4_0 trivial
  have s1 := runLS_step mix t4_1 ⟨new_c (R := opsL 3) (ops_n (m := 3) (L := parN 3) rfl) true (fun _ => rfl) mkA_ren 5000, trivial⟩
  have s2 := runLS_step mix t4_2 ⟨new_c (parts_n (m := 3) (L := parN 3) rfl) true (fun _ => rfl) mkA_ren 5001, trivial⟩
  have s3 := runLS_step mix t4_3 trivial
  have s4 := runLS_step mix t4_4 ⟨name_3, trivial⟩
  have s5 := runLS_step mix t4_5 trivial
  have s6 := runLS_step mix t4_6 trivial
  have s7 := runLS_step mix t4_7 trivial
  obtain ⟨r, Y, hl⟩ := loop47 45 0 (fun _ => ud) rfl
  obtain ⟨T, H, e, er⟩ := t4_8 Y
  have s8 := runLS_step mix e ⟨tot_o wt_3_1 5000, tot_o wt_3_2 5000, back_o (opsL 3) (by decide) (by decide), tot_o wz_3_1 4002, tot_o wz_3_2 4002, tot_o wz_3_3 4002, wakes_c, trivial⟩
  exact pure_of_calls (callsV_step (f := 4) (fc := Tryd.f4) (ex := .ret) rfl b4_eq (s0.seq (s1.seq (s2.seq (s3.seq (s4.seq (s5.seq (s6.seq ((s7.seq ((LoopN.loop hl).block (id := 2))).seq s8)))))))) rfl er rfl (fun _ _ h => by cases h) rfl) rfl rfl

end Go.Proofs.YtcjjckokaiobcaaDoor
