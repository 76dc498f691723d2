/- Texts of the seat, joined. -/
import Derived.Test.YtlioffkonfkflaaGreatZz31
/- The document's quotients of intervals: each way (2 of 4). -/
namespace Go.Proofs.YtlioffkonfkflaaGreat
open Go Go.RowKit
set_option linter.unusedSimpArgs false
set_option linter.unusedVariables false
set_option maxRecDepth 100000

theorem quo_ftfffff : QuoS false true false false false false false := by unfold QuoS; intros; kernel_rfl
theorem quo_ftfffft : QuoS false true false false false false true := by unfold QuoS; intros; kernel_rfl
theorem quo_ftffftf : QuoS false true false false false true false := by unfold QuoS; intros; kernel_rfl
theorem quo_ftffftt : QuoS false true false false false true true := by unfold QuoS; intros; kernel_rfl
theorem quo_ftfftff : QuoS false true false false true false false := by unfold QuoS; intros; kernel_rfl
theorem quo_ftfftft : QuoS false true false false true false true := by unfold QuoS; intros; kernel_rfl
theorem quo_ftffttf : QuoS false true false false true true false := by unfold QuoS; intros; kernel_rfl
theorem quo_ftffttt : QuoS false true false false true true true := by unfold QuoS; intros; kernel_rfl
theorem quo_ftftfff : QuoS false true false true false false false := by unfold QuoS; intros; kernel_rfl
theorem quo_ftftfft : QuoS false true false true false false true := by unfold QuoS; intros; kernel_rfl
theorem quo_ftftftf : QuoS false true false true false true false := by unfold QuoS; intros; kernel_rfl
theorem quo_ftftftt : QuoS false true false true false true true := by unfold QuoS; intros; kernel_rfl
theorem quo_ftfttff : QuoS false true false true true false false := by unfold QuoS; intros; kernel_rfl
theorem quo_ftfttft : QuoS false true false true true false true := by unfold QuoS; intros; kernel_rfl
theorem quo_ftftttf : QuoS false true false true true true false := by unfold QuoS; intros; kernel_rfl
theorem quo_ftftttt : QuoS false true false true true true true := by unfold QuoS; intros; kernel_rfl
theorem quo_fttffff : QuoS false true true false false false false := by unfold QuoS; intros; kernel_rfl
theorem quo_fttffft : QuoS false true true false false false true := by unfold QuoS; intros; kernel_rfl
theorem quo_fttfftf : QuoS false true true false false true false := by unfold QuoS; intros; kernel_rfl
theorem quo_fttfftt : QuoS false true true false false true true := by unfold QuoS; intros; kernel_rfl
theorem quo_fttftff : QuoS false true true false true false false := by unfold QuoS; intros; kernel_rfl
theorem quo_fttftft : QuoS false true true false true false true := by unfold QuoS; intros; kernel_rfl
theorem quo_fttfttf : QuoS false true true false true true false := by unfold QuoS; intros; kernel_rfl
theorem quo_fttfttt : QuoS false true true false true true true := by unfold QuoS; intros; kernel_rfl
theorem quo_ftttfff : QuoS false true true true false false false := by unfold QuoS; intros; kernel_rfl
theorem quo_ftttfft : QuoS false true true true false false true := by unfold QuoS; intros; kernel_rfl
theorem quo_ftttftf : QuoS false true true true false true false := by unfold QuoS; intros; kernel_rfl
theorem quo_ftttftt : QuoS false true true true false true true := by unfold QuoS; intros; kernel_rfl
theorem quo_fttttff : QuoS false true true true true false false := by unfold QuoS; intros; kernel_rfl
theorem quo_fttttft : QuoS false true true true true false true := by unfold QuoS; intros; kernel_rfl
theorem quo_ftttttf : QuoS false true true true true true false := by unfold QuoS; intros; kernel_rfl
theorem quo_ftttttt : QuoS false true true true true true true := by unfold QuoS; intros; kernel_rfl

end Go.Proofs.YtlioffkonfkflaaGreat
