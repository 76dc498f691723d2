/- Texts of the seat, joined. -/
import Derived.Test.YtlioffkonfkflaaGreatZz31
/- The document's quotients of intervals: each way (3 of 4). -/
namespace Go.Proofs.YtlioffkonfkflaaGreat
open Go Go.RowKit
set_option linter.unusedSimpArgs false
set_option linter.unusedVariables false
set_option maxRecDepth 100000

theorem quo_tffffff : QuoS true false false false false false false := by unfold QuoS; intros; kernel_rfl
theorem quo_tffffft : QuoS true false false false false false true := by unfold QuoS; intros; kernel_rfl
theorem quo_tfffftf : QuoS true false false false false true false := by unfold QuoS; intros; kernel_rfl
theorem quo_tfffftt : QuoS true false false false false true true := by unfold QuoS; intros; kernel_rfl
theorem quo_tffftff : QuoS true false false false true false false := by unfold QuoS; intros; kernel_rfl
theorem quo_tffftft : QuoS true false false false true false true := by unfold QuoS; intros; kernel_rfl
theorem quo_tfffttf : QuoS true false false false true true false := by unfold QuoS; intros; kernel_rfl
theorem quo_tfffttt : QuoS true false false false true true true := by unfold QuoS; intros; kernel_rfl
theorem quo_tfftfff : QuoS true false false true false false false := by unfold QuoS; intros; kernel_rfl
theorem quo_tfftfft : QuoS true false false true false false true := by unfold QuoS; intros; kernel_rfl
theorem quo_tfftftf : QuoS true false false true false true false := by unfold QuoS; intros; kernel_rfl
theorem quo_tfftftt : QuoS true false false true false true true := by unfold QuoS; intros; kernel_rfl
theorem quo_tffttff : QuoS true false false true true false false := by unfold QuoS; intros; kernel_rfl
theorem quo_tffttft : QuoS true false false true true false true := by unfold QuoS; intros; kernel_rfl
theorem quo_tfftttf : QuoS true false false true true true false := by unfold QuoS; intros; kernel_rfl
theorem quo_tfftttt : QuoS true false false true true true true := by unfold QuoS; intros; kernel_rfl
theorem quo_tftffff : QuoS true false true false false false false := by unfold QuoS; intros; kernel_rfl
theorem quo_tftffft : QuoS true false true false false false true := by unfold QuoS; intros; kernel_rfl
theorem quo_tftfftf : QuoS true false true false false true false := by unfold QuoS; intros; kernel_rfl
theorem quo_tftfftt : QuoS true false true false false true true := by unfold QuoS; intros; kernel_rfl
theorem quo_tftftff : QuoS true false true false true false false := by unfold QuoS; intros; kernel_rfl
theorem quo_tftftft : QuoS true false true false true false true := by unfold QuoS; intros; kernel_rfl
theorem quo_tftfttf : QuoS true false true false true true false := by unfold QuoS; intros; kernel_rfl
theorem quo_tftfttt : QuoS true false true false true true true := by unfold QuoS; intros; kernel_rfl
theorem quo_tfttfff : QuoS true false true true false false false := by unfold QuoS; intros; kernel_rfl
theorem quo_tfttfft : QuoS true false true true false false true := by unfold QuoS; intros; kernel_rfl
theorem quo_tfttftf : QuoS true false true true false true false := by unfold QuoS; intros; kernel_rfl
theorem quo_tfttftt : QuoS true false true true false true true := by unfold QuoS; intros; kernel_rfl
theorem quo_tftttff : QuoS true false true true true false false := by unfold QuoS; intros; kernel_rfl
theorem quo_tftttft : QuoS true false true true true false true := by unfold QuoS; intros; kernel_rfl
theorem quo_tfttttf : QuoS true false true true true true false := by unfold QuoS; intros; kernel_rfl
theorem quo_tfttttt : QuoS true false true true true true true := by unfold QuoS; intros; kernel_rfl

end Go.Proofs.YtlioffkonfkflaaGreat
