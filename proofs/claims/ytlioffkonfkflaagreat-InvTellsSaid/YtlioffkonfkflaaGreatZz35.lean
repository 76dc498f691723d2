/- Texts of the seat, joined. -/
import Derived.Test.YtlioffkonfkflaaGreatZz31
/- The document's quotients of intervals: each way (4 of 4). -/
namespace Go.Proofs.YtlioffkonfkflaaGreat
open Go Go.RowKit
set_option linter.unusedSimpArgs false
set_option linter.unusedVariables false
set_option maxRecDepth 100000

theorem quo_ttfffff : QuoS true true false false false false false := by unfold QuoS; intros; kernel_rfl
theorem quo_ttfffft : QuoS true true false false false false true := by unfold QuoS; intros; kernel_rfl
theorem quo_ttffftf : QuoS true true false false false true false := by unfold QuoS; intros; kernel_rfl
theorem quo_ttffftt : QuoS true true false false false true true := by unfold QuoS; intros; kernel_rfl
theorem quo_ttfftff : QuoS true true false false true false false := by unfold QuoS; intros; kernel_rfl
theorem quo_ttfftft : QuoS true true false false true false true := by unfold QuoS; intros; kernel_rfl
theorem quo_ttffttf : QuoS true true false false true true false := by unfold QuoS; intros; kernel_rfl
theorem quo_ttffttt : QuoS true true false false true true true := by unfold QuoS; intros; kernel_rfl
theorem quo_ttftfff : QuoS true true false true false false false := by unfold QuoS; intros; kernel_rfl
theorem quo_ttftfft : QuoS true true false true false false true := by unfold QuoS; intros; kernel_rfl
theorem quo_ttftftf : QuoS true true false true false true false := by unfold QuoS; intros; kernel_rfl
theorem quo_ttftftt : QuoS true true false true false true true := by unfold QuoS; intros; kernel_rfl
theorem quo_ttfttff : QuoS true true false true true false false := by unfold QuoS; intros; kernel_rfl
theorem quo_ttfttft : QuoS true true false true true false true := by unfold QuoS; intros; kernel_rfl
theorem quo_ttftttf : QuoS true true false true true true false := by unfold QuoS; intros; kernel_rfl
theorem quo_ttftttt : QuoS true true false true true true true := by unfold QuoS; intros; kernel_rfl
theorem quo_tttffff : QuoS true true true false false false false := by unfold QuoS; intros; kernel_rfl
theorem quo_tttffft : QuoS true true true false false false true := by unfold QuoS; intros; kernel_rfl
theorem quo_tttfftf : QuoS true true true false false true false := by unfold QuoS; intros; kernel_rfl
theorem quo_tttfftt : QuoS true true true false false true true := by unfold QuoS; intros; kernel_rfl
theorem quo_tttftff : QuoS true true true false true false false := by unfold QuoS; intros; kernel_rfl
theorem quo_tttftft : QuoS true true true false true false true := by unfold QuoS; intros; kernel_rfl
theorem quo_tttfttf : QuoS true true true false true true false := by unfold QuoS; intros; kernel_rfl
theorem quo_tttfttt : QuoS true true true false true true true := by unfold QuoS; intros; kernel_rfl
theorem quo_ttttfff : QuoS true true true true false false false := by unfold QuoS; intros; kernel_rfl
theorem quo_ttttfft : QuoS true true true true false false true := by unfold QuoS; intros; kernel_rfl
theorem quo_ttttftf : QuoS true true true true false true false := by unfold QuoS; intros; kernel_rfl
theorem quo_ttttftt : QuoS true true true true false true true := by unfold QuoS; intros; kernel_rfl
theorem quo_tttttff : QuoS true true true true true false false := by unfold QuoS; intros; kernel_rfl
theorem quo_tttttft : QuoS true true true true true false true := by unfold QuoS; intros; kernel_rfl
theorem quo_ttttttf : QuoS true true true true true true false := by unfold QuoS; intros; kernel_rfl
theorem quo_ttttttt : QuoS true true true true true true true := by unfold QuoS; intros; kernel_rfl

end Go.Proofs.YtlioffkonfkflaaGreat
