/- Texts of the seat, joined. -/
import Derived.Test.YtlioffkonfkflaaGreatZz31
/- The document's quotients of intervals: each way (1 of 4). -/
namespace Go.Proofs.YtlioffkonfkflaaGreat
open Go Go.RowKit
set_option linter.unusedSimpArgs false
set_option linter.unusedVariables false
set_option maxRecDepth 100000

theorem quo_fffffff : QuoS false false false false false false false := by unfold QuoS; intros; kernel_rfl
theorem quo_fffffft : QuoS false false false false false false true := by unfold QuoS; intros; kernel_rfl
theorem quo_ffffftf : QuoS false false false false false true false := by unfold QuoS; intros; kernel_rfl
theorem quo_ffffftt : QuoS false false false false false true true := by unfold QuoS; intros; kernel_rfl
theorem quo_fffftff : QuoS false false false false true false false := by unfold QuoS; intros; kernel_rfl
theorem quo_fffftft : QuoS false false false false true false true := by unfold QuoS; intros; kernel_rfl
theorem quo_ffffttf : QuoS false false false false true true false := by unfold QuoS; intros; kernel_rfl
theorem quo_ffffttt : QuoS false false false false true true true := by unfold QuoS; intros; kernel_rfl
theorem quo_ffftfff : QuoS false false false true false false false := by unfold QuoS; intros; kernel_rfl
theorem quo_ffftfft : QuoS false false false true false false true := by unfold QuoS; intros; kernel_rfl
theorem quo_ffftftf : QuoS false false false true false true false := by unfold QuoS; intros; kernel_rfl
theorem quo_ffftftt : QuoS false false false true false true true := by unfold QuoS; intros; kernel_rfl
theorem quo_fffttff : QuoS false false false true true false false := by unfold QuoS; intros; kernel_rfl
theorem quo_fffttft : QuoS false false false true true false true := by unfold QuoS; intros; kernel_rfl
theorem quo_ffftttf : QuoS false false false true true true false := by unfold QuoS; intros; kernel_rfl
theorem quo_ffftttt : QuoS false false false true true true true := by unfold QuoS; intros; kernel_rfl
theorem quo_fftffff : QuoS false false true false false false false := by unfold QuoS; intros; kernel_rfl
theorem quo_fftffft : QuoS false false true false false false true := by unfold QuoS; intros; kernel_rfl
theorem quo_fftfftf : QuoS false false true false false true false := by unfold QuoS; intros; kernel_rfl
theorem quo_fftfftt : QuoS false false true false false true true := by unfold QuoS; intros; kernel_rfl
theorem quo_fftftff : QuoS false false true false true false false := by unfold QuoS; intros; kernel_rfl
theorem quo_fftftft : QuoS false false true false true false true := by unfold QuoS; intros; kernel_rfl
theorem quo_fftfttf : QuoS false false true false true true false := by unfold QuoS; intros; kernel_rfl
theorem quo_fftfttt : QuoS false false true false true true true := by unfold QuoS; intros; kernel_rfl
theorem quo_ffttfff : QuoS false false true true false false false := by unfold QuoS; intros; kernel_rfl
theorem quo_ffttfft : QuoS false false true true false false true := by unfold QuoS; intros; kernel_rfl
theorem quo_ffttftf : QuoS false false true true false true false := by unfold QuoS; intros; kernel_rfl
theorem quo_ffttftt : QuoS false false true true false true true := by unfold QuoS; intros; kernel_rfl
theorem quo_fftttff : QuoS false false true true true false false := by unfold QuoS; intros; kernel_rfl
theorem quo_fftttft : QuoS false false true true true false true := by unfold QuoS; intros; kernel_rfl
theorem quo_ffttttf : QuoS false false true true true true false := by unfold QuoS; intros; kernel_rfl
theorem quo_ffttttt : QuoS false false true true true true true := by unfold QuoS; intros; kernel_rfl

end Go.Proofs.YtlioffkonfkflaaGreat
