/- Texts of the seat, joined. -/
import Derived.Test.YtmikjgflenbljaaZz18
/- The law's closed words. -/
namespace Go.Proofs.Ytmikjgflenbljaa
open Go Go.RowKit
set_option linter.unusedSimpArgs false
set_option linter.unusedVariables false
set_option maxRecDepth 100000

theorem wakes_raw : runF Try.prog 1000 [] 7 #[] [] [] [(36, rt (tp [ii 25, ii 0]))] [] [] = some (rt (bb true), [], [PureX Try.prog 36 #[vc 0 0 0, vc 3 0 4] (rt (tp [ii 25, ii 0]))]) := by kernel_rfl
theorem wakes_c : PureX Try.prog 7 #[] (rt (bb true)) := runF_pure mix wakes_raw ⟨far_v (0, 0, 0) (3, 0, 4), trivial⟩ rfl rfl
end Go.Proofs.Ytmikjgflenbljaa
