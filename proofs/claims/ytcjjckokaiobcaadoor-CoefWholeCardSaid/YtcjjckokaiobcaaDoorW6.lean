/- CoefWhole. -/
import Derived.Test.YtcjjckokaiobcaaDoorW3t
import Derived.Test.YtcjjckokaiobcaaDoorW3a
import Derived.Test.YtcjjckokaiobcaaDoorW4
import Derived.Test.YtcjjckokaiobcaaDoorW5
namespace Go.Proofs.YtcjjckokaiobcaaDoor
open Go Go.RowKit
set_option linter.unusedSimpArgs false
set_option linter.unusedVariables false
set_option maxRecDepth 100000

theorem wb_lo (a : Int) : runF Tryd.prog 1000 [] 4 #[ii a] [] [t] [(21, rt (.string ⟨⟨[]⟩⟩)), (8, rt (bb true))] [(11, rt (tp [sl0, ii 2]), []), (9, rt (tp [sl0, ii 2]), [])] [] = some (rt (bb true), [], [CallsV Tryd.prog (.func 11) #[ii a] [] (rt (tp [sl0, ii 2])) [], CallsV Tryd.prog (.func 9) #[ii a] [] (rt (tp [sl0, ii 2])) [], decide (a < 0) = true, PureX Tryd.prog 21 #[ii a] (rt (.string ⟨⟨[]⟩⟩)), PureX Tryd.prog 8 #[] (rt (bb true))]) := by kernel_rfl
theorem wb_hi (a : Int) : runF Tryd.prog 1000 [] 4 #[ii a] [] [f, n, t] [(21, rt (.string ⟨⟨[]⟩⟩)), (8, rt (bb true))] [(11, rt (tp [sl0, ii 2]), []), (9, rt (tp [sl0, ii 2]), [])] [] = some (rt (bb true), [], [CallsV Tryd.prog (.func 11) #[ii a] [] (rt (tp [sl0, ii 2])) [], CallsV Tryd.prog (.func 9) #[ii a] [] (rt (tp [sl0, ii 2])) [], decide (a < 0) = false, decide (5 ≤ a) = true, PureX Tryd.prog 21 #[ii a] (rt (.string ⟨⟨[]⟩⟩)), PureX Tryd.prog 8 #[] (rt (bb true))]) := by kernel_rfl
/-- A step's operations, whatever the method. -/
theorem whole_ok (a : Int) : PureX Tryd.prog 4 #[ii a] (rt (bb true)) := by
  cases h : (decide (0 ≤ a) && decide (a ≤ 4))
  · by_cases h0 : a < 0
    · exact runF_pure mix (wb_lo a) ⟨callsV_pure (ops_bad a h) rfl rfl, callsV_pure (parts_bad a h) rfl rfl, decide_eq_true h0, name_no a h, wakes_c, trivial⟩ rfl rfl
    · exact runF_pure mix (wb_hi a) ⟨callsV_pure (ops_bad a h) rfl rfl, callsV_pure (parts_bad a h) rfl rfl, decide_eq_false h0, decide_eq_true (by simp at h; omega), name_no a h, wakes_c, trivial⟩ rfl rfl
  · simp only [Bool.and_eq_true, decide_eq_true_eq] at h
    have : a = 0 ∨ a = 1 ∨ a = 2 ∨ a = 3 ∨ a = 4 := by omega
    rcases this with rfl | rfl | rfl | rfl | rfl
    · exact whole_0
    · exact whole_1
    · exact whole_2
    · exact whole_3
    · exact whole_4

end Go.Proofs.YtcjjckokaiobcaaDoor
