/- Texts of the seat, joined. -/
import Derived.Test.YtcjjckokaiobcaaDoorZz9
/- A method's parts, and its step's operations, as the document tells them. -/
namespace Go.Proofs.YtcjjckokaiobcaaDoor
open Go Go.RowKit
set_option linter.unusedSimpArgs false
set_option linter.unusedVariables false
set_option maxRecDepth 100000

theorem dp_0 : runF Tryd.prog 1000 [1002] 10 #[ii 0] [] [] [] [] [] = some (rt (mkA (slw 1002 0 1 capU)), [(1002, KI.own (parN 0))], []) := by kernel_rfl
theorem dp_1 : runF Tryd.prog 1000 [1004] 10 #[ii 1] [] [] [] [] [] = some (rt (mkA (slw 1004 0 3 capU)), [(1004, KI.own (parN 1))], []) := by kernel_rfl
theorem dp_2 : runF Tryd.prog 1000 [1008] 10 #[ii 2] [] [] [] [] [] = some (rt (mkA (slw 1008 0 7 capU)), [(1008, KI.own (parN 2))], []) := by kernel_rfl
theorem dp_3 : runF Tryd.prog 1000 [1016] 10 #[ii 3] [] [] [] [] [] = some (rt (mkA (slw 1016 0 15 capU)), [(1016, KI.own (parN 3))], []) := by kernel_rfl
theorem dp_4 : runF Tryd.prog 1000 [1000] 10 #[ii 4] [] [] [] [] [] = some (rt (mkA (slw 1000 0 0 0)), [(1000, .cells ⟨[]⟩ 3 (0, 0))], []) := by kernel_rfl
theorem do_0 : runF Tryd.prog 1000 [1005] 12 #[ii 0] [] [] [] [] [] = some (rt (mkA (slw 1005 0 3 capU)), [(1005, KO.own (opsL 0))], []) := by kernel_rfl
theorem do_1 : runF Tryd.prog 1000 [1013] 12 #[ii 1] [] [] [] [] [] = some (rt (mkA (slw 1013 0 9 capU)), [(1013, KO.own (opsL 1))], []) := by kernel_rfl
theorem do_2 : runF Tryd.prog 1000 [1029] 12 #[ii 2] [] [] [] [] [] = some (rt (mkA (slw 1029 0 21 capU)), [(1029, KO.own (opsL 2))], []) := by kernel_rfl
theorem do_4 : runF Tryd.prog 1000 [1005] 12 #[ii 4] [] [] [] [] [] = some (rt (mkA (slw 1005 0 7 capU)), [(1005, KO.own (opsL 4))], []) := by kernel_rfl
theorem dpb_hi (a : Int) : runF Tryd.prog 1000 [] 10 #[ii a] [] [f, n, t] [] [] [] = some (rt (tp [sl0, ii 2]), [], [decide (a < 0) = false, decide (5 ≤ a) = true]) := by kernel_rfl
theorem dpb_lo (a : Int) : runF Tryd.prog 1000 [] 10 #[ii a] [] [t, n, n] [] [] [] = some (rt (tp [sl0, ii 2]), [], [decide (a < 0) = true]) := by kernel_rfl
theorem dpb (a : Int) (h : (decide (0 ≤ a) && decide (a ≤ 4)) = false) : PureX Tryd.prog 10 #[ii a] (rt (tp [sl0, ii 2])) := by
  by_cases h0 : a < 0
  · exact runF_pure mix (dpb_lo a) ⟨decide_eq_true h0, trivial⟩ rfl rfl
  · exact runF_pure mix (dpb_hi a) ⟨decide_eq_false h0, decide_eq_true (by simp at h; omega), trivial⟩ rfl rfl
theorem dob_hi (a : Int) : runF Tryd.prog 1000 [] 12 #[ii a] [] [f, n, t, n] [] [] [] = some (rt (tp [sl0, ii 2]), [], [decide (a < 0) = false, decide (5 ≤ a) = true]) := by kernel_rfl
theorem dob_lo (a : Int) : runF Tryd.prog 1000 [] 12 #[ii a] [] [t, n, n, n] [] [] [] = some (rt (tp [sl0, ii 2]), [], [decide (a < 0) = true]) := by kernel_rfl
theorem dob (a : Int) (h : (decide (0 ≤ a) && decide (a ≤ 4)) = false) : PureX Tryd.prog 12 #[ii a] (rt (tp [sl0, ii 2])) := by
  by_cases h0 : a < 0
  · exact runF_pure mix (dob_lo a) ⟨decide_eq_true h0, trivial⟩ rfl rfl
  · exact runF_pure mix (dob_hi a) ⟨decide_eq_false h0, decide_eq_true (by simp at h; omega), trivial⟩ rfl rfl
theorem dnb_hi (a : Int) : runF Tryd.prog 1000 [] 22 #[ii a] [] [f, n, t] [] [] [] = some (rt (.string ⟨⟨[]⟩⟩), [], [decide (a < 0) = false, decide (5 ≤ a) = true]) := by kernel_rfl
theorem dnb_lo (a : Int) : runF Tryd.prog 1000 [] 22 #[ii a] [] [t, n, n] [] [] [] = some (rt (.string ⟨⟨[]⟩⟩), [], [decide (a < 0) = true]) := by kernel_rfl
theorem dname_no (a : Int) (h : (decide (0 ≤ a) && decide (a ≤ 4)) = false) : PureX Tryd.prog 22 #[ii a] (rt (.string ⟨⟨[]⟩⟩)) := by
  by_cases h0 : a < 0
  · exact runF_pure mix (dnb_lo a) ⟨decide_eq_true h0, trivial⟩ rfl rfl
  · exact runF_pure mix (dnb_hi a) ⟨decide_eq_false h0, decide_eq_true (by simp at h; omega), trivial⟩ rfl rfl
theorem dname_0 : PureX Tryd.prog 22 #[ii 0] (rt (.string ⟨⟨[108, 101, 97, 112, 102, 114, 111, 103]⟩⟩)) := runF_pure mix (show runF Tryd.prog 1000 [] 22 #[ii 0] [] [] [] [] [] = some (rt (.string ⟨⟨[108, 101, 97, 112, 102, 114, 111, 103]⟩⟩), [], []) by kernel_rfl) trivial rfl rfl
theorem dname_1 : PureX Tryd.prog 22 #[ii 1] (rt (.string ⟨⟨[116, 104, 114, 101, 101]⟩⟩)) := runF_pure mix (show runF Tryd.prog 1000 [] 22 #[ii 1] [] [] [] [] [] = some (rt (.string ⟨⟨[116, 104, 114, 101, 101]⟩⟩), [], []) by kernel_rfl) trivial rfl rfl
theorem dname_2 : PureX Tryd.prog 22 #[ii 2] (rt (.string ⟨⟨[115, 101, 118, 101, 110]⟩⟩)) := runF_pure mix (show runF Tryd.prog 1000 [] 22 #[ii 2] [] [] [] [] [] = some (rt (.string ⟨⟨[115, 101, 118, 101, 110]⟩⟩), [], []) by kernel_rfl) trivial rfl rfl
theorem dname_3 : PureX Tryd.prog 22 #[ii 3] (rt (.string ⟨⟨[102, 105, 102, 116, 101, 101, 110]⟩⟩)) := runF_pure mix (show runF Tryd.prog 1000 [] 22 #[ii 3] [] [] [] [] [] = some (rt (.string ⟨⟨[102, 105, 102, 116, 101, 101, 110]⟩⟩), [], []) by kernel_rfl) trivial rfl rfl
theorem dname_4 : PureX Tryd.prog 22 #[ii 4] (rt (.string ⟨⟨[116, 117, 114, 110, 105, 110, 103]⟩⟩)) := runF_pure mix (show runF Tryd.prog 1000 [] 22 #[ii 4] [] [] [] [] [] = some (rt (.string ⟨⟨[116, 117, 114, 110, 105, 110, 103]⟩⟩), [], []) by kernel_rfl) trivial rfl rfl
theorem dparts_0 : NewA KI Tryd.prog 10 (fun _ => #[ii 0]) [] KI mkA (parN 0) := newA_0 (k := 1002) (o := KI.own (parN 0)) (cc := capU) mkA_ren (fun _ => rfl) (.inl ⟨rfl, rfl⟩) (runF_calls mix dp_0 trivial rfl rfl)
theorem dparts_1 : NewA KI Tryd.prog 10 (fun _ => #[ii 1]) [] KI mkA (parN 1) := newA_0 (k := 1004) (o := KI.own (parN 1)) (cc := capU) mkA_ren (fun _ => rfl) (.inl ⟨rfl, rfl⟩) (runF_calls mix dp_1 trivial rfl rfl)
theorem dparts_2 : NewA KI Tryd.prog 10 (fun _ => #[ii 2]) [] KI mkA (parN 2) := newA_0 (k := 1008) (o := KI.own (parN 2)) (cc := capU) mkA_ren (fun _ => rfl) (.inl ⟨rfl, rfl⟩) (runF_calls mix dp_2 trivial rfl rfl)
theorem dparts_3 : NewA KI Tryd.prog 10 (fun _ => #[ii 3]) [] KI mkA (parN 3) := newA_0 (k := 1016) (o := KI.own (parN 3)) (cc := capU) mkA_ren (fun _ => rfl) (.inl ⟨rfl, rfl⟩) (runF_calls mix dp_3 trivial rfl rfl)
theorem dparts_4 : NewA KI Tryd.prog 10 (fun _ => #[ii 4]) [] KI mkA [] := newA_0 (k := 1000) (o := .cells ⟨[]⟩ 3 (0, 0)) (cc := 0) mkA_ren (fun _ => rfl) (.inr (.inr ⟨rfl, rfl, by decide⟩)) (runF_calls mix dp_4 trivial rfl rfl)
theorem dops_0 : NewA KI Tryd.prog 12 (fun _ => #[ii 0]) [] KO mkA (opsL 0) := newA_0 (k := 1005) (o := KO.own (opsL 0)) (cc := capU) mkA_ren (fun _ => rfl) (.inl ⟨rfl, rfl⟩) (runF_calls mix do_0 trivial rfl rfl)
theorem dops_1 : NewA KI Tryd.prog 12 (fun _ => #[ii 1]) [] KO mkA (opsL 1) := newA_0 (k := 1013) (o := KO.own (opsL 1)) (cc := capU) mkA_ren (fun _ => rfl) (.inl ⟨rfl, rfl⟩) (runF_calls mix do_1 trivial rfl rfl)
theorem dops_2 : NewA KI Tryd.prog 12 (fun _ => #[ii 2]) [] KO mkA (opsL 2) := newA_0 (k := 1029) (o := KO.own (opsL 2)) (cc := capU) mkA_ren (fun _ => rfl) (.inl ⟨rfl, rfl⟩) (runF_calls mix do_2 trivial rfl rfl)
theorem dops_4 : NewA KI Tryd.prog 12 (fun _ => #[ii 4]) [] KO mkA (opsL 4) := newA_0 (k := 1005) (o := KO.own (opsL 4)) (cc := capU) mkA_ren (fun _ => rfl) (.inl ⟨rfl, rfl⟩) (runF_calls mix do_4 trivial rfl rfl)

end Go.Proofs.YtcjjckokaiobcaaDoor

/- The operations of the method of fifteen parts, as the document tells them. -/
namespace Go.Proofs.YtcjjckokaiobcaaDoor
open Go Go.RowKit
set_option linter.unusedSimpArgs false
set_option linter.unusedVariables false
set_option maxRecDepth 100000

theorem do_3 : runF Tryd.prog 1000 [1061] 12 #[ii 3] [] [] [] [] [] = some (rt (mkA (slw 1061 0 45 capU)), [(1061, KO.own (opsL 3))], []) := by kernel_rfl
theorem dops_3 : NewA KI Tryd.prog 12 (fun _ => #[ii 3]) [] KO mkA (opsL 3) := newA_0 (k := 1061) (o := KO.own (opsL 3)) (cc := capU) mkA_ren (fun _ => rfl) (.inl ⟨rfl, rfl⟩) (runF_calls mix do_3 trivial rfl rfl)

end Go.Proofs.YtcjjckokaiobcaaDoor
