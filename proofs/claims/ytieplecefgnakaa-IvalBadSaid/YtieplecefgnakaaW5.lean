/- IvalBad, walked. -/
import Derived.Test.YtieplecefgnakaaK14
namespace Go.Proofs.Ytieplecefgnakaa
open Go Go.RowKit
set_option linter.unusedSimpArgs false
set_option linter.unusedVariables false

section
variable (l h : Int) (p : Bool) (m k : Int) (q : Bool)
theorem l5_t : runB Try.prog 5 #[iv l h p, iv m k q] [] [] [(7, rt (bb true))] [(6, rt (bb true), [(1002, oiv [(l, h, p)])])] =
    some (rt (bb true), [], [CallsV Try.prog (.func 6) #[sl 1002 1] [(1002, oiv [(l, h, p)])] (rt (bb true)) [(1002, oiv [(l, h, p)])], PureX Try.prog 7 #[] (rt (bb true))]) := by kernel_rfl
theorem l5_f : runB Try.prog 5 #[iv l h p, iv m k q] [] [] [(12, rt bad), (13, rt bad), (16, rt bad), (11, rt bad), (18, rt bad), (10, rt bad), (9, rt (bb false)), (9, rt (bb false)), (19, rt (ii (-1))), (15, rt bad), (20, rt bad), (15, rt (iv 1152921504606846976 1152921504606846976 false)), (7, rt (bb true))]
      [(6, rt (bb false), [(1002, oiv [(l, h, p)])]), (17, rt (bb false), [(1004, oiv [(l, h, p)])]), (8, rt bad, [(1005, oiv [(m, k, q), (l, h, p)])])] =
    some (rt (bb true), [], [CallsV Try.prog (.func 6) #[sl 1002 1] [(1002, oiv [(l, h, p)])] (rt (bb false)) [(1002, oiv [(l, h, p)])],
      CallsV Try.prog (.func 17) #[sl 1004 1] [(1004, oiv [(l, h, p)])] (rt (bb false)) [(1004, oiv [(l, h, p)])],
      PureX Try.prog 12 #[iv l h p, iv m k q] (rt bad), PureX Try.prog 13 #[iv m k q, iv l h p] (rt bad), PureX Try.prog 16 #[iv l h p] (rt bad), PureX Try.prog 11 #[iv m k q, iv l h p] (rt bad), PureX Try.prog 18 #[iv l h p, ii 1, ii 1] (rt bad),
      CallsV Try.prog (.func 8) #[sl 1005 2] [(1005, oiv [(m, k, q), (l, h, p)])] (rt bad) [(1005, oiv [(m, k, q), (l, h, p)])],
      PureX Try.prog 10 #[iv l h p, iv m k q] (rt bad), PureX Try.prog 9 #[iv l h p, iv m k q] (rt (bb false)), PureX Try.prog 9 #[iv m k q, iv l h p] (rt (bb false)), PureX Try.prog 19 #[iv l h p] (rt (ii (-1))),
      PureX Try.prog 15 #[ii 1152921504606846977] (rt bad), PureX Try.prog 20 #[ii 0, ii (-1152921504606846977)] (rt bad), PureX Try.prog 15 #[ii 1152921504606846976] (rt (iv 1152921504606846976 1152921504606846976 false)), PureX Try.prog 7 #[] (rt (bb true))]) := by kernel_rfl
end
theorem bad_walk (x y : IV) : PureX Try.prog 5 #[ivv x, ivv y] (rt (bb true)) := by
  have hf := rfine_v1 1002 x
  cases hx : okV x
  · rw [hx] at hf
    have hf2 := fine_v1 1004 x
    rw [hx] at hf2
    obtain ⟨e1, e2, e3, e4, e5, e6, e7, e8, e9, e10, e11, e12, e13, e14⟩ := okV_no (y := y) hx
    have a1 := add_v x y
    have a2 := isub_v y x
    have a3 := ineg_v x
    have a4 := imul_v y x
    have a5 := part_v x (n := 1) (d := 1) (by decide) (by decide)
    have a6 := hull_v 1005 y x
    have a7 := meet_v x y
    have a8 := holds_v x y
    have a9 := holds_v y x
    have a10 := width_v x
    rw [e1] at a1
    rw [e4] at a2
    rw [e5] at a3
    rw [e7] at a4
    have e0 : partV x 1 1 = bdV := by simp [partV, partP, hx]
    rw [e0] at a5
    rw [e11] at a6
    rw [e8] at a7
    rw [e12] at a8
    rw [e13] at a9
    rw [e14] at a10
    exact runB_pure mix (l5_f _ _ _ _ _ _) ⟨hf, hf2, a1, a2, a3, a4, a5, a6, a7, a8, a9, a10, (point_v 1152921504606846977).is (show _ = rt bad from by kernel_rfl), (make_v 0 (-1152921504606846977)).is (show _ = rt bad from by kernel_rfl), (point_v 1152921504606846976).is (show _ = rt (iv 1152921504606846976 1152921504606846976 false) from by kernel_rfl), wakes5_c, trivial⟩ rfl rfl
  · rw [hx] at hf
    exact runB_pure mix (l5_t _ _ _ _ _ _) ⟨hf, wakes5_c, trivial⟩ rfl rfl

end Go.Proofs.Ytieplecefgnakaa
