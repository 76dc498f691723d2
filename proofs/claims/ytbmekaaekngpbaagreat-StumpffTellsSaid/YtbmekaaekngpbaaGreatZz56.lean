/- Texts of the seat, joined. -/
import Derived.Test.YtbmekaaekngpbaaGreatZz52
import Derived.Test.YtbmekaaekngpbaaGreatZz44
/- The laws of the four series: what they have in common. -/
namespace Go.Proofs.YtbmekaaekngpbaaGreat
open Go Go.RowKit
set_option linter.unusedSimpArgs false
set_option linter.unusedVariables false
set_option maxRecDepth 100000

def qin16 (x : Int) : Int := IntKind.i64.wrap ((IntKind.i64.wrap (x.tmod 34359738369 + 34359738369)).tmod 34359738369 - 17179869184)
theorem in16_raw (x : Int) : runB Tryz.prog 18 #[ii x, ii 17179869184] [] [] [] [] = some (rt (ii (qin16 x)), [], []) := by kernel_rfl
theorem in16_v (x : Int) : PureX Tryz.prog 18 #[ii x, ii 17179869184] (rt (ii (qin16 x))) := runB_pure mix (in16_raw x) trivial rfl rfl
theorem in16_in (x : Int) : -17179869184 ≤ qin16 x ∧ qin16 x ≤ 17179869184 := by
  unfold qin16
  have h1 := Int.tmod_lt_of_pos x (show (0 : Int) < 34359738369 by decide)
  have h2 : -34359738369 < x.tmod 34359738369 := by
    have := tm_b (a := x) (w := 34359738369) (by decide)
    omega
  generalize x.tmod 34359738369 = y at *
  rw [wrapI (z := y + 34359738369) (by omega)]
  have h3 : (y + 34359738369).tmod 34359738369 = (y + 34359738369) % 34359738369 := Int.tmod_eq_emod_of_nonneg (by omega)
  rw [h3]
  rw [wrapI (by omega)]
  omega
def qin4 (x : Int) : Int := IntKind.i64.wrap ((IntKind.i64.wrap (x.tmod 8589934593 + 8589934593)).tmod 8589934593 - 4294967296)
theorem in4_raw (x : Int) : runB Tryz.prog 18 #[ii x, ii 4294967296] [] [] [] [] = some (rt (ii (qin4 x)), [], []) := by kernel_rfl
theorem in4_v (x : Int) : PureX Tryz.prog 18 #[ii x, ii 4294967296] (rt (ii (qin4 x))) := runB_pure mix (in4_raw x) trivial rfl rfl
theorem in4_in (x : Int) : -4294967296 ≤ qin4 x ∧ qin4 x ≤ 4294967296 := by
  unfold qin4
  have h1 := Int.tmod_lt_of_pos x (show (0 : Int) < 8589934593 by decide)
  have h2 : -8589934593 < x.tmod 8589934593 := by
    have := tm_b (a := x) (w := 8589934593) (by decide)
    omega
  generalize x.tmod 8589934593 = y at *
  rw [wrapI (z := y + 8589934593) (by omega)]
  have h3 : (y + 8589934593).tmod 8589934593 = (y + 8589934593) % 8589934593 := Int.tmod_eq_emod_of_nonneg (by omega)
  rw [h3]
  rw [wrapI (by omega)]
  omega
theorem meets_raw (x y : IV) : runB Tryz.prog 27 #[ivv x, ivv y] [] [n, n, n, n, n, n, t, n, n, n, n, n] [] [(22, rt (bb true), [(1002, oiv [x, y])])] = some (rt (bb (decide (y.1 ≤ x.2.1))), [], [CallsV Tryz.prog (.func 22) #[sl 1002 2] [(1002, oiv [x, y])] (rt (bb true)) [(1002, oiv [x, y])], decide (x.1 ≤ y.2.1) = true]) := by kernel_rfl
theorem meets_v {x y : IV} (hx : okV x = true) (hy : okV y = true) (h1 : x.1 ≤ y.2.1) (h2 : y.1 ≤ x.2.1) : PureX Tryz.prog 27 #[ivv x, ivv y] (rt (bb true)) := by
  have hf := rfine_v2 1002 x y
  rw [hx, hy] at hf
  have r := runB_pure mix (meets_raw x y) ⟨hf, decide_eq_true h1, trivial⟩ rfl rfl
  rw [decide_eq_true h2] at r
  exact r
def z8 : IV := (0, 0, false)
def o8 : IV := (1073741824, 1073741824, false)
def h8 : IV := (536870912, 536870912, false)
def s8 : IV := (178956970, 178956971, false)
theorem wk8_raw : runB Tryz.prog 17 #[] [] [] [(15, rt (a4 o8 o8 h8 s8)), (9, rt (tp [ii 120, bb true])), (9, rt (tp [ii 0, bb false])), (11, rt (ivv h8)), (19, rt (ivv o8)), (25, rt (bb true)), (19, rt (ivv o8)), (25, rt (bb true)), (25, rt (bb true)), (13, rt (ivv bdV)), (13, rt (ivv bdV))] [] =
    some (rt (bb true), [], [PureX Tryz.prog 15 #[ivv z8] (rt (a4 o8 o8 h8 s8)), PureX Tryz.prog 9 #[ii 5] (rt (tp [ii 120, bb true])), PureX Tryz.prog 9 #[ii 21] (rt (tp [ii 0, bb false])), PureX Tryz.prog 11 #[ii 2, ii 0, ii 0] (rt (ivv h8)), PureX Tryz.prog 19 #[ii 1] (rt (ivv o8)), PureX Tryz.prog 25 #[ivv o8, ivv o8] (rt (bb true)), PureX Tryz.prog 19 #[ii 1] (rt (ivv o8)), PureX Tryz.prog 25 #[ivv o8, ivv o8] (rt (bb true)), PureX Tryz.prog 25 #[ivv h8, ivv h8] (rt (bb true)), PureX Tryz.prog 13 #[ii 4, ivv z8] (rt (ivv bdV)), PureX Tryz.prog 13 #[ii 0, ivv (18253611008, 18253611008, false)] (rt (ivv bdV))]) := by kernel_rfl
theorem wakes8_c : PureX Tryz.prog 17 #[] (rt (bb true)) :=
  runB_pure mix wk8_raw ⟨(all_v z8).is (by kernel_rfl), (fac_v 5).is (by kernel_rfl), (fac_v 21).is (by kernel_rfl), (sterm_v 2 0 0).is (by kernel_rfl), rof1_v, (drholds_v o8 o8).is (by kernel_rfl), rof1_v, (drholds_v o8 o8).is (by kernel_rfl), (drholds_v h8 h8).is (by kernel_rfl), (c_v 4 z8).is (by kernel_rfl), (c_v 0 (18253611008, 18253611008, false)).is (by kernel_rfl), trivial⟩ rfl rfl
end Go.Proofs.YtbmekaaekngpbaaGreat
