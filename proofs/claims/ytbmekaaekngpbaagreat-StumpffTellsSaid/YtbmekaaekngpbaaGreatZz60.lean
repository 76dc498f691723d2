/- Texts of the seat, joined. -/
import Derived.Test.YtbmekaaekngpbaaGreatZz54
import Derived.Test.YtbmekaaekngpbaaGreatZz56
/- The law that tells, walked. -/
namespace Go.Proofs.YtbmekaaekngpbaaGreat
open Go Go.RowKit
set_option linter.unusedSimpArgs false
set_option linter.unusedVariables false
set_option maxRecDepth 100000

theorem l3_raw (k p n1 i : Int) (o : Bool) (a u c x y z w : IV) : runB Tryz.prog 3 #[ii k, ii p, ii n1, ivv a] [] [t, n, n, t, n, n, n, n, n, n, n, n, t, n, n, n, n, n, n, t, n, n, n, n, t] [(9, rt (tp [ii i, bb o])), (10, rt (tp [ii i, bb o])), (11, rt (ivv u)), (12, rt (ivv u)), (13, rt (ivv c)), (14, rt (ivv c)), (15, rt (a4 x y z w)), (16, rt (a4 x y z w)), (17, rt (bb true))] [] =
    some (rt (bb true), [], [PureX Tryz.prog 9 #[ii n1] (rt (tp [ii i, bb o])), PureX Tryz.prog 10 #[ii n1] (rt (tp [ii i, bb o])), (i == i) = true, (o == o) = true, PureX Tryz.prog 11 #[ii k, ii p, ii n1] (rt (ivv u)), PureX Tryz.prog 12 #[ii k, ii p, ii n1] (rt (ivv u)), ((u.1 == u.1) && ((u.2.1 == u.2.1) && ((u.2.2 == u.2.2) && true))) = true, PureX Tryz.prog 13 #[ii k, ivv a] (rt (ivv c)), PureX Tryz.prog 14 #[ii k, ivv a] (rt (ivv c)), ((c.1 == c.1) && ((c.2.1 == c.2.1) && ((c.2.2 == c.2.2) && true))) = true, PureX Tryz.prog 15 #[ivv a] (rt (a4 x y z w)), PureX Tryz.prog 16 #[ivv a] (rt (a4 x y z w)), (((x.1 == x.1) && ((x.2.1 == x.2.1) && ((x.2.2 == x.2.2) && true))) && (((y.1 == y.1) && ((y.2.1 == y.2.1) && ((y.2.2 == y.2.2) && true))) && (((z.1 == z.1) && ((z.2.1 == z.2.1) && ((z.2.2 == z.2.2) && true))) && (((w.1 == w.1) && ((w.2.1 == w.2.1) && ((w.2.2 == w.2.2) && true))) && true)))) = true, PureX Tryz.prog 17 #[] (rt (bb true))]) := by kernel_rfl
theorem eqt (x : IV) : ((x.1 == x.1) && ((x.2.1 == x.2.1) && ((x.2.2 == x.2.2) && true))) = true := by simp
theorem facT_any (n1 : Int) : ∃ (i : Int) (o : Bool), facT n1 = tp [ii i, bb o] := by
  unfold facT
  split
  · exact ⟨_, _, rfl⟩
  · exact ⟨_, _, rfl⟩
theorem tells8_walk (k p n1 : Int) (a : IV) : PureX Tryz.prog 3 #[ii k, ii p, ii n1, ivv a] (rt (bb true)) := by
  obtain ⟨i, o, e⟩ := facT_any n1
  have h1 := fac_v n1
  have h2 := dfac_v n1
  rw [e] at h1 h2
  exact runB_pure mix (l3_raw k p n1 i o a _ _ _ _ _ _) ⟨h1, h2, by simp, by simp, sterm_v k p n1, dterm8_v k p n1, eqt _, c_v k a, dc_v k a, eqt _, all_v a, dall_v a, by simp only [eqt, Bool.and_self], wakes8_c, trivial⟩ rfl rfl
end Go.Proofs.YtbmekaaekngpbaaGreat
