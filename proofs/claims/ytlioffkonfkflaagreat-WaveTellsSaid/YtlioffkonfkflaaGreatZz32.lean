/- Texts of the seat, joined. -/
import Derived.Test.YtlioffkonfkflaaGreatZz31
/- The laws of package wave: their functions; the squares' sum, and the sums of angles. -/
namespace Go.Proofs.YtlioffkonfkflaaGreat
open Go Go.RowKit
set_option linter.unusedSimpArgs false
set_option linter.unusedVariables false
set_option maxRecDepth 100000

theorem sq_raw (x y a b c : IV) : runB Tryz.prog 63 #[ivv x, ivv y] [] [] [(31, rt (ivv a)), (31, rt (ivv b)), (25, rt (ivv c))] [] =
    some (rt (ivv c), [], [PureX Tryz.prog 31 #[ivv x, ivv x] (rt (ivv a)), PureX Tryz.prog 31 #[ivv y, ivv y] (rt (ivv b)), PureX Tryz.prog 25 #[ivv a, ivv b] (rt (ivv c))]) := by kernel_rfl
theorem sq_v (x y : IV) : PureX Tryz.prog 63 #[ivv x, ivv y] (rt (ivv (addV (mulV x x) (mulV y y)))) := runB_pure mix (sq_raw x y _ _ _) ⟨dmul_v plain_ok _ _, dmul_v plain_ok _ _, radd_v _ _, trivial⟩ rfl rfl
theorem mt_raw (x y a : IV) : runB Tryz.prog 64 #[ivv x, ivv y] [] [] [(35, rt (ivv a))] [] =
    some (rt (bb (!a.2.2)), [], [PureX Tryz.prog 35 #[ivv x, ivv y] (rt (ivv a))]) := by kernel_rfl
theorem mt_v {x y : IV} (h : (meetV x y).2.2 = false) : PureX Tryz.prog 64 #[ivv x, ivv y] (rt (bb true)) := by
  have r := runB_pure mix (mt_raw x y _) ⟨rmeet_v _ _, trivial⟩ rfl rfl
  rw [h] at r
  exact r
theorem same3 (x : IV) : (!((x.1 == x.1) && ((x.2.1 == x.2.1) && ((x.2.2 == x.2.2) && true)))) = false := by simp
theorem rfine6_ok (x0 x1 x2 x3 x4 x5 : IV) : runB Tryz.prog 13 #[sl 0 6] [(0, oiv [x0, x1, x2, x3, x4, x5])] [n, f, n, n, n, n, n, f, n, n, n, n, n, n, n, n, n, n, f, n, n, n, n, n, f, n, f, n, n, n, n, n, f, n, n, n, n, n, n, n, n, n, n, f, n, n, n, n, n, f, n, f, n, n, n, n, n, f, n, n, n, n, n, n, n, n, n, n, f, n, n, n, n, n, f, n, f, n, n, n, n, n, f, n, n, n, n, n, n, n, n, n, n, f, n, n, n, n, n, f, n, f, n, n, n, n, n, f, n, n, n, n, n, n, n, n, n, n, f, n, n, n, n, n, f, n, f, n, n, n, n, n, f, n, n, n, n, n, n, n, n, n, n, f, n, n, n, n, n, f, n] [] [] =
    some (rt (bb true), [(0, oiv [x0, x1, x2, x3, x4, x5])], [x0.2.2 = false, decide (x0.1 < Int.neg 1152921504606846976) = false, decide (x0.2.1 < x0.1) = false, decide (1152921504606846976 < x0.2.1) = false, x1.2.2 = false, decide (x1.1 < Int.neg 1152921504606846976) = false, decide (x1.2.1 < x1.1) = false, decide (1152921504606846976 < x1.2.1) = false, x2.2.2 = false, decide (x2.1 < Int.neg 1152921504606846976) = false, decide (x2.2.1 < x2.1) = false, decide (1152921504606846976 < x2.2.1) = false, x3.2.2 = false, decide (x3.1 < Int.neg 1152921504606846976) = false, decide (x3.2.1 < x3.1) = false, decide (1152921504606846976 < x3.2.1) = false, x4.2.2 = false, decide (x4.1 < Int.neg 1152921504606846976) = false, decide (x4.2.1 < x4.1) = false, decide (1152921504606846976 < x4.2.1) = false, x5.2.2 = false, decide (x5.1 < Int.neg 1152921504606846976) = false, decide (x5.2.1 < x5.1) = false, decide (1152921504606846976 < x5.2.1) = false]) := by kernel_rfl
theorem okD {x : IV} (h : okV x = true) : x.2.2 = false ∧ decide (x.1 < Int.neg 1152921504606846976) = false ∧ decide (x.2.1 < x.1) = false ∧ decide (1152921504606846976 < x.2.1) = false := by
  have o := okV_iff.1 h
  exact ⟨o.1, decide_eq_false (by show ¬ x.1 < -1152921504606846976; omega), decide_eq_false (by omega), decide_eq_false (by omega)⟩
theorem rfine6 (B : Nat) {x0 x1 x2 x3 x4 x5 : IV} (h0 : okV x0 = true) (h1 : okV x1 = true) (h2 : okV x2 = true) (h3 : okV x3 = true) (h4 : okV x4 = true) (h5 : okV x5 = true) :
    CallsV Tryz.prog (.func 13) #[sl B 6] [(B, oiv [x0, x1, x2, x3, x4, x5])] (rt (bb true)) [(B, oiv [x0, x1, x2, x3, x4, x5])] := by
  obtain ⟨a0, a1, a2, a3⟩ := okD h0
  obtain ⟨b0, b1, b2, b3⟩ := okD h1
  obtain ⟨c0, c1, c2, c3⟩ := okD h2
  obtain ⟨d0, d1, d2, d3⟩ := okD h3
  obtain ⟨e0, e1, e2, e3⟩ := okD h4
  obtain ⟨f0, f1, f2, f3⟩ := okD h5
  have k := runB_calls mix (rfine6_ok x0 x1 x2 x3 x4 x5) ⟨a0, a1, a2, a3, b0, b1, b2, b3, c0, c1, c2, c3, d0, d1, d2, d3, e0, e1, e2, e3, f0, f1, f2, f3, trivial⟩ rfl rfl rfl
  exact k.num (fun _ => B) (one_inj _) (fun _ h => h) rfl rfl rfl
theorem wk7_raw (p0 s c o5 o1 : IV) : runB Tryz.prog 62 #[] [] [] [(17, rt (ivv p0)), (53, rt (tp [ivv s, ivv c])), (54, rt (tp [ii (-2), ii 3, bb true])), (15, rt (ivv o5)), (56, rt (iv 0 0 true)), (15, rt (ivv o1)), (37, rt (bb true)), (17, rt (ivv p0)), (37, rt (bb true)), (21, rt (ii 0)), (21, rt (ii 0)), (60, rt (iv (-536870912) (-536870912) false)), (60, rt (iv 0 0 true))] [] =
    some (rt (bb true), [], [PureX Tryz.prog 17 #[ii 0] (rt (ivv p0)), PureX Tryz.prog 53 #[ivv p0] (rt (tp [ivv s, ivv c])), PureX Tryz.prog 54 #[iv (-4) 1 false] (rt (tp [ii (-2), ii 3, bb true])), PureX Tryz.prog 15 #[ii 5] (rt (ivv o5)), PureX Tryz.prog 56 #[ivv o5] (rt (iv 0 0 true)), PureX Tryz.prog 15 #[ii 1] (rt (ivv o1)), PureX Tryz.prog 37 #[ivv c, ivv o1] (rt (bb true)), PureX Tryz.prog 17 #[ii 0] (rt (ivv p0)), PureX Tryz.prog 37 #[ivv s, ivv p0] (rt (bb true)), PureX Tryz.prog 21 #[ivv s] (rt (ii 0)), PureX Tryz.prog 21 #[ivv s] (rt (ii 0)), PureX Tryz.prog 60 #[ii 1073741824, ii 1, bb true] (rt (iv (-536870912) (-536870912) false)), PureX Tryz.prog 60 #[ii 0, ii 14, bb true] (rt (iv 0 0 true))]) := by kernel_rfl
theorem rof_5 : runB Tryz.prog 15 #[ii 5] [] [] [] [] = some (rt (iv 5368709120 5368709120 false), [], []) := by kernel_rfl
theorem wakes7_c : PureX Tryz.prog 62 #[] (rt (bb true)) := by
  have h0 : PureX Tryz.prog 17 #[ii 0] (rt (ivv (0, 0, false))) := (rpoint_v 0).is (by kernel_rfl)
  have h1 := both_v (0, 0, false)
  have h2 : PureX Tryz.prog 54 #[iv (-4) 1 false] (rt (tp [ii (-2), ii 3, bb true])) := (mid_v (-4, 1, false)).is (by kernel_rfl)
  have h3 : PureX Tryz.prog 15 #[ii 5] (rt (ivv (5368709120, 5368709120, false))) := runB_pure mix rof_5 trivial rfl rfl
  have h4 : PureX Tryz.prog 56 #[ivv (5368709120, 5368709120, false)] (rt (iv 0 0 true)) := (wav0_v (5368709120, 5368709120, false)).is (by kernel_rfl)
  have h5 : PureX Tryz.prog 37 #[ivv (waV true (0, 0, false)), ivv (1073741824, 1073741824, false)] (rt (bb true)) := (drholds_v _ _).is (by kernel_rfl)
  have h6 : PureX Tryz.prog 37 #[ivv (waV false (0, 0, false)), ivv (0, 0, false)] (rt (bb true)) := (drholds_v _ _).is (by kernel_rfl)
  have h7 : PureX Tryz.prog 21 #[ivv (waV false (0, 0, false))] (rt (ii 0)) := (rwidth_v _).is (by kernel_rfl)
  have h8 : PureX Tryz.prog 60 #[ii 1073741824, ii 1, bb true] (rt (iv (-536870912) (-536870912) false)) := (term_v _ _ _).is (by kernel_rfl)
  have h9 : PureX Tryz.prog 60 #[ii 0, ii 14, bb true] (rt (iv 0 0 true)) := (term_v _ _ _).is (by kernel_rfl)
  exact runB_pure mix (wk7_raw _ _ _ _ _) ⟨h0, h1, h2, h3, h4, rof1_v, h5, h0, h6, h7, h7, h8, h9, trivial⟩ rfl rfl
theorem pt_hold {n : Int} (h1 : -4294967296 ≤ n) (h2 : n ≤ 4294967296) : mkV n n = (n, n, false) ∧ holdsV allV (mkV n n) = true := by
  have e : mkV n n = (n, n, false) := mkV_ok (by omega) (by omega) (by omega)
  exact ⟨e, hold_pt.2 ⟨h1, h2⟩⟩
theorem wrapW {x : IV} {B : Int} (h : Inn x B) (hB : B ≤ 1152921504606846976) : IntKind.i64.wrap (x.2.1 - x.1) = wdt x := by
  have := okV_iff.1 h.1
  rw [wrapI (by omega)]
  rfl
theorem same3p (x : IV) : ((x.1 == x.1) && ((x.2.1 == x.2.1) && ((x.2.2 == x.2.2) && true))) = true := by simp
end Go.Proofs.YtlioffkonfkflaaGreat
