/- Texts of the seat, joined. -/
import Derived.Test.YtlioffkonfkflaaGreatZz31
/- The laws of package wave: their functions; the squares' sum, and the sums of angles. -/
namespace Go.Proofs.YtlioffkonfkflaaGreat
open Go Go.RowKit
set_option linter.unusedSimpArgs false
set_option linter.unusedVariables false
set_option maxRecDepth 100000

theorem sq_raw (x y a b c : IV) : runB Tryz.prog 63 #[ivv x, ivv y] [] [] [(31, rt (ivv a)), (31, rt (ivv b)), (25, rt (ivv c))] [] =
    some (rt (ivv c), [], [PureX Tryz.prog 31 #[ivv x, ivv x] (rt (ivv a)), PureX Tryz.prog 31 #[ivv y, ivv y] (rt (ivv b)), PureX Tryz.prog 25 #[ivv a, ivv b] (rt (ivv c))]) := by kernel_rfl
theorem sq_v (x y : IV) : PureX Tryz.prog 63 #[ivv x, ivv y] (rt (ivv (addV (mulV x x) (mulV y y)))) := runB_pure mix (sq_raw x y _ _ _) ⟨dmul_v plain_ok _ _, dmul_v plain_ok _ _, radd_v _ _, trivial⟩ rfl rfl
theorem mt_raw (x y a : IV) : runB Tryz.prog 64 #[ivv x, ivv y] [] [] [(35, rt (ivv a))] [] =
    some (rt (bb (!a.2.2)), [], [PureX Tryz.prog 35 #[ivv x, ivv y] (rt (ivv a))]) := by kernel_rfl
theorem mt_v {x y : IV} (h : (meetV x y).2.2 = false) : PureX Tryz.prog 64 #[ivv x, ivv y] (rt (bb true)) := by
  have r := runB_pure mix (mt_raw x y _) ⟨rmeet_v _ _, trivial⟩ rfl rfl
  rw [h] at r
  exact r
theorem same3 (x : IV) : (!((x.1 == x.1) && ((x.2.1 == x.2.1) && ((x.2.2 == x.2.2) && true)))) = false := by simp
theorem rfine6_ok (x0 x1 x2 x3 x4 x5 : IV) : runB Tryz.prog 13 #[sl 0 6] [(0, oiv [x0, x1, x2, x3, x4, x5])] [n, f, n, n, n, n, n, f, n, n, n, n, n, n, n, n, n, n, f, n, n, n, n, n, f, n, f, n, n, n, n, n, f, n, n, n, n, n, n, n, n, n, n, f, n, n, n, n, n, f, n, f, n, n, n, n, n, f, n, n, n, n, n, n, n, n, n, n, f, n, n, n, n, n, f, n, f, n, n, n, n, n, f, n, n, n, n, n, n, n, n, n, n, f, n, n, n, n, n, f, n, f, n, n, n, n, n, f, n, n, n, n, n, n, n, n, n, n, f, n, n, n, n, n, f, n, f, n, n, n, n, n, f, n, n, n, n, n, n, n, n, n, n, f, n, n, n, n, n, f, n] [] [] =
    some (rt (bb true), [(0, oiv [x0, x1, x2, x3, x4, x5])], [x0.2.2 = false, decide (x0.1 < Int.neg 1152921504606846976) = false, decide (x0.2.1 < x0.1) = false, decide (1152921504606846976 < x0.2.1) = false, x1.2.2 = false, decide (x1.1 < Int.neg 1152921504606846976) = false, decide (x1.2.1 < x1.1) = false, decide (1152921504606846976 < x1.2.1) = false, x2.2.2 = false, decide (x2.1 < Int.neg 1152921504606846976) = false, decide (x2.2.1 < x2.1) = false, decide (1152921504606846976 < x2.2.1) = false, x3.2.2 = false, decide (x3.1 < Int.neg 1152921504606846976) = false, decide (x3.2.1 < x3.1) = false, decide (1152921504606846976 < x3.2.1) = false, x4.2.2 = false, decide (x4.1 < Int.neg 1152921504606846976) = false, decide (x4.2.1 < x4.1) = false, decide (1152921504606846976 < x4.2.1) = false, x5.2.2 = false, decide (x5.1 < Int.neg 1152921504606846976) = false, decide (x5.2.1 < x5.1) = false, decide (1152921504606846976 < x5.2.1) = false]) := by kernel_rfl
theorem okD {x : IV} (h : okV x = true) : x.2.2 = false ∧ decide (x.1 < Int.neg 1152921504606846976) = false ∧ decide (x.2.1 < x.1) = false ∧ decide (1152921504606846976 < x.2.1) = false := by
  have o := okV_iff.1 h
  exact ⟨o.1, decide_eq_false (by show ¬ x.1 < -1152921504606846976; omega), decide_eq_false (by omega), decide_eq_false (by omega)⟩
theorem rfine6 (B : Nat) {x0 x1 x2 x3 x4 x5 : IV} (h0 : okV x0 = true) (h1 : okV x1 = true) (h2 : okV x2 = true) (h3 : okV x3 = true) (h4 : okV x4 = true) (h5 : okV x5 = true) :
    CallsV Tryz.prog (.func 13) #[sl B 6] [(B, oiv [x0, x1, x2, x3, x4, x5])] (rt (bb true)) [(B, oiv [x0, x1, x2, x3, x4, x5])] := by
  obtain ⟨a0, a1, a2, a3⟩ := okD h0
  obtain ⟨b0, b1, b2, b3⟩ := okD h1
  obtain ⟨c0, c1, c2, c3⟩ := okD h2
  obtain ⟨d0, d1, d2, d3⟩ := okD h3
  obtain ⟨e0, e1, e2, e3⟩ := okD h4
  obtain ⟨f0, f1, f2, f3⟩ := okD h5
  have k := runB_calls mix (rfine6_ok x0 x1 x2 x3 x4 x5) ⟨a0, a1, a2, a3, b0, b1, b2, b3, c0, c1, c2, c3, d0, d1, d2, d3, e0, e1, e2, e3, f0, f1, f2, f3, trivial⟩ rfl rfl rfl
  exact k.num (fun _ => B) (one_inj _) (fun _ h => h) rfl rfl rfl
theorem wk7_raw (p0 s c o5 o1 : IV) : runB Tryz.prog 62 #[] [] [] [(17, rt (ivv p0)), (53, rt (tp [ivv s, ivv c])), (54, rt (tp [ii (-2), ii 3, bb true])), (15, rt (ivv o5)), (56, rt (iv 0 0 true)), (15, rt (ivv o1)), (37, rt (bb true)), (17, rt (ivv p0)), (37, rt (bb true)), (21, rt (ii 0)), (21, rt (ii 0)), (60, rt (iv (-536870912) (-536870912) false)), (60, rt (iv 0 0 true))] [] =
    some (rt (bb true), [], [PureX Tryz.prog 17 #[ii 0] (rt (ivv p0)), PureX Tryz.prog 53 #[ivv p0] (rt (tp [ivv s, ivv c])), PureX Tryz.prog 54 #[iv (-4) 1 false] (rt (tp [ii (-2), ii 3, bb true])), PureX Tryz.prog 15 #[ii 5] (rt (ivv o5)), PureX Tryz.prog 56 #[ivv o5] (rt (iv 0 0 true)), PureX Tryz.prog 15 #[ii 1] (rt (ivv o1)), PureX Tryz.prog 37 #[ivv c, ivv o1] (rt (bb true)), PureX Tryz.prog 17 #[ii 0] (rt (ivv p0)), PureX Tryz.prog 37 #[ivv s, ivv p0] (rt (bb true)), PureX Tryz.prog 21 #[ivv s] (rt (ii 0)), PureX Tryz.prog 21 #[ivv s] (rt (ii 0)), PureX Tryz.prog 60 #[ii 1073741824, ii 1, bb true] (rt (iv (-536870912) (-536870912) false)), PureX Tryz.prog 60 #[ii 0, ii 14, bb true] (rt (iv 0 0 true))]) := by kernel_rfl
theorem rof_5 : runB Tryz.prog 15 #[ii 5] [] [] [] [] = some (rt (iv 5368709120 5368709120 false), [], []) := by kernel_rfl
theorem wakes7_c : PureX Tryz.prog 62 #[] (rt (bb true)) := by
  have h0 : PureX Tryz.prog 17 #[ii 0] (rt (ivv (0, 0, false))) := (rpoint_v 0).is (by kernel_rfl)
  have h1 := both_v (0, 0, false)
  have h2 : PureX Tryz.prog 54 #[iv (-4) 1 false] (rt (tp [ii (-2), ii 3, bb true])) := (mid_v (-4, 1, false)).is (by kernel_rfl)
  have h3 : PureX Tryz.prog 15 #[ii 5] (rt (ivv (5368709120, 5368709120, false))) := runB_pure mix rof_5 trivial rfl rfl
  have h4 : PureX Tryz.prog 56 #[ivv (5368709120, 5368709120, false)] (rt (iv 0 0 true)) := (wav0_v (5368709120, 5368709120, false)).is (by kernel_rfl)
  have h5 : PureX Tryz.prog 37 #[ivv (waV true (0, 0, false)), ivv (1073741824, 1073741824, false)] (rt (bb true)) := (drholds_v _ _).is (by kernel_rfl)
  have h6 : PureX Tryz.prog 37 #[ivv (waV false (0, 0, false)), ivv (0, 0, false)] (rt (bb true)) := (drholds_v _ _).is (by kernel_rfl)
  have h7 : PureX Tryz.prog 21 #[ivv (waV false (0, 0, false))] (rt (ii 0)) := (rwidth_v _).is (by kernel_rfl)
  have h8 : PureX Tryz.prog 60 #[ii 1073741824, ii 1, bb true] (rt (iv (-536870912) (-536870912) false)) := (term_v _ _ _).is (by kernel_rfl)
  have h9 : PureX Tryz.prog 60 #[ii 0, ii 14, bb true] (rt (iv 0 0 true)) := (term_v _ _ _).is (by kernel_rfl)
  exact runB_pure mix (wk7_raw _ _ _ _ _) ⟨h0, h1, h2, h3, h4, rof1_v, h5, h0, h6, h7, h7, h8, h9, trivial⟩ rfl rfl
theorem pt_hold {n : Int} (h1 : -4294967296 ≤ n) (h2 : n ≤ 4294967296) : mkV n n = (n, n, false) ∧ holdsV allV (mkV n n) = true := by
  have e : mkV n n = (n, n, false) := mkV_ok (by omega) (by omega) (by omega)
  exact ⟨e, hold_pt.2 ⟨h1, h2⟩⟩
theorem wrapW {x : IV} {B : Int} (h : Inn x B) (hB : B ≤ 1152921504606846976) : IntKind.i64.wrap (x.2.1 - x.1) = wdt x := by
  have := okV_iff.1 h.1
  rw [wrapI (by omega)]
  rfl
theorem same3p (x : IV) : ((x.1 == x.1) && ((x.2.1 == x.2.1) && ((x.2.2 == x.2.2) && true))) = true := by simp
end Go.Proofs.YtlioffkonfkflaaGreat

/- The squares' sum, and the sums of angles. -/
namespace Go.Proofs.YtlioffkonfkflaaGreat
open Go Go.RowKit
set_option linter.unusedSimpArgs false
set_option linter.unusedVariables false
set_option maxRecDepth 100000

theorem l7_no (x al : IV) : runB Tryz.prog 7 #[ivv x] [] [] [(19, rt (ivv al)), (37, rt (bb false)), (62, rt (bb true))] [] =
    some (rt (bb true), [], [PureX Tryz.prog 19 #[ii (-4294967296), ii 4294967296] (rt (ivv al)), PureX Tryz.prog 37 #[ivv al, ivv x] (rt (bb false)), PureX Tryz.prog 62 #[] (rt (bb true))]) := by kernel_rfl
theorem l7_ok (x al y z v w sq one pt p q : IV) : runB Tryz.prog 7 #[ivv x] [] [n, n, n, n, n, n, n, n, n, n, n, f, n, n, f, n, n, n, n, n, n, t, n, n, n, n, n, t, n, n, n, n, n, n, n, t, n, n, n, n, n, n, n, t] [(19, rt (ivv al)), (37, rt (bb true)), (53, rt (tp [ivv y, ivv z])), (29, rt (ivv v)), (53, rt (tp [ivv w, ivv z])), (63, rt (ivv sq)), (15, rt (ivv one)), (37, rt (bb true)), (29, rt (ivv w)), (17, rt (ivv pt)), (53, rt (tp [ivv p, ivv q])), (62, rt (bb true))] [(13, rt (bb true), [(1005, oiv [y, z])]), (13, rt (bb true), [(1008, oiv [p, q])])] =
    some (rt (bb true), [], [PureX Tryz.prog 19 #[ii (-4294967296), ii 4294967296] (rt (ivv al)), PureX Tryz.prog 37 #[ivv al, ivv x] (rt (bb true)), PureX Tryz.prog 53 #[ivv x] (rt (tp [ivv y, ivv z])), PureX Tryz.prog 29 #[ivv x] (rt (ivv v)), PureX Tryz.prog 53 #[ivv v] (rt (tp [ivv w, ivv z])), CallsV Tryz.prog (.func 13) #[sl 1005 2] [(1005, oiv [y, z])] (rt (bb true)) [(1005, oiv [y, z])], PureX Tryz.prog 63 #[ivv y, ivv z] (rt (ivv sq)), PureX Tryz.prog 15 #[ii 1] (rt (ivv one)), PureX Tryz.prog 37 #[ivv sq, ivv one] (rt (bb true)), PureX Tryz.prog 29 #[ivv y] (rt (ivv w)), (!((w.1 == w.1) && ((w.2.1 == w.2.1) && ((w.2.2 == w.2.2) && true)))) = false, (!((z.1 == z.1) && ((z.2.1 == z.2.1) && ((z.2.2 == z.2.2) && true)))) = false, PureX Tryz.prog 17 #[ii x.1] (rt (ivv pt)), PureX Tryz.prog 53 #[ivv pt] (rt (tp [ivv p, ivv q])), CallsV Tryz.prog (.func 13) #[sl 1008 2] [(1008, oiv [p, q])] (rt (bb true)) [(1008, oiv [p, q])], decide (IntKind.i64.wrap (p.2.1 - p.1) ≤ 64) = true, decide (IntKind.i64.wrap (q.2.1 - q.1) ≤ 64) = true, decide (IntKind.i64.wrap (y.2.1 - y.1) ≤ IntKind.i64.wrap (IntKind.i64.wrap (x.2.1 - x.1) + 66)) = true, decide (IntKind.i64.wrap (z.2.1 - z.1) ≤ IntKind.i64.wrap (IntKind.i64.wrap (x.2.1 - x.1) + 66)) = true, PureX Tryz.prog 62 #[] (rt (bb true))]) := by kernel_rfl
theorem one_walk (x : IV) : PureX Tryz.prog 7 #[ivv x] (rt (bb true)) := by
  have hh := drholds_v allV x
  cases h : holdsV allV x
  · rw [h] at hh
    exact runB_pure mix (l7_no x allV) ⟨ral_v, hh, wakes7_c, trivial⟩ rfl rfl
  · rw [h] at hh
    have h' := allV_iff.1 h
    have ox := okV_iff.1 h'.1
    obtain ⟨si, sw, sh⟩ := waV_ok false h
    obtain ⟨ci, cw, ch⟩ := waV_ok true h
    obtain ⟨e1, e2⟩ := waV_neg h
    have pt := pt_hold (n := x.1) (by omega) (by omega)
    obtain ⟨pi, pw, _⟩ := waV_ok false pt.2
    obtain ⟨qi, qw, _⟩ := waV_ok true pt.2
    have w0 : wdt (mkV x.1 x.1) = 0 := by rw [pt.1]; exact Int.sub_self _
    have f0 := rfine_v2 1005 (waV false x) (waV true x)
    rw [si.1, ci.1] at f0
    have f1 := rfine_v2 1008 (waV false (mkV x.1 x.1)) (waV true (mkV x.1 x.1))
    rw [pi.1, qi.1] at f1
    have b2 := both_v (negV x)
    rw [e1, e2] at b2
    have sf := fO_in false (n := x.1) (by omega) (by omega)
    have cf := fO_in true (n := x.1) (by omega) (by omega)
    have o1 := one_O (n := x.1) (by omega) (by omega)
    have sq := squares_hold si ci (sh x.1 (Int.le_refl _) ox.2.2.1) (ch x.1 (Int.le_refl _) ox.2.2.1) sf.1 sf.2 cf.1 cf.2 o1.1 o1.2
    have hq := drholds_v (addV (mulV (waV false x) (waV false x)) (mulV (waV true x) (waV true x))) (1073741824, 1073741824, false)
    rw [sq] at hq
    have g1 := wrapW pi (by decide)
    have g2 := wrapW qi (by decide)
    have g3 := wrapW si (by decide)
    have g4 := wrapW ci (by decide)
    have g5 : IntKind.i64.wrap (x.2.1 - x.1) = wdt x := by rw [wrapI (by omega)]; rfl
    have g6 : IntKind.i64.wrap (wdt x + 66) = wdt x + 66 := by unfold wdt; rw [wrapI (by omega)]
    refine runB_pure mix (l7_ok x allV (waV false x) (waV true x) (negV x) (negV (waV false x)) _ (1073741824, 1073741824, false) _ (waV false (mkV x.1 x.1)) (waV true (mkV x.1 x.1)))
      ⟨ral_v, hh, both_v x, rneg_v x, b2, f0, sq_v _ _, rof1_v, hq, rneg_v _, same3 _, same3 _, rpoint_v _, both_v _, f1, ?_, ?_, ?_, ?_, wakes7_c, trivial⟩ rfl rfl
    · rw [g1]; exact decide_eq_true (by omega)
    · rw [g2]; exact decide_eq_true (by omega)
    · rw [g3, g5, g6]; exact decide_eq_true (by omega)
    · rw [g4, g5, g6]; exact decide_eq_true (by omega)
theorem l8_a (a b al t1 : IV) : runB Tryz.prog 8 #[ivv a, ivv b] [] [] [(19, rt (ivv al)), (25, rt (ivv t1)), (37, rt (bb false)), (62, rt (bb true))] [] =
    some (rt (bb true), [], [PureX Tryz.prog 19 #[ii (-4294967296), ii 4294967296] (rt (ivv al)), PureX Tryz.prog 25 #[ivv a, ivv b] (rt (ivv t1)), PureX Tryz.prog 37 #[ivv al, ivv a] (rt (bb false)), PureX Tryz.prog 62 #[] (rt (bb true))]) := by kernel_rfl
theorem l8_b (a b al t1 : IV) : runB Tryz.prog 8 #[ivv a, ivv b] [] [] [(19, rt (ivv al)), (25, rt (ivv t1)), (37, rt (bb true)), (37, rt (bb false)), (62, rt (bb true))] [] =
    some (rt (bb true), [], [PureX Tryz.prog 19 #[ii (-4294967296), ii 4294967296] (rt (ivv al)), PureX Tryz.prog 25 #[ivv a, ivv b] (rt (ivv t1)), PureX Tryz.prog 37 #[ivv al, ivv a] (rt (bb true)), PureX Tryz.prog 37 #[ivv al, ivv b] (rt (bb false)), PureX Tryz.prog 62 #[] (rt (bb true))]) := by kernel_rfl
theorem l8_t (a b al t1 : IV) : runB Tryz.prog 8 #[ivv a, ivv b] [] [] [(19, rt (ivv al)), (25, rt (ivv t1)), (37, rt (bb true)), (37, rt (bb true)), (37, rt (bb false)), (62, rt (bb true))] [] =
    some (rt (bb true), [], [PureX Tryz.prog 19 #[ii (-4294967296), ii 4294967296] (rt (ivv al)), PureX Tryz.prog 25 #[ivv a, ivv b] (rt (ivv t1)), PureX Tryz.prog 37 #[ivv al, ivv a] (rt (bb true)), PureX Tryz.prog 37 #[ivv al, ivv b] (rt (bb true)), PureX Tryz.prog 37 #[ivv al, ivv t1] (rt (bb false)), PureX Tryz.prog 62 #[] (rt (bb true))]) := by kernel_rfl
theorem l8_ok (a b al t1 s c x y p q m1 m2 m3 m4 a1 a2 : IV) : runB Tryz.prog 8 #[ivv a, ivv b] [] [] [(19, rt (ivv al)), (25, rt (ivv t1)), (37, rt (bb true)), (37, rt (bb true)), (37, rt (bb true)), (53, rt (tp [ivv s, ivv c])), (53, rt (tp [ivv x, ivv y])), (53, rt (tp [ivv p, ivv q])), (31, rt (ivv m1)), (31, rt (ivv m2)), (25, rt (ivv a1)), (64, rt (bb true)), (31, rt (ivv m3)), (31, rt (ivv m4)), (27, rt (ivv a2)), (64, rt (bb true)), (62, rt (bb true))] [(13, rt (bb true), [(1010, oiv [s, c, x, y, p, q])])] =
    some (rt (bb true), [], [PureX Tryz.prog 19 #[ii (-4294967296), ii 4294967296] (rt (ivv al)), PureX Tryz.prog 25 #[ivv a, ivv b] (rt (ivv t1)), PureX Tryz.prog 37 #[ivv al, ivv a] (rt (bb true)), PureX Tryz.prog 37 #[ivv al, ivv b] (rt (bb true)), PureX Tryz.prog 37 #[ivv al, ivv t1] (rt (bb true)), PureX Tryz.prog 53 #[ivv a] (rt (tp [ivv s, ivv c])), PureX Tryz.prog 53 #[ivv b] (rt (tp [ivv x, ivv y])), PureX Tryz.prog 53 #[ivv t1] (rt (tp [ivv p, ivv q])), CallsV Tryz.prog (.func 13) #[sl 1010 6] [(1010, oiv [s, c, x, y, p, q])] (rt (bb true)) [(1010, oiv [s, c, x, y, p, q])], PureX Tryz.prog 31 #[ivv s, ivv y] (rt (ivv m1)), PureX Tryz.prog 31 #[ivv c, ivv x] (rt (ivv m2)), PureX Tryz.prog 25 #[ivv m1, ivv m2] (rt (ivv a1)), PureX Tryz.prog 64 #[ivv p, ivv a1] (rt (bb true)), PureX Tryz.prog 31 #[ivv c, ivv y] (rt (ivv m3)), PureX Tryz.prog 31 #[ivv s, ivv x] (rt (ivv m4)), PureX Tryz.prog 27 #[ivv m3, ivv m4] (rt (ivv a2)), PureX Tryz.prog 64 #[ivv q, ivv a2] (rt (bb true)), PureX Tryz.prog 62 #[] (rt (bb true))]) := by kernel_rfl
theorem sums_walk (a b : IV) : PureX Tryz.prog 8 #[ivv a, ivv b] (rt (bb true)) := by
  have ha := drholds_v allV a
  have hb := drholds_v allV b
  have ht := drholds_v allV (addV a b)
  cases h1 : holdsV allV a
  · rw [h1] at ha
    exact runB_pure mix (l8_a a b allV _) ⟨ral_v, radd_v a b, ha, wakes7_c, trivial⟩ rfl rfl
  · rw [h1] at ha
    cases h2 : holdsV allV b
    · rw [h2] at hb
      exact runB_pure mix (l8_b a b allV _) ⟨ral_v, radd_v a b, ha, hb, wakes7_c, trivial⟩ rfl rfl
    · rw [h2] at hb
      cases h3 : holdsV allV (addV a b)
      · rw [h3] at ht
        exact runB_pure mix (l8_t a b allV _) ⟨ral_v, radd_v a b, ha, hb, ht, wakes7_c, trivial⟩ rfl rfl
      · rw [h3] at ht
        have i1 := allV_iff.1 h1
        have i2 := allV_iff.1 h2
        have i3 := allV_iff.1 h3
        have oa := okV_iff.1 i1.1
        have ob := okV_iff.1 i2.1
        have et : addV a b = (a.1 + b.1, a.2.1 + b.2.1, false) := by
          rw [addV_ok i1.1 i2.1]; exact mkV_ok (by omega) (by omega) (by omega)
        obtain ⟨si, sw, sh⟩ := waV_ok false h1
        obtain ⟨ci, cw, ch⟩ := waV_ok true h1
        obtain ⟨xi, xw, xh⟩ := waV_ok false h2
        obtain ⟨yi, yw, yh⟩ := waV_ok true h2
        obtain ⟨pi, pw, ph⟩ := waV_ok false h3
        obtain ⟨qi, qw, qh⟩ := waV_ok true h3
        have f := rfine6 1010 si.1 ci.1 xi.1 yi.1 pi.1 qi.1
        have sf := fO_in false (n := a.1) (by omega) (by omega)
        have cf := fO_in true (n := a.1) (by omega) (by omega)
        have ad := sO_add (n := a.1) (m := b.1) (by omega) (by omega) (by omega) (by omega)
        have cd := cO_add (n := a.1) (m := b.1) (by omega) (by omega) (by omega) (by omega)
        have p1 := ph (a.1 + b.1) (by rw [et]; exact Int.le_refl _) (by rw [et]; show a.1 + b.1 ≤ a.2.1 + b.2.1; omega)
        have q1 := qh (a.1 + b.1) (by rw [et]; exact Int.le_refl _) (by rw [et]; show a.1 + b.1 ≤ a.2.1 + b.2.1; omega)
        obtain ⟨m1, m2⟩ := sums_meet si ci xi yi pi.1 qi.1 (sh a.1 (Int.le_refl _) oa.2.2.1) (ch a.1 (Int.le_refl _) oa.2.2.1) (xh b.1 (Int.le_refl _) ob.2.2.1) (yh b.1 (Int.le_refl _) ob.2.2.1) p1 q1 sf.1 sf.2 cf.1 cf.2 ad cd
        exact runB_pure mix (l8_ok a b allV (addV a b) (waV false a) (waV true a) (waV false b) (waV true b) (waV false (addV a b)) (waV true (addV a b)) _ _ _ _ _ _)
          ⟨ral_v, radd_v a b, ha, hb, ht, both_v a, both_v b, both_v _, f, dmul_v plain_ok _ _, dmul_v plain_ok _ _, radd_v _ _, mt_v m1, dmul_v plain_ok _ _, dmul_v plain_ok _ _, rsub_v _ _, mt_v m2, wakes7_c, trivial⟩ rfl rfl
end Go.Proofs.YtlioffkonfkflaaGreat
