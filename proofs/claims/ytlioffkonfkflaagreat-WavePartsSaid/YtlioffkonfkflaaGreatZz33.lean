/- Texts of the seat, joined. -/
import Derived.Test.YtlioffkonfkflaaGreatZz32
import Derived.Test.YtlioffkonfkflaaGreatZz3
/- Parts and points; terms; what the program and the document tell. -/
namespace Go.Proofs.YtlioffkonfkflaaGreat
open Go Go.RowKit
set_option linter.unusedSimpArgs false
set_option linter.unusedVariables false
set_option maxRecDepth 100000

theorem l9_no (a al : IV) (n1 k : Int) : runB Tryz.prog 9 #[ivv a, ii n1, ii k] [] [] [(19, rt (ivv al)), (37, rt (bb false)), (62, rt (bb true))] [] =
    some (rt (bb true), [], [PureX Tryz.prog 19 #[ii (-4294967296), ii 4294967296] (rt (ivv al)), PureX Tryz.prog 37 #[ivv al, ivv a] (rt (bb false)), PureX Tryz.prog 62 #[] (rt (bb true))]) := by kernel_rfl
def w9 (a : IV) : Int := IntKind.i64.wrap (IntKind.i64.wrap (a.2.1 - a.1) + 1)
def in9 (a : IV) (n : Int) : Int := IntKind.i64.wrap (a.1 + Int.tmod (IntKind.i64.wrap (Int.tmod n (w9 a) + w9 a)) (w9 a))
theorem l9_ok (a al s c x y p q pn pm fr m1 m2 : IV) (n1 k : Int) : runLB Tryz.prog 9 #[ivv a, ii n1, ii k] [] [] [(19, rt (ivv al)), (37, rt (bb true)), (53, rt (tp [ivv s, ivv c])), (17, rt (ivv pn)), (53, rt (tp [ivv p, ivv q])), (17, rt (ivv pm)), (53, rt (tp [ivv x, ivv y])), (64, rt (bb true)), (64, rt (bb true)), (19, rt (ivv fr)), (27, rt (ivv m1)), (64, rt (bb true)), (27, rt (ivv m2)), (64, rt (bb true)), (62, rt (bb true))] [(13, rt (bb true), [(1007, oiv [s, c, p, q, x, y])])] [[], [], [], []] =
    some (rt (bb true), [], [PureX Tryz.prog 19 #[ii (-4294967296), ii 4294967296] (rt (ivv al)), PureX Tryz.prog 37 #[ivv al, ivv a] (rt (bb true)), w9 a ≠ 0, w9 a ≠ 0, w9 a ≠ 0, w9 a ≠ 0, PureX Tryz.prog 53 #[ivv a] (rt (tp [ivv s, ivv c])), PureX Tryz.prog 17 #[ii (in9 a n1)] (rt (ivv pn)), PureX Tryz.prog 53 #[ivv pn] (rt (tp [ivv p, ivv q])), PureX Tryz.prog 17 #[ii (in9 a k)] (rt (ivv pm)), PureX Tryz.prog 53 #[ivv pm] (rt (tp [ivv x, ivv y])), CallsV Tryz.prog (.func 13) #[sl 1007 6] [(1007, oiv [s, c, p, q, x, y])] (rt (bb true)) [(1007, oiv [s, c, p, q, x, y])], PureX Tryz.prog 64 #[ivv s, ivv p] (rt (bb true)), PureX Tryz.prog 64 #[ivv c, ivv q] (rt (bb true)), PureX Tryz.prog 19 #[ii (IntKind.i64.wrap (0 - (mxI (IntKind.i64.wrap (in9 a n1 - in9 a k)) (IntKind.i64.wrap (in9 a k - in9 a n1))))), ii (mxI (IntKind.i64.wrap (in9 a n1 - in9 a k)) (IntKind.i64.wrap (in9 a k - in9 a n1)))] (rt (ivv fr)), PureX Tryz.prog 27 #[ivv p, ivv x] (rt (ivv m1)), PureX Tryz.prog 64 #[ivv m1, ivv fr] (rt (bb true)), PureX Tryz.prog 27 #[ivv q, ivv y] (rt (ivv m2)), PureX Tryz.prog 64 #[ivv m2, ivv fr] (rt (bb true)), PureX Tryz.prog 62 #[] (rt (bb true))]) := by kernel_rfl
theorem in9_in {a : IV} (h : okV a = true) (n : Int) : w9 a ≠ 0 ∧ in9 a n = inZ a n := by
  have o := okV_iff.1 h
  have e : w9 a = a.2.1 - a.1 + 1 := by unfold w9; rw [wrapI (z := a.2.1 - a.1) (by omega), wrapI (by omega)]
  have h1 := tm_b (a := n) (w := a.2.1 - a.1 + 1) (by omega)
  have h3 := inZ_in h n
  refine ⟨by omega, ?_⟩
  unfold in9
  rw [e, wrapI (z := Int.tmod n (a.2.1 - a.1 + 1) + (a.2.1 - a.1 + 1)) (by omega)]
  exact wrapI (by unfold inZ at h3; omega)
theorem parts7_walk (a : IV) (n m : Int) : PureX Tryz.prog 9 #[ivv a, ii n, ii m] (rt (bb true)) := by
  have hh := drholds_v allV a
  cases h : holdsV allV a
  · rw [h] at hh
    exact runB_pure mix (l9_no a allV n m) ⟨ral_v, hh, wakes7_c, trivial⟩ rfl rfl
  · rw [h] at hh
    have h' := allV_iff.1 h
    have o := okV_iff.1 h'.1
    obtain ⟨z, en⟩ := in9_in h'.1 n
    obtain ⟨_, em⟩ := in9_in h'.1 m
    have bn := inZ_in h'.1 n
    have bm := inZ_in h'.1 m
    rw [← en] at bn
    rw [← em] at bm
    have pn := pt_hold (n := in9 a n) (by omega) (by omega)
    have pm := pt_hold (n := in9 a m) (by omega) (by omega)
    obtain ⟨si, _, sh⟩ := waV_ok false h
    obtain ⟨ci, _, ch⟩ := waV_ok true h
    obtain ⟨pi, _, ph⟩ := waV_ok false pn.2
    obtain ⟨qi, _, qh⟩ := waV_ok true pn.2
    obtain ⟨xi, _, xh⟩ := waV_ok false pm.2
    obtain ⟨yi, _, yh⟩ := waV_ok true pm.2
    have f := rfine6 1007 si.1 ci.1 pi.1 qi.1 xi.1 yi.1
    have a1 : (mkV (in9 a n) (in9 a n)).1 ≤ in9 a n ∧ in9 a n ≤ (mkV (in9 a n) (in9 a n)).2.1 := by rw [pn.1]; exact ⟨Int.le_refl _, Int.le_refl _⟩
    have a2 : (mkV (in9 a m) (in9 a m)).1 ≤ in9 a m ∧ in9 a m ≤ (mkV (in9 a m) (in9 a m)).2.1 := by rw [pm.1]; exact ⟨Int.le_refl _, Int.le_refl _⟩
    have p1 := ph (in9 a n) a1.1 a1.2
    have q1 := qh (in9 a n) a1.1 a1.2
    have x1 := xh (in9 a m) a2.1 a2.2
    have y1 := yh (in9 a m) a2.1 a2.2
    have m1 := same_meet si.1 pi.1 (sh _ bn.1 bn.2) p1
    have m2 := same_meet ci.1 qi.1 (ch _ bn.1 bn.2) q1
    obtain ⟨d, hd, d0, d1, e1, e2⟩ : ∃ d, mxI (IntKind.i64.wrap (in9 a n - in9 a m)) (IntKind.i64.wrap (in9 a m - in9 a n)) = d ∧ 0 ≤ d ∧ d ≤ 8589934592 ∧ in9 a n - in9 a m ≤ d ∧ in9 a m - in9 a n ≤ d := by
      refine ⟨_, rfl, ?_⟩
      rw [wrapI (by omega), wrapI (by omega)]
      unfold mxI
      split <;> omega
    have ff := far_f false (n := in9 a n) (m := in9 a m) (by omega) (by omega) (by omega) (by omega) e1 e2
    have fc := far_f true (n := in9 a n) (m := in9 a m) (by omega) (by omega) (by omega) (by omega) e1 e2
    have m3 := far_meet pi xi p1 x1 d0 d1 ff.1 ff.2
    have m4 := far_meet qi yi q1 y1 d0 d1 fc.1 fc.2
    have hm : PureX Tryz.prog 19 #[ii (IntKind.i64.wrap (0 - mxI (IntKind.i64.wrap (in9 a n - in9 a m)) (IntKind.i64.wrap (in9 a m - in9 a n)))), ii (mxI (IntKind.i64.wrap (in9 a n - in9 a m)) (IntKind.i64.wrap (in9 a m - in9 a n)))] (rt (ivv (mkV (mnI (-d) d) (mxI (-d) d)))) := by
      rw [hd, wrapI (by omega), Int.zero_sub]
      exact rmake_v _ _
    have k := runLB_calls mix (l9_ok a allV (waV false a) (waV true a) (waV false (mkV (in9 a m) (in9 a m))) (waV true (mkV (in9 a m) (in9 a m))) (waV false (mkV (in9 a n) (in9 a n))) (waV true (mkV (in9 a n) (in9 a n))) _ _ (mkV (mnI (-d) d) (mxI (-d) d)) _ _ n m)
      ⟨ral_v, hh, z, z, z, z, both_v a, rpoint_v _, both_v _, rpoint_v _, both_v _, f, mt_v m1, mt_v m2, hm, rsub_v _ _, mt_v m3, rsub_v _ _, mt_v m4, wakes7_c, trivial⟩ rfl rfl rfl
    exact CallsV.pure k rfl rfl
theorem nr_t (n1 : Int) : runB Tryz.prog 65 #[ii n1] [] [t, n] [] [] =
    some (rt (bb (decide (n1 ≤ 4294967296))), [], [decide (Int.neg 4294967296 ≤ n1) = true]) := by kernel_rfl
theorem nr_f (n1 : Int) : runB Tryz.prog 65 #[ii n1] [] [f, n] [] [] =
    some (rt (bb false), [], [decide (Int.neg 4294967296 ≤ n1) = false]) := by kernel_rfl
theorem nr_v (n : Int) : PureX Tryz.prog 65 #[ii n] (rt (bb (decide (-4294967296 ≤ n ∧ n ≤ 4294967296)))) := by
  by_cases h : -4294967296 ≤ n
  · have r := runB_pure mix (nr_t n) ⟨decide_eq_true h, trivial⟩ rfl rfl
    have e : decide (n ≤ 4294967296) = decide (-4294967296 ≤ n ∧ n ≤ 4294967296) := by rw [decide_eq_decide]; omega
    rw [e] at r
    exact r
  · have r := runB_pure mix (nr_f n) ⟨decide_eq_false h, trivial⟩ rfl rfl
    rw [decide_eq_false (by omega)]
    exact r
theorem l10_far (n1 k : Int) (c : Bool) : runB Tryz.prog 10 #[ii n1, ii k, bb c] [] [] [(65, rt (bb false)), (60, rt (ivv bdV)), (56, rt (ivv bdV)), (62, rt (bb true))] [] =
    some (rt (bb true), [], [PureX Tryz.prog 65 #[ii n1] (rt (bb false)), PureX Tryz.prog 60 #[ii n1, ii 0, bb c] (rt (ivv bdV)), PureX Tryz.prog 56 #[ivv (n1, n1, false)] (rt (ivv bdV)), PureX Tryz.prog 62 #[] (rt (bb true))]) := by kernel_rfl
theorem l10_kl (n1 k : Int) (c : Bool) : runB Tryz.prog 10 #[ii n1, ii k, bb c] [] [n, t, n, n] [(65, rt (bb true)), (62, rt (bb true))] [] =
    some (rt (bb true), [], [PureX Tryz.prog 65 #[ii n1] (rt (bb true)), decide (k < 0) = true, PureX Tryz.prog 62 #[] (rt (bb true))]) := by kernel_rfl
theorem l10_kh (n1 k : Int) (c : Bool) : runB Tryz.prog 10 #[ii n1, ii k, bb c] [] [n, f, n, t] [(65, rt (bb true)), (62, rt (bb true))] [] =
    some (rt (bb true), [], [PureX Tryz.prog 65 #[ii n1] (rt (bb true)), decide (k < 0) = false, decide (12 < k) = true, PureX Tryz.prog 62 #[] (rt (bb true))]) := by kernel_rfl
theorem l10_0 (n1 k : Int) (a b o p1 p2 q m : IV) : runB Tryz.prog 10 #[ii n1, ii k, bb false] [] [n, f, n, f, n, n, n, n, n, n, n, n, n, n, n, f, n, n, n, n, n, n, n, n, n, n, n, t] [(65, rt (bb true)), (60, rt (ivv a)), (60, rt (ivv b)), (60, rt (ivv o)), (17, rt (ivv p1)), (17, rt (ivv p2)), (31, rt (ivv q)), (31, rt (ivv m)), (33, rt (ivv b)), (29, rt (ivv o)), (62, rt (bb true))] [(13, rt (bb true), [(1004, oiv [a, b])])] =
    some (rt (bb true), [], [PureX Tryz.prog 65 #[ii n1] (rt (bb true)), decide (k < 0) = false, decide (12 < k) = false, PureX Tryz.prog 60 #[ii n1, ii k, bb false] (rt (ivv a)), PureX Tryz.prog 60 #[ii n1, ii (IntKind.i64.wrap (k + 1)), bb false] (rt (ivv b)), PureX Tryz.prog 60 #[ii (IntKind.i64.wrap (0 - n1)), ii k, bb false] (rt (ivv o)), PureX Tryz.prog 17 #[ii n1] (rt (ivv p1)), PureX Tryz.prog 17 #[ii n1] (rt (ivv p2)), PureX Tryz.prog 31 #[ivv p1, ivv p2] (rt (ivv q)), CallsV Tryz.prog (.func 13) #[sl 1004 2] [(1004, oiv [a, b])] (rt (bb true)) [(1004, oiv [a, b])], PureX Tryz.prog 31 #[ivv a, ivv q] (rt (ivv m)), PureX Tryz.prog 33 #[ivv m, ii (-1), ii (IntKind.i64.wrap (IntKind.i64.wrap (IntKind.i64.wrap (2 * k) + 2) * IntKind.i64.wrap (IntKind.i64.wrap (IntKind.i64.wrap (2 * k) + 2) + 1)))] (rt (ivv b)), (!((b.1 == b.1) && ((b.2.1 == b.2.1) && ((b.2.2 == b.2.2) && true)))) = false, PureX Tryz.prog 29 #[ivv a] (rt (ivv o)), ((o.1 == o.1) && ((o.2.1 == o.2.1) && ((o.2.2 == o.2.2) && true))) = true, PureX Tryz.prog 62 #[] (rt (bb true))]) := by kernel_rfl
theorem dx_0 : ∀ k : Fin 13, (fun k : Int => (IntKind.i64.wrap (IntKind.i64.wrap (IntKind.i64.wrap (2 * k) + 2) * IntKind.i64.wrap (IntKind.i64.wrap (IntKind.i64.wrap (2 * k) + 2) + 1)))) (k.val : Int) = dV false k.val := by decide +kernel
theorem l10_1 (n1 k : Int) (a b o p1 p2 q m : IV) : runB Tryz.prog 10 #[ii n1, ii k, bb true] [] [n, f, n, f, n, n, n, n, n, n, n, n, n, n, n, f, n, n, n, t, n, n, n, n] [(65, rt (bb true)), (60, rt (ivv a)), (60, rt (ivv b)), (60, rt (ivv a)), (17, rt (ivv p1)), (17, rt (ivv p2)), (31, rt (ivv q)), (31, rt (ivv m)), (33, rt (ivv b)), (62, rt (bb true))] [(13, rt (bb true), [(1004, oiv [a, b])])] =
    some (rt (bb true), [], [PureX Tryz.prog 65 #[ii n1] (rt (bb true)), decide (k < 0) = false, decide (12 < k) = false, PureX Tryz.prog 60 #[ii n1, ii k, bb true] (rt (ivv a)), PureX Tryz.prog 60 #[ii n1, ii (IntKind.i64.wrap (k + 1)), bb true] (rt (ivv b)), PureX Tryz.prog 60 #[ii (IntKind.i64.wrap (0 - n1)), ii k, bb true] (rt (ivv a)), PureX Tryz.prog 17 #[ii n1] (rt (ivv p1)), PureX Tryz.prog 17 #[ii n1] (rt (ivv p2)), PureX Tryz.prog 31 #[ivv p1, ivv p2] (rt (ivv q)), CallsV Tryz.prog (.func 13) #[sl 1004 2] [(1004, oiv [a, b])] (rt (bb true)) [(1004, oiv [a, b])], PureX Tryz.prog 31 #[ivv a, ivv q] (rt (ivv m)), PureX Tryz.prog 33 #[ivv m, ii (-1), ii (IntKind.i64.wrap (IntKind.i64.wrap (IntKind.i64.wrap (2 * k) + 1) * IntKind.i64.wrap (IntKind.i64.wrap (IntKind.i64.wrap (2 * k) + 1) + 1)))] (rt (ivv b)), (!((b.1 == b.1) && ((b.2.1 == b.2.1) && ((b.2.2 == b.2.2) && true)))) = false, ((a.1 == a.1) && ((a.2.1 == a.2.1) && ((a.2.2 == a.2.2) && true))) = true, PureX Tryz.prog 62 #[] (rt (bb true))]) := by kernel_rfl
theorem dx_1 : ∀ k : Fin 13, (fun k : Int => (IntKind.i64.wrap (IntKind.i64.wrap (IntKind.i64.wrap (2 * k) + 1) * IntKind.i64.wrap (IntKind.i64.wrap (IntKind.i64.wrap (2 * k) + 1) + 1)))) (k.val : Int) = dV true k.val := by decide +kernel
theorem terms_walk (n k : Int) (c : Bool) (hn : isI n) (hk : isI k) : PureX Tryz.prog 10 #[ii n, ii k, bb c] (rt (bb true)) := by
  have hr := nr_v n
  by_cases h : -4294967296 ≤ n ∧ n ≤ 4294967296
  · rw [decide_eq_true h] at hr
    by_cases h1 : k < 0
    · exact runB_pure mix (l10_kl n k c) ⟨hr, decide_eq_true h1, wakes7_c, trivial⟩ rfl rfl
    · by_cases h2 : 12 < k
      · exact runB_pure mix (l10_kh n k c) ⟨hr, decide_eq_false h1, decide_eq_true h2, wakes7_c, trivial⟩ rfl rfl
      · obtain ⟨j, rfl⟩ := Int.eq_ofNat_of_zero_le (show 0 ≤ k by omega)
        have hj : j ≤ 12 := by omega
        have h' : -4294967296 ≤ -n ∧ -n ≤ 4294967296 := by omega
        have ta : ∀ (c : Bool) (m : Int) (i : Nat), -4294967296 ≤ m ∧ m ≤ 4294967296 → i ≤ 13 → PureX Tryz.prog 60 #[ii m, ii (i : Int), bb c] (rt (ivv (tV c m i))) := by
          intro c m i hm hi
          have := term_v m i c
          unfold termV at this
          rw [if_pos (hold_pt.2 hm), if_pos (by omega), Int.toNat_natCast] at this
          exact this
        obtain ⟨ai, _⟩ := tV_ok c h.1 h.2 j (by omega)
        obtain ⟨bi, _⟩ := tV_ok c h.1 h.2 (j + 1) (by omega)
        have ng := tV_neg h.1 h.2 j (by omega)
        have f := rfine_v2 1004 (tV c n j) (tV c n (j + 1))
        rw [ai.1, bi.1] at f
        have e1 : IntKind.i64.wrap ((j : Int) + 1) = ((j + 1 : Nat) : Int) := by rw [wrapI (by omega)]; omega
        have e2 : IntKind.i64.wrap (0 - n) = -n := by rw [wrapI (by omega)]; omega
        have tb := ta c n (j + 1) h (by omega)
        have tc := ta c (-n) j h' (by omega)
        rw [← e1] at tb
        rw [← e2] at tc
        have iD : ∀ c, isI (dV c j) := by
          have : ∀ c, ∀ j : Fin 13, isI (dV c j.val) := by decide +kernel
          exact fun c => this c ⟨j, by omega⟩
        cases c
        · rw [e2, ng.1, ← e2] at tc
          have hd := rpt_next false n j (dx_0 ⟨j, by omega⟩).symm (by rw [dx_0 ⟨j, by omega⟩]; exact iD _)
          exact runB_pure mix (l10_0 n j (tV false n j) (tV false n (j + 1)) (negV (tV false n j)) (mkV n n) (mkV n n) (qV n) (mulV (tV false n j) (qV n)))
            ⟨hr, decide_eq_false h1, decide_eq_false h2, ta _ _ _ h (by omega), tb, tc, rpoint_v n, rpoint_v n, dmul_v plain_ok _ _, f, dmul_v plain_ok _ _, hd, same3 _, rneg_v _, same3p _, wakes7_c, trivial⟩ rfl rfl
        · rw [e2, ng.2, ← e2] at tc
          have hd := rpt_next true n j (dx_1 ⟨j, by omega⟩).symm (by rw [dx_1 ⟨j, by omega⟩]; exact iD _)
          exact runB_pure mix (l10_1 n j (tV true n j) (tV true n (j + 1)) (tV true n j) (mkV n n) (mkV n n) (qV n) (mulV (tV true n j) (qV n)))
            ⟨hr, decide_eq_false h1, decide_eq_false h2, ta _ _ _ h (by omega), tb, tc, rpoint_v n, rpoint_v n, dmul_v plain_ok _ _, f, dmul_v plain_ok _ _, hd, same3 _, same3p _, wakes7_c, trivial⟩ rfl rfl
  · rw [decide_eq_false h] at hr
    have t := term_v n 0 c
    unfold termV at t
    rw [if_neg (fun hh => h (hold_pt.1 hh))] at t
    have s := wav0_v (n, n, false)
    rw [show waV false (n, n, false) = bdV from if_neg (fun hh => h (allV_iff.1 hh).2)] at s
    exact runB_pure mix (l10_far n k c) ⟨hr, t, s, wakes7_c, trivial⟩ rfl rfl
theorem l6_raw (x s c t1 : IV) (n1 k m r : Int) (o cc : Bool) : runB Tryz.prog 6 #[ivv x, ii n1, ii k, bb cc] [] [t, n, n, n, n, t, n, n, n, t, n, n, n, t, n, n, n, n, n, n, n, n, t, n, n, t, n, n, t, n, n, t] [(53, rt (tp [ivv s, ivv c])), (54, rt (tp [ii m, ii r, bb o])), (55, rt (tp [ii m, ii r, bb o])), (56, rt (ivv s)), (57, rt (ivv s)), (58, rt (ivv c)), (59, rt (ivv c)), (57, rt (ivv s)), (59, rt (ivv c)), (60, rt (ivv t1)), (61, rt (ivv t1)), (62, rt (bb true))] [] =
    some (rt (bb true), [], [PureX Tryz.prog 53 #[ivv x] (rt (tp [ivv s, ivv c])), PureX Tryz.prog 54 #[ivv x] (rt (tp [ii m, ii r, bb o])), PureX Tryz.prog 55 #[ivv x] (rt (tp [ii m, ii r, bb o])), PureX Tryz.prog 56 #[ivv x] (rt (ivv s)), PureX Tryz.prog 57 #[ivv x] (rt (ivv s)), ((s.1 == s.1) && ((s.2.1 == s.2.1) && ((s.2.2 == s.2.2) && true))) = true, PureX Tryz.prog 58 #[ivv x] (rt (ivv c)), PureX Tryz.prog 59 #[ivv x] (rt (ivv c)), ((c.1 == c.1) && ((c.2.1 == c.2.1) && ((c.2.2 == c.2.2) && true))) = true, PureX Tryz.prog 57 #[ivv x] (rt (ivv s)), ((s.1 == s.1) && ((s.2.1 == s.2.1) && ((s.2.2 == s.2.2) && true))) = true, PureX Tryz.prog 59 #[ivv x] (rt (ivv c)), ((c.1 == c.1) && ((c.2.1 == c.2.1) && ((c.2.2 == c.2.2) && true))) = true, PureX Tryz.prog 60 #[ii n1, ii k, bb cc] (rt (ivv t1)), PureX Tryz.prog 61 #[ii n1, ii k, bb cc] (rt (ivv t1)), ((t1.1 == t1.1) && ((t1.2.1 == t1.2.1) && ((t1.2.2 == t1.2.2) && true))) = true, (m == m) = true, (r == r) = true, (o == o) = true, PureX Tryz.prog 62 #[] (rt (bb true))]) := by kernel_rfl
theorem tells7_walk (x : IV) (n k : Int) (c : Bool) : PureX Tryz.prog 6 #[ivv x, ii n, ii k, bb c] (rt (bb true)) := by
  have h1 := mid_v x
  have h2 := dmid_v x
  unfold midT at h1 h2
  split at h1
  · rename_i h
    rw [if_pos h] at h2
    exact runB_pure mix (l6_raw x _ _ _ n k _ _ _ c) ⟨both_v x, h1, h2, wav0_v x, rsin_v x, same3p _, wav1_v x, rcos_v x, same3p _, rsin_v x, same3p _, rcos_v x, same3p _, term_v n k c, rterm_v n k c, same3p _, beq_self_eq_true _, beq_self_eq_true _, beq_self_eq_true _, wakes7_c, trivial⟩ rfl rfl
  · rename_i h
    rw [if_neg h] at h2
    exact runB_pure mix (l6_raw x _ _ _ n k _ _ _ c) ⟨both_v x, h1, h2, wav0_v x, rsin_v x, same3p _, wav1_v x, rcos_v x, same3p _, rsin_v x, same3p _, rcos_v x, same3p _, term_v n k c, rterm_v n k c, same3p _, beq_self_eq_true _, beq_self_eq_true _, beq_self_eq_true _, wakes7_c, trivial⟩ rfl rfl
end Go.Proofs.YtlioffkonfkflaaGreat
