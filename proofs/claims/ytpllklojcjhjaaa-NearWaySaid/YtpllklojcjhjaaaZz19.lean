/- Texts of the seat, joined. -/
import Derived.Test.YtpllklojcjhjaaaZz17
/- NearWay: whatever the pair. -/
namespace Go.Proofs.Ytpllklojcjhjaaa
open Go Go.RowKit
set_option linter.unusedSimpArgs false
set_option linter.unusedVariables false
set_option maxRecDepth 100000

theorem way_law0 (i j q l h c1 c2 c3 : Int) (k x y z a b c : Nat) (o o2 o3 : Bool) : runF Try.prog 1000 [] 5 #[.agg ⟨[ii i, ii j, ii q]⟩] [] [t, t, n, t] [(12, rt (tp [ii l, ii h])), (9, rt (bb true))] [] [] =
    some (rt (bb (true)), [], [PureX Try.prog 12 #[vc (i) (j) (q)] (rt (tp [ii (l), ii (h)])), (decide (q < 0)) = true, (l == 0) = true, (h == 0) = true, PureX Try.prog 9 #[] (rt (bb (true)))]) := by kernel_rfl
theorem way_law1 (i j q l h c1 c2 c3 : Int) (k x y z a b c : Nat) (o o2 o3 : Bool) : runF Try.prog 1000 [] 5 #[.agg ⟨[ii i, ii j, ii q]⟩] [] [f, f, n, f, n, n, n, f, n, n, n, f, n, n, n, f, t, n, n, n, t, n, n, n, n, n] [(12, rt (tp [ii l, ii h])), (20, rt (wv k)), (20, rt (wv x)), (20, rt (wv x)), (21, rt (tp [wv a, bb o])), (20, rt (wv y)), (20, rt (wv y)), (21, rt (tp [wv b, bb o2])), (20, rt (wv z)), (20, rt (wv z)), (21, rt (tp [wv c, bb o3])), (22, rt (ii c1)), (22, rt (ii c2)), (22, rt (ii c3)), (9, rt (bb true))] [] [] =
    some (rt (bb (true)), [], [PureX Try.prog 12 #[vc (i) (j) (q)] (rt (tp [ii (l), ii (h)])), (decide (q < 0)) = false, PureX Try.prog 20 #[ii (q)] (rt (wv k)), PureX Try.prog 20 #[ii (l)] (rt (wv x)), PureX Try.prog 20 #[ii (l)] (rt (wv x)), PureX Try.prog 21 #[wv x, wv x] (rt (tp [wv a, bb (o)])), PureX Try.prog 20 #[ii (h)] (rt (wv y)), PureX Try.prog 20 #[ii (h)] (rt (wv y)), PureX Try.prog 21 #[wv y, wv y] (rt (tp [wv b, bb (o2)])), PureX Try.prog 20 #[ii (wi (l + 1))] (rt (wv z)), PureX Try.prog 20 #[ii (wi (l + 1))] (rt (wv z)), PureX Try.prog 21 #[wv z, wv z] (rt (tp [wv c, bb (o3)])), (decide (l < 0)) = false, (decide (4294967296 < l)) = false, PureX Try.prog 22 #[wv a, wv k] (rt (ii (c1))), (decide (0 < c1)) = false, PureX Try.prog 22 #[wv b, wv k] (rt (ii (c2))), (decide (c2 < 0)) = false, PureX Try.prog 22 #[wv c, wv k] (rt (ii (c3))), (decide (c3 ≤ 0)) = false, ((h == l) == eqv a k) = true, (h == l) = true, PureX Try.prog 9 #[] (rt (bb (true)))]) := by kernel_rfl
theorem way_law2 (i j q l h c1 c2 c3 : Int) (k x y z a b c : Nat) (o o2 o3 : Bool) : runF Try.prog 1000 [] 5 #[.agg ⟨[ii i, ii j, ii q]⟩] [] [f, f, n, f, n, n, n, f, n, n, n, f, n, n, n, f, t, n, n, n, f, n, n, n, n, t] [(12, rt (tp [ii l, ii h])), (20, rt (wv k)), (20, rt (wv x)), (20, rt (wv x)), (21, rt (tp [wv a, bb o])), (20, rt (wv y)), (20, rt (wv y)), (21, rt (tp [wv b, bb o2])), (20, rt (wv z)), (20, rt (wv z)), (21, rt (tp [wv c, bb o3])), (22, rt (ii c1)), (22, rt (ii c2)), (22, rt (ii c3)), (9, rt (bb true))] [] [] =
    some (rt (bb (true)), [], [PureX Try.prog 12 #[vc (i) (j) (q)] (rt (tp [ii (l), ii (h)])), (decide (q < 0)) = false, PureX Try.prog 20 #[ii (q)] (rt (wv k)), PureX Try.prog 20 #[ii (l)] (rt (wv x)), PureX Try.prog 20 #[ii (l)] (rt (wv x)), PureX Try.prog 21 #[wv x, wv x] (rt (tp [wv a, bb (o)])), PureX Try.prog 20 #[ii (h)] (rt (wv y)), PureX Try.prog 20 #[ii (h)] (rt (wv y)), PureX Try.prog 21 #[wv y, wv y] (rt (tp [wv b, bb (o2)])), PureX Try.prog 20 #[ii (wi (l + 1))] (rt (wv z)), PureX Try.prog 20 #[ii (wi (l + 1))] (rt (wv z)), PureX Try.prog 21 #[wv z, wv z] (rt (tp [wv c, bb (o3)])), (decide (l < 0)) = false, (decide (4294967296 < l)) = false, PureX Try.prog 22 #[wv a, wv k] (rt (ii (c1))), (decide (0 < c1)) = false, PureX Try.prog 22 #[wv b, wv k] (rt (ii (c2))), (decide (c2 < 0)) = false, PureX Try.prog 22 #[wv c, wv k] (rt (ii (c3))), (decide (c3 ≤ 0)) = false, ((h == l) == eqv a k) = true, (h == l) = false, (h == wi (l + 1)) = true, PureX Try.prog 9 #[] (rt (bb (true)))]) := by kernel_rfl

theorem sq_in {m : Int} (h : 0 ≤ m) (h2 : m ≤ 4294967296) : inR (m * m) := by
  have h0 : 0 ≤ m * m := Int.mul_nonneg h h
  have h1 : m * m ≤ 4294967296 * 4294967296 := Int.mul_le_mul h2 h2 h (by decide)
  unfold inR
  generalize m * m = z at *
  omega
theorem way_walk (i j : Int) {q : Int} (hq : isJ q) : PureX Try.prog 5 #[.agg ⟨[ii i, ii j, ii q]⟩] (rt (bb true)) := by
  have hw := way_v i j hq
  unfold isJ at hq
  by_cases h0 : q < 0
  · rw [lowW_neg h0, highW_neg h0] at hw
    exact runF_pure mix (way_law0 i j q 0 0 0 0 0 0 0 0 0 0 0 0 true true true) ⟨hw, decide_eq_true h0, rfl, rfl, wakes_c, trivial⟩ rfl rfl
  · obtain ⟨h1, h2, h3, h4⟩ := low_spec (q := q) (by omega) (by omega)
    rw [high_spec (by omega)] at hw
    generalize lowW q = m at *
    have iq : inR q := by unfold inR; omega
    have im := sq_in h1 (by omega : m ≤ 4294967296)
    have im1 := sq_in (m := m + 1) (by omega) (by omega)
    have e2 : wi (m + 1) = m + 1 := wrapI ⟨by omega, by omega⟩
    have im0 : inR m := by unfold inR; omega
    have im10 : inR (m + 1) := by unfold inR; omega
    have on := rof_z (x := q) (by omega) (by omega)
    have om := rof_z (x := m) (by omega) (by omega)
    have om1 := rof_z (x := m + 1) (by omega) (by omega)
    have mm := rmul_z im0 im0
    have mm1 := rmul_z im10 im10
    have c1 := rcmp_z im iq
    have c3 := rcmp_z im1 iq
    have s1 : ¬ 0 < (m * m - q).sign := by rw [Int.sign_pos_iff]; generalize m * m = z at *; omega
    have s3 : ¬ ((m + 1) * (m + 1) - q).sign ≤ 0 := by
      have : 0 < ((m + 1) * (m + 1) - q).sign := by rw [Int.sign_pos_iff]; generalize (m + 1) * (m + 1) = z at *; omega
      omega
    rw [← e2] at om1
    by_cases hm : m * m = q
    · rw [if_pos hm] at hw
      have s2 : ¬ (m * m - q).sign < 0 := by rw [Int.sign_neg_iff]; generalize m * m = z at *; omega
      refine runF_pure mix (way_law1 i j q m m _ _ _ (nz q) (nz m) (nz m) (nz (m + 1)) (nz (m * m)) (nz (m * m)) (nz ((m + 1) * (m + 1))) _ _ _)
        ⟨hw, decide_eq_false h0, on, om, om, mm, om, om, mm, ?_, ?_, mm1, decide_eq_false (by omega), decide_eq_false (by omega), c1, decide_eq_false s1, c1, decide_eq_false s2, c3, decide_eq_false s3, ?_, beq_self_eq_true m, wakes_c, trivial⟩ rfl rfl
      · rw [e2] at om1 ⊢; exact om1
      · rw [e2] at om1 ⊢; exact om1
      · rw [eqv_z im iq, decide_eq_true hm, beq_self_eq_true m]; rfl
    · rw [if_neg hm] at hw
      have s2 : ¬ ((m + 1) * (m + 1) - q).sign < 0 := by omega
      have hne : ((m + 1) == m) = false := beq_eq_false_iff_ne.2 (by omega)
      have om1' := om1
      rw [e2] at om1'
      refine runF_pure mix (way_law2 i j q m (m + 1) _ _ _ (nz q) (nz m) (nz (m + 1)) (nz (m + 1)) (nz (m * m)) (nz ((m + 1) * (m + 1))) (nz ((m + 1) * (m + 1))) _ _ _)
        ⟨hw, decide_eq_false h0, on, om, om, mm, om1', om1', mm1, ?_, ?_, mm1, decide_eq_false (by omega), decide_eq_false (by omega), c1, decide_eq_false s1, c3, decide_eq_false s2, c3, decide_eq_false s3, ?_, hne, ?_, wakes_c, trivial⟩ rfl rfl
      · rw [e2]; exact om1'
      · rw [e2]; exact om1'
      · rw [eqv_z im iq, decide_eq_false hm, hne]; rfl
      · rw [e2]; exact beq_self_eq_true _
theorem gl_any (W : World) : GL W := fun e he => by cases he

end Go.Proofs.Ytpllklojcjhjaaa
