/- Texts of the seat, joined. -/
import Derived.Test.YtbmekaaekngpbaaGreatZz26
/- The document's Part of intervals, given its division. -/
namespace Go.Proofs.YtbmekaaekngpbaaGreat
open Go Go.RowKit
set_option linter.unusedSimpArgs false
set_option linter.unusedVariables false
set_option maxRecDepth 100000

section
variable (l h : Int) (p : Bool) (n1 d lo hi lo2 hi2 a b : Int) (c v : Bool)
abbrev F1 : Prop := CallsV Tryz.prog (.func 22) #[sl 1002 1] (J1 1002 l h p) (rt (bb true)) (J1 1002 l h p)
theorem dpa_0 : runB Tryz.prog 31 #[iv l h p, ii n1, ii d] [] [n, n, t] [(45, rt (iv 0 0 true))] [(22, rt (bb true), J1 1002 l h p)] = some (rt (iv 0 0 true), [], [F1 l h p, (d == 0) = true, PureX Tryz.prog 45 #[] (rt (iv 0 0 true))]) := by kernel_rfl
theorem dpa_no : runB Tryz.prog 31 #[iv l h p, ii n1, ii d] [] [] [(45, rt (iv 0 0 true))] [(22, rt (bb false), J1 1002 l h p)] =
    some (rt (iv 0 0 true), [], [CallsV Tryz.prog (.func 22) #[sl 1002 1] (J1 1002 l h p) (rt (bb false)) (J1 1002 l h p), PureX Tryz.prog 45 #[] (rt (iv 0 0 true))]) := by kernel_rfl
theorem dpa_tt : runB Tryz.prog 31 #[iv l h p, ii n1, ii d] [] [n, n, f] [(47, rt (tp [ii lo, ii hi, bb true])), (47, rt (tp [ii lo2, ii hi2, bb true])), (46, rt (iv a b c))] [(22, rt (bb true), J1 1002 l h p)] =
    some (rt (iv a b c), [], [F1 l h p, (d == 0) = false, PureX Tryz.prog 47 #[ii l, ii n1, ii d] (rt (tp [ii lo, ii hi, bb true])), PureX Tryz.prog 47 #[ii h, ii n1, ii d] (rt (tp [ii lo2, ii hi2, bb true])), PureX Tryz.prog 46 #[iv (mnI lo lo2) (mxI hi hi2) false, bb true] (rt (iv a b c))]) := by kernel_rfl
theorem dpa_tf : runB Tryz.prog 31 #[iv l h p, ii n1, ii d] [] [n, n, f] [(47, rt (tp [ii lo, ii hi, bb true])), (47, rt (tp [ii lo2, ii hi2, bb false])), (46, rt (iv a b c))] [(22, rt (bb true), J1 1002 l h p)] =
    some (rt (iv a b c), [], [F1 l h p, (d == 0) = false, PureX Tryz.prog 47 #[ii l, ii n1, ii d] (rt (tp [ii lo, ii hi, bb true])), PureX Tryz.prog 47 #[ii h, ii n1, ii d] (rt (tp [ii lo2, ii hi2, bb false])), PureX Tryz.prog 46 #[iv (mnI lo lo2) (mxI hi hi2) false, bb false] (rt (iv a b c))]) := by kernel_rfl
theorem dpa_f : runB Tryz.prog 31 #[iv l h p, ii n1, ii d] [] [n, n, f] [(47, rt (tp [ii lo, ii hi, bb false])), (47, rt (tp [ii lo2, ii hi2, bb v])), (46, rt (iv a b c))] [(22, rt (bb true), J1 1002 l h p)] =
    some (rt (iv a b c), [], [F1 l h p, (d == 0) = false, PureX Tryz.prog 47 #[ii l, ii n1, ii d] (rt (tp [ii lo, ii hi, bb false])), PureX Tryz.prog 47 #[ii h, ii n1, ii d] (rt (tp [ii lo2, ii hi2, bb v])), PureX Tryz.prog 46 #[iv (mnI lo lo2) (mxI hi hi2) false, bb false] (rt (iv a b c))]) := by kernel_rfl
end
theorem fl_neg {u d : Int} (hd : d < 0) : flI u d = flI (-u) (-d) := by
  refine Int.le_antisymm ?_ ?_
  · refine (le_fl (by omega)).2 ?_
    have := (le_fln (x := u) hd).1 (Int.le_refl _)
    rw [Int.neg_mul]; omega
  · refine (le_fln hd).2 ?_
    have := (le_fl (x := -u) (y := -d) (by omega)).1 (Int.le_refl _)
    rw [Int.neg_mul] at this; omega
theorem ce_neg {u d : Int} (hd : d < 0) : ceI u d = ceI (-u) (-d) := by
  refine Int.le_antisymm ?_ ?_
  · refine (ce_len hd).2 ?_
    have := (ce_le (x := -u) (y := -d) (by omega)).1 (Int.le_refl _)
    rw [Int.neg_mul] at this; omega
  · refine (ce_le (by omega)).2 ?_
    have := (ce_len (x := u) hd).1 (Int.le_refl _)
    rw [Int.neg_mul]; omega
theorem fl_mn {u v d : Int} (hd : 0 < d) : flI (mnI u v) d = mnI (flI u d) (flI v d) := by
  rcases Int.lt_or_le v u with h | h
  · have := fl_mono hd (Int.le_of_lt h)
    rw [show mnI u v = v by unfold mnI; rw [if_pos h]]
    unfold mnI; split <;> omega
  · have := fl_mono hd h
    rw [show mnI u v = u by unfold mnI; rw [if_neg (by omega)]]
    unfold mnI; split <;> omega
theorem ce_mx {u v d : Int} (hd : 0 < d) : ceI (mxI u v) d = mxI (ceI u d) (ceI v d) := by
  rcases Int.lt_or_le u v with h | h
  · have := ce_mono hd (Int.le_of_lt h)
    rw [show mxI u v = v by unfold mxI; rw [if_pos h]]
    unfold mxI; split <;> omega
  · have := ce_mono hd h
    rw [show mxI u v = u by unfold mxI; rw [if_neg (by omega)]]
    unfold mxI; split <;> omega
/-- Outward, of a floor and a ceiling: what may be, and what may not. -/
theorem out_mk {f c : Int} (h : f ≤ c) : mkV (endI f) (endI c) = if -1152921504606846976 ≤ f ∧ c ≤ 1152921504606846976 then mkV f c else bdV := by
  split
  · rename_i hh
    rw [endI_of (by unfold isI; omega), endI_of (by unfold isI; omega)]
  · rename_i hh
    refine mkV_no ?_
    unfold endI
    by_cases a : isI f
    · rw [if_pos a]
      by_cases b : isI c
      · rw [if_pos b]; omega
      · rw [if_neg b]; omega
    · rw [if_neg a]
      by_cases b : isI c
      · rw [if_pos b]; omega
      · rw [if_neg b]; omega
theorem out_two {u v d : Int} (hd : 0 < d) : outV (mnI u v) (mxI u v) d = if (inM u d && inM v d) = true then mkV (mnI (flI u d) (flI v d)) (mxI (ceI u d) (ceI v d)) else bdV := by
  have a := fl_ce_any (x := u) (y := d) (by omega)
  have b := fl_ce_any (x := v) (y := d) (by omega)
  unfold outV
  rw [fl_mn hd, ce_mx hd]
  have m := mnI_le (x := flI u d) (y := flI v d)
  have M := le_mxI (x := ceI u d) (y := ceI v d)
  rw [out_mk (by omega)]
  have hh : (inM u d && inM v d) = true ↔ (-1152921504606846976 ≤ flI u d ∧ ceI u d ≤ 1152921504606846976) ∧ (-1152921504606846976 ≤ flI v d ∧ ceI v d ≤ 1152921504606846976) := by
    unfold inM
    simp only [Bool.and_eq_true, decide_eq_true_eq]
  by_cases h : (inM u d && inM v d) = true
  · rw [if_pos h]
    have h := hh.1 h
    have := le_mnI (x := flI u d) (y := flI v d) h.1.1 h.2.1
    have := mxI_le (x := ceI u d) (y := ceI v d) h.1.2 h.2.2
    rw [if_pos ⟨by omega, by omega⟩]
  · rw [if_neg h, if_neg]
    intro h2
    exact h (hh.2 (by omega))
theorem inM_neg {u d : Int} (hd : d < 0) : inM u d = inM (-u) (-d) := by unfold inM; rw [fl_neg hd, ce_neg hd]
theorem mnI_comm (x y : Int) : mnI x y = mnI y x := by unfold mnI; split <;> split <;> omega
theorem mxI_comm (x y : Int) : mxI x y = mxI y x := by unfold mxI; split <;> split <;> omega
theorem part_eq {x : IV} {n d : Int} (hx : okV x = true) (h0 : d ≠ 0) : partV x n d = if (inM (x.1 * n) d && inM (x.2.1 * n) d) = true then mkV (mnI (flI (x.1 * n) d) (flI (x.2.1 * n) d)) (mxI (ceI (x.1 * n) d) (ceI (x.2.1 * n) d)) else bdV := by
  unfold partV
  rw [if_neg h0]
  by_cases hn : d < 0
  · have e := negV_ok hx
    have k : okV (negV x) = true := by
      have a := okV_iff.1 hx
      rw [e]
      exact okV_mk (by omega) (by omega) (by omega)
    rw [if_pos hn]
    unfold partP
    rw [if_pos k, out_two (show 0 < -d by omega), e]
    simp only
    rw [Int.neg_mul, Int.neg_mul, ← inM_neg hn, ← inM_neg hn, ← fl_neg hn, ← fl_neg hn, ← ce_neg hn, ← ce_neg hn, mnI_comm, mxI_comm, Bool.and_comm]
  · rw [if_neg hn]
    unfold partP
    rw [if_pos hx, out_two (by omega)]
theorem dpart_v (hP : PlainOK) (x : IV) {n d : Int} (hn : isI n) (hd : isI d) : PureX Tryz.prog 31 #[ivv x, ii n, ii d] (rt (ivv (partV x n d))) := by
  have hf := rfine_v1 1002 x
  cases hk : okV x
  · rw [hk] at hf
    have e : partV x n d = bdV := by
      unfold partV partP
      have : okV (negV x) = false := by
        rw [show negV x = bdV by unfold negV; rw [hk]; rfl]; rfl
      rw [hk, this]
      split
      · rfl
      · split <;> rfl
    rw [e]
    exact runB_pure mix (dpa_no x.1 x.2.1 x.2.2 n d) ⟨hf, dbd_v, trivial⟩ rfl rfl
  rw [hk] at hf
  by_cases h0 : d = 0
  · subst h0
    exact runB_pure mix (dpa_0 x.1 x.2.1 x.2.2 n 0) ⟨hf, rfl, dbd_v, trivial⟩ rfl rfl
  have k := okV_iff.1 hk
  have i1 := ok_isI hk (Int.le_refl _) k.2.2.1
  have i2 := ok_isI hk k.2.2.1 (Int.le_refl _)
  obtain ⟨lo, hi, B1, e1⟩ := dby_z hP i1 hn hd h0
  obtain ⟨lo2, hi2, B2, e2⟩ := dby_z hP i2 hn hd h0
  have z : (d == 0) = false := by simpa using h0
  rw [part_eq hk h0]
  cases g1 : inM (x.1 * n) d
  · rw [g1] at B1
    rw [if_neg (by simp)]
    exact runB_pure mix (dpa_f x.1 x.2.1 x.2.2 n d lo hi lo2 hi2 _ _ _ _) ⟨hf, z, B1, B2, tld_v _ _ false, trivial⟩ rfl rfl
  · rw [g1] at B1
    obtain ⟨rfl, rfl⟩ := e1 g1
    cases g2 : inM (x.2.1 * n) d
    · rw [g2] at B2
      rw [if_neg (by simp)]
      exact runB_pure mix (dpa_tf x.1 x.2.1 x.2.2 n d _ _ lo2 hi2 _ _ _) ⟨hf, z, B1, B2, tld_v _ _ false, trivial⟩ rfl rfl
    · rw [g2] at B2
      obtain ⟨rfl, rfl⟩ := e2 g2
      rw [if_pos (by simp)]
      exact runB_pure mix (dpa_tt x.1 x.2.1 x.2.2 n d _ _ _ _ _ _ _) ⟨hf, z, B1, B2, tld_v _ _ true, trivial⟩ rfl rfl

end Go.Proofs.YtbmekaaekngpbaaGreat

/- The document's Mul of intervals, given its division. -/
namespace Go.Proofs.YtbmekaaekngpbaaGreat
open Go Go.RowKit
set_option linter.unusedSimpArgs false
set_option linter.unusedVariables false
set_option maxRecDepth 100000

section
variable (l h : Int) (p : Bool) (m k : Int) (q : Bool) (a1 b1 a2 b2 a3 b3 a4 b4 a b : Int) (c : Bool)
abbrev F2 : Prop := CallsV Tryz.prog (.func 22) #[sl 1003 2] (J2 1003 l h p m k q) (rt (bb true)) (J2 1003 l h p m k q)
theorem dmu_no : runB Tryz.prog 24 #[iv l h p, iv m k q] [] [] [(45, rt (iv 0 0 true))] [(22, rt (bb false), J2 1003 l h p m k q)] =
    some (rt (iv 0 0 true), [], [CallsV Tryz.prog (.func 22) #[sl 1003 2] (J2 1003 l h p m k q) (rt (bb false)) (J2 1003 l h p m k q), PureX Tryz.prog 45 #[] (rt (iv 0 0 true))]) := by kernel_rfl
theorem dmu_0 : runB Tryz.prog 24 #[iv l h p, iv m k q] [] [] [(45, rt (iv 0 0 true)), (47, rt (tp [ii a1, ii b1, bb false])), (45, rt (iv 0 0 true))] [(22, rt (bb true), J2 1003 l h p m k q)] =
    some (rt (iv 0 0 true), [], [F2 l h p m k q, PureX Tryz.prog 45 #[] (rt (iv 0 0 true)), PureX Tryz.prog 47 #[ii l, ii m, ii 1073741824] (rt (tp [ii a1, ii b1, bb false])), PureX Tryz.prog 45 #[] (rt (iv 0 0 true))]) := by kernel_rfl
theorem dmu_1 : runB Tryz.prog 24 #[iv l h p, iv m k q] [] [] [(45, rt (iv 0 0 true)), (47, rt (tp [ii a1, ii b1, bb true])), (47, rt (tp [ii a2, ii b2, bb false])), (45, rt (iv 0 0 true))] [(22, rt (bb true), J2 1003 l h p m k q)] =
    some (rt (iv 0 0 true), [], [F2 l h p m k q, PureX Tryz.prog 45 #[] (rt (iv 0 0 true)), PureX Tryz.prog 47 #[ii l, ii m, ii 1073741824] (rt (tp [ii a1, ii b1, bb true])), PureX Tryz.prog 47 #[ii l, ii k, ii 1073741824] (rt (tp [ii a2, ii b2, bb false])), PureX Tryz.prog 45 #[] (rt (iv 0 0 true))]) := by kernel_rfl
theorem dmu_2 : runB Tryz.prog 24 #[iv l h p, iv m k q] [] [] [(45, rt (iv 0 0 true)), (47, rt (tp [ii a1, ii b1, bb true])), (47, rt (tp [ii a2, ii b2, bb true])), (47, rt (tp [ii a3, ii b3, bb false])), (45, rt (iv 0 0 true))] [(22, rt (bb true), J2 1003 l h p m k q)] =
    some (rt (iv 0 0 true), [], [F2 l h p m k q, PureX Tryz.prog 45 #[] (rt (iv 0 0 true)), PureX Tryz.prog 47 #[ii l, ii m, ii 1073741824] (rt (tp [ii a1, ii b1, bb true])), PureX Tryz.prog 47 #[ii l, ii k, ii 1073741824] (rt (tp [ii a2, ii b2, bb true])), PureX Tryz.prog 47 #[ii h, ii m, ii 1073741824] (rt (tp [ii a3, ii b3, bb false])), PureX Tryz.prog 45 #[] (rt (iv 0 0 true))]) := by kernel_rfl
theorem dmu_3 : runB Tryz.prog 24 #[iv l h p, iv m k q] [] [] [(45, rt (iv 0 0 true)), (47, rt (tp [ii a1, ii b1, bb true])), (47, rt (tp [ii a2, ii b2, bb true])), (47, rt (tp [ii a3, ii b3, bb true])), (47, rt (tp [ii a4, ii b4, bb false])), (45, rt (iv 0 0 true))] [(22, rt (bb true), J2 1003 l h p m k q)] =
    some (rt (iv 0 0 true), [], [F2 l h p m k q, PureX Tryz.prog 45 #[] (rt (iv 0 0 true)), PureX Tryz.prog 47 #[ii l, ii m, ii 1073741824] (rt (tp [ii a1, ii b1, bb true])), PureX Tryz.prog 47 #[ii l, ii k, ii 1073741824] (rt (tp [ii a2, ii b2, bb true])), PureX Tryz.prog 47 #[ii h, ii m, ii 1073741824] (rt (tp [ii a3, ii b3, bb true])), PureX Tryz.prog 47 #[ii h, ii k, ii 1073741824] (rt (tp [ii a4, ii b4, bb false])), PureX Tryz.prog 45 #[] (rt (iv 0 0 true))]) := by kernel_rfl
theorem dmu_ok : runB Tryz.prog 24 #[iv l h p, iv m k q] [] [] [(45, rt (iv 0 0 true)), (47, rt (tp [ii a1, ii b1, bb true])), (47, rt (tp [ii a2, ii b2, bb true])), (47, rt (tp [ii a3, ii b3, bb true])), (47, rt (tp [ii a4, ii b4, bb true])), (46, rt (iv a b c))] [(22, rt (bb true), J2 1003 l h p m k q)] =
    some (rt (iv a b c), [], [F2 l h p m k q, PureX Tryz.prog 45 #[] (rt (iv 0 0 true)), PureX Tryz.prog 47 #[ii l, ii m, ii 1073741824] (rt (tp [ii a1, ii b1, bb true])), PureX Tryz.prog 47 #[ii l, ii k, ii 1073741824] (rt (tp [ii a2, ii b2, bb true])), PureX Tryz.prog 47 #[ii h, ii m, ii 1073741824] (rt (tp [ii a3, ii b3, bb true])), PureX Tryz.prog 47 #[ii h, ii k, ii 1073741824] (rt (tp [ii a4, ii b4, bb true])), PureX Tryz.prog 46 #[iv (mnI (mnI (mnI (mnI a1 a1) a2) a3) a4) (mxI (mxI (mxI (mxI b1 b1) b2) b3) b4) false, bb true] (rt (iv a b c))]) := by kernel_rfl
end

theorem mnI_rc (x y z : Int) : mnI (mnI x y) z = mnI (mnI x z) y := by
  have a := mnI_le (x := mnI x y) (y := z)
  have b := mnI_le (x := x) (y := y)
  have c := mnI_le (x := mnI x z) (y := y)
  have d := mnI_le (x := x) (y := z)
  exact Int.le_antisymm (le_mnI (le_mnI (by omega) (by omega)) (by omega)) (le_mnI (le_mnI (by omega) (by omega)) (by omega))
theorem mxI_rc (x y z : Int) : mxI (mxI x y) z = mxI (mxI x z) y := by
  have a := le_mxI (x := mxI x y) (y := z)
  have b := le_mxI (x := x) (y := y)
  have c := le_mxI (x := mxI x z) (y := y)
  have d := le_mxI (x := x) (y := z)
  exact Int.le_antisymm (mxI_le (mxI_le (by omega) (by omega)) (by omega)) (mxI_le (mxI_le (by omega) (by omega)) (by omega))
theorem out_four {u1 u2 u3 u4 d : Int} (hd : 0 < d) : outV (mn4I u1 u2 u3 u4) (mx4I u1 u2 u3 u4) d = if inM u1 d = true ∧ inM u2 d = true ∧ inM u3 d = true ∧ inM u4 d = true then mkV (mn4I (flI u1 d) (flI u2 d) (flI u3 d) (flI u4 d)) (mx4I (ceI u1 d) (ceI u2 d) (ceI u3 d) (ceI u4 d)) else bdV := by
  have a := fl_ce_any (x := u1) (y := d) (by omega)
  have b := fl_ce_any (x := u2) (y := d) (by omega)
  have c := fl_ce_any (x := u3) (y := d) (by omega)
  have e := fl_ce_any (x := u4) (y := d) (by omega)
  have f1 : flI (mn4I u1 u2 u3 u4) d = mn4I (flI u1 d) (flI u2 d) (flI u3 d) (flI u4 d) := by unfold mn4I; rw [fl_mn hd, fl_mn hd, fl_mn hd]
  have f2 : ceI (mx4I u1 u2 u3 u4) d = mx4I (ceI u1 d) (ceI u2 d) (ceI u3 d) (ceI u4 d) := by unfold mx4I; rw [ce_mx hd, ce_mx hd, ce_mx hd]
  unfold outV
  rw [f1, f2]
  have m := mn4_le (a := flI u1 d) (b := flI u2 d) (c := flI u3 d) (d := flI u4 d)
  have M := le_mx4 (a := ceI u1 d) (b := ceI u2 d) (c := ceI u3 d) (d := ceI u4 d)
  rw [out_mk (by omega)]
  have hh : ∀ u, inM u d = true ↔ -1152921504606846976 ≤ flI u d ∧ ceI u d ≤ 1152921504606846976 := fun u => by
    unfold inM
    simp only [Bool.and_eq_true, decide_eq_true_eq]
  by_cases h : inM u1 d = true ∧ inM u2 d = true ∧ inM u3 d = true ∧ inM u4 d = true
  · rw [if_pos h]
    have h1 := (hh _).1 h.1
    have h2 := (hh _).1 h.2.1
    have h3 := (hh _).1 h.2.2.1
    have h4 := (hh _).1 h.2.2.2
    have x1 := le_mn4 (a := flI u1 d) (b := flI u2 d) (c := flI u3 d) (d := flI u4 d) h1.1 h2.1 h3.1 h4.1
    have x2 := mx4_le (a := ceI u1 d) (b := ceI u2 d) (c := ceI u3 d) (d := ceI u4 d) h1.2 h2.2 h3.2 h4.2
    rw [if_pos ⟨x1, x2⟩]
  · rw [if_neg h, if_neg]
    intro h2
    exact h ⟨(hh _).2 (by omega), (hh _).2 (by omega), (hh _).2 (by omega), (hh _).2 (by omega)⟩
theorem dmul_no {x y : IV} (h : ¬ (okV x = true ∧ okV y = true)) : mulV x y = bdV := by
  unfold mulV
  rw [if_neg (by simpa using h)]
theorem dmul_v (hP : PlainOK) (x y : IV) : PureX Tryz.prog 24 #[ivv x, ivv y] (rt (ivv (mulV x y))) := by
  have hf := rfine_v2 1003 x y
  cases hk : okV x && okV y
  · rw [hk] at hf
    rw [dmul_no (fun h => by rw [h.1, h.2] at hk; simp at hk)]
    exact runB_pure mix (dmu_no x.1 x.2.1 x.2.2 y.1 y.2.1 y.2.2) ⟨hf, dbd_v, trivial⟩ rfl rfl
  rw [hk] at hf
  simp only [Bool.and_eq_true] at hk
  obtain ⟨hx, hy⟩ := hk
  have kx := okV_iff.1 hx
  have ky := okV_iff.1 hy
  have i1 := ok_isI hx (Int.le_refl _) kx.2.2.1
  have i2 := ok_isI hx kx.2.2.1 (Int.le_refl _)
  have j1 := ok_isI hy (Int.le_refl _) ky.2.2.1
  have j2 := ok_isI hy ky.2.2.1 (Int.le_refl _)
  have hO : isI 1073741824 := by unfold isI; omega
  obtain ⟨lo1, hi1, B1, e1⟩ := dby_z hP i1 j1 hO (by decide)
  obtain ⟨lo2, hi2, B2, e2⟩ := dby_z hP i1 j2 hO (by decide)
  obtain ⟨lo3, hi3, B3, e3⟩ := dby_z hP i2 j1 hO (by decide)
  obtain ⟨lo4, hi4, B4, e4⟩ := dby_z hP i2 j2 hO (by decide)
  rw [mulV_ok hx hy, out_four (by decide)]
  cases g1 : inM (x.1 * y.1) 1073741824
  · rw [g1] at B1
    rw [if_neg (by simp)]
    exact runB_pure mix (dmu_0 x.1 x.2.1 x.2.2 y.1 y.2.1 y.2.2 _ _) ⟨hf, dbd_v, B1, dbd_v, trivial⟩ rfl rfl
  rw [g1] at B1
  obtain ⟨rfl, rfl⟩ := e1 g1
  cases g2 : inM (x.1 * y.2.1) 1073741824
  · rw [g2] at B2
    rw [if_neg (by simp)]
    exact runB_pure mix (dmu_1 x.1 x.2.1 x.2.2 y.1 y.2.1 y.2.2 _ _ _ _) ⟨hf, dbd_v, B1, B2, dbd_v, trivial⟩ rfl rfl
  rw [g2] at B2
  obtain ⟨rfl, rfl⟩ := e2 g2
  cases g3 : inM (x.2.1 * y.1) 1073741824
  · rw [g3] at B3
    rw [if_neg (by simp)]
    exact runB_pure mix (dmu_2 x.1 x.2.1 x.2.2 y.1 y.2.1 y.2.2 _ _ _ _ _ _) ⟨hf, dbd_v, B1, B2, B3, dbd_v, trivial⟩ rfl rfl
  rw [g3] at B3
  obtain ⟨rfl, rfl⟩ := e3 g3
  cases g4 : inM (x.2.1 * y.2.1) 1073741824
  · rw [g4] at B4
    rw [if_neg (by simp)]
    exact runB_pure mix (dmu_3 x.1 x.2.1 x.2.2 y.1 y.2.1 y.2.2 _ _ _ _ _ _ _ _) ⟨hf, dbd_v, B1, B2, B3, B4, dbd_v, trivial⟩ rfl rfl
  rw [g4] at B4
  obtain ⟨rfl, rfl⟩ := e4 g4
  rw [if_pos (by simp)]
  have r := runB_pure mix (dmu_ok x.1 x.2.1 x.2.2 y.1 y.2.1 y.2.2 _ _ _ _ _ _ _ _ _ _ _) ⟨hf, dbd_v, B1, B2, B3, B4, tld_v _ _ true, trivial⟩ rfl rfl
  rw [if_pos rfl, mnI_self, mxI_self, mnI_rc (flI (x.1 * y.1) 1073741824), mxI_rc (ceI (x.1 * y.1) 1073741824)] at r
  exact r

end Go.Proofs.YtbmekaaekngpbaaGreat
