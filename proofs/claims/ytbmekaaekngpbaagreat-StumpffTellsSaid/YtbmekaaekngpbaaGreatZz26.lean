/- Texts of the seat, joined. -/
import Derived.Test.YtbmekaaekngpbaaGreatZz21
/- The document's answers of intervals, the plain ones. -/
namespace Go.Proofs.YtbmekaaekngpbaaGreat
open Go Go.RowKit
set_option linter.unusedSimpArgs false
set_option linter.unusedVariables false
set_option maxRecDepth 100000

section
variable (l h : Int) (p : Bool) (m k : Int) (q : Bool) (a b : Int) (c f : Bool)
theorem dbd_raw : runB Tryz.prog 45 #[] [] [] [] [] = some (rt (iv 0 0 true), [], []) := by kernel_rfl
theorem tld_t : runB Tryz.prog 46 #[iv l h c, bb true] [] [] [] [(22, rt (bb true), J1 1002 l h c)] = some (rt (iv l h c), [], [CallsV Tryz.prog (.func 22) #[sl 1002 1] (J1 1002 l h c) (rt (bb true)) (J1 1002 l h c)]) := by kernel_rfl
theorem tld_n : runB Tryz.prog 46 #[iv l h c, bb true] [] [] [(45, rt (iv 0 0 true))] [(22, rt (bb false), J1 1002 l h c)] = some (rt (iv 0 0 true), [], [CallsV Tryz.prog (.func 22) #[sl 1002 1] (J1 1002 l h c) (rt (bb false)) (J1 1002 l h c), PureX Tryz.prog 45 #[] (rt (iv 0 0 true))]) := by kernel_rfl
theorem tld_f : runB Tryz.prog 46 #[iv l h c, bb false] [] [] [(45, rt (iv 0 0 true))] [] = some (rt (iv 0 0 true), [], [PureX Tryz.prog 45 #[] (rt (iv 0 0 true))]) := by kernel_rfl
theorem dpt_raw (n1 : Int) : runB Tryz.prog 20 #[ii n1] [] [] [(46, rt (iv a b c))] [] = some (rt (iv a b c), [], [PureX Tryz.prog 46 #[iv n1 n1 false, bb true] (rt (iv a b c))]) := by kernel_rfl
theorem dmk_raw (n1 d : Int) : runB Tryz.prog 21 #[ii n1, ii d] [] [] [(46, rt (iv a b c))] [] = some (rt (iv a b c), [], [PureX Tryz.prog 46 #[iv (mnI n1 d) (mxI n1 d) false, bb true] (rt (iv a b c))]) := by kernel_rfl
theorem dad_raw : runB Tryz.prog 23 #[iv l h p, iv m k q] [] [] [(46, rt (iv a b c))] [(22, rt (bb f), J2 1003 l h p m k q)] =
    some (rt (iv a b c), [], [CallsV Tryz.prog (.func 22) #[sl 1003 2] (J2 1003 l h p m k q) (rt (bb f)) (J2 1003 l h p m k q), PureX Tryz.prog 46 #[iv (IntKind.i64.wrap (l + m)) (IntKind.i64.wrap (h + k)) false, bb f] (rt (iv a b c))]) := by kernel_rfl
theorem dsu_raw : runB Tryz.prog 30 #[iv l h p, iv m k q] [] [] [(46, rt (iv a b c))] [(22, rt (bb f), J2 1003 l h p m k q)] =
    some (rt (iv a b c), [], [CallsV Tryz.prog (.func 22) #[sl 1003 2] (J2 1003 l h p m k q) (rt (bb f)) (J2 1003 l h p m k q), PureX Tryz.prog 46 #[iv (IntKind.i64.wrap (l - k)) (IntKind.i64.wrap (h - m)) false, bb f] (rt (iv a b c))]) := by kernel_rfl
theorem dme_raw : runB Tryz.prog 77 #[iv l h p, iv m k q] [] [] [(46, rt (iv a b c))] [(22, rt (bb f), J2 1003 l h p m k q)] =
    some (rt (iv a b c), [], [CallsV Tryz.prog (.func 22) #[sl 1003 2] (J2 1003 l h p m k q) (rt (bb f)) (J2 1003 l h p m k q), PureX Tryz.prog 46 #[iv (mxI l m) (mnI h k) false, bb f] (rt (iv a b c))]) := by kernel_rfl
end
theorem dbd_v : PureX Tryz.prog 45 #[] (rt (iv 0 0 true)) := runB_pure mix dbd_raw trivial rfl rfl
theorem tld_v (l h : Int) (f : Bool) : PureX Tryz.prog 46 #[iv l h false, bb f] (rt (ivv (if f = true then mkV l h else bdV))) := by
  cases f
  · exact runB_pure mix (tld_f l h false) ⟨dbd_v, trivial⟩ rfl rfl
  · have hf := rfine_v1 1002 (l, h, false)
    rw [if_pos rfl]
    unfold mkV
    cases hk : okI l h false
    · rw [show okV (l, h, false) = false from hk] at hf
      exact runB_pure mix (tld_n l h false) ⟨hf, dbd_v, trivial⟩ rfl rfl
    · rw [show okV (l, h, false) = true from hk] at hf
      exact runB_pure mix (tld_t l h false) ⟨hf, trivial⟩ rfl rfl
theorem rpoint_v (n : Int) : PureX Tryz.prog 20 #[ii n] (rt (ivv (mkV n n))) := runB_pure mix (dpt_raw _ _ _ n) ⟨tld_v n n true, trivial⟩ rfl rfl
theorem rmake_v (n d : Int) : PureX Tryz.prog 21 #[ii n, ii d] (rt (ivv (mkV (mnI n d) (mxI n d)))) := runB_pure mix (dmk_raw _ _ _ n d) ⟨tld_v _ _ true, trivial⟩ rfl rfl
theorem radd_v (x y : IV) : PureX Tryz.prog 23 #[ivv x, ivv y] (rt (ivv (addV x y))) := by
  have r := runB_pure mix (dad_raw x.1 x.2.1 x.2.2 y.1 y.2.1 y.2.2 _ _ _ _) ⟨rfine_v2 1003 x y, tld_v _ _ _, trivial⟩ rfl rfl
  unfold addV
  cases hk : okV x && okV y
  · rw [hk] at r
    exact r
  · rw [hk] at r
    simp only [Bool.and_eq_true] at hk
    have a := okV_iff.1 hk.1
    have b := okV_iff.1 hk.2
    rw [wrapI (z := x.1 + y.1) (by omega), wrapI (z := x.2.1 + y.2.1) (by omega)] at r
    exact r
theorem rsub_v (x y : IV) : PureX Tryz.prog 30 #[ivv x, ivv y] (rt (ivv (subV x y))) := by
  have r := runB_pure mix (dsu_raw x.1 x.2.1 x.2.2 y.1 y.2.1 y.2.2 _ _ _ _) ⟨rfine_v2 1003 x y, tld_v _ _ _, trivial⟩ rfl rfl
  unfold subV
  cases hk : okV x && okV y
  · rw [hk] at r
    exact r
  · rw [hk] at r
    simp only [Bool.and_eq_true] at hk
    have a := okV_iff.1 hk.1
    have b := okV_iff.1 hk.2
    rw [wrapI (z := x.1 - y.2.1) (by omega), wrapI (z := x.2.1 - y.1) (by omega)] at r
    exact r
theorem rmeet_v (x y : IV) : PureX Tryz.prog 77 #[ivv x, ivv y] (rt (ivv (meetV x y))) :=
  runB_pure mix (dme_raw x.1 x.2.1 x.2.2 y.1 y.2.1 y.2.2 _ _ _ _) ⟨rfine_v2 1003 x y, tld_v _ _ _, trivial⟩ rfl rfl
end Go.Proofs.YtbmekaaekngpbaaGreat

/- The document's floors and ceilings of a product by a number (by), and its Part, given its division. -/
namespace Go.Proofs.YtbmekaaekngpbaaGreat
open Go Go.RowKit
set_option linter.unusedSimpArgs false
set_option linter.unusedVariables false
set_option maxRecDepth 100000

theorem drint_raw2 (a b : Nat) : runB Tryz.prog 67 #[wv a] [] [t] [(50, rt (wv b))] [] =
    some (rt (tp [ii 0, bb false]), [], [PureX Tryz.prog 50 #[ii (IntKind.i64.wrap (Int.ofNat (a % 18446744073709551616)))] (rt (wv b)), (!(eqv b a)) = true]) := by kernel_rfl
theorem rint_no {x : Int} (hx : inR x) (h : ¬ isI x) : PureX Tryz.prog 67 #[wz x] (rt (tp [ii 0, bb false])) := by
  obtain ⟨h1, h2⟩ := wrap_nz hx
  obtain ⟨y, hy⟩ : ∃ y, IntKind.i64.wrap (Int.ofNat (nz x % 18446744073709551616)) = y := ⟨_, rfl⟩
  rw [hy] at h1 h2
  have ho := rof_z h1.1 h1.2
  have he := eqv_z (isI_R h1) hx
  exact runB_pure mix (drint_raw2 (nz x) (nz y)) ⟨by rw [hy]; exact ho, by rw [he, decide_eq_false (show ¬ y = x from fun e => h (by rw [← e]; exact h1))]; rfl, trivial⟩ rfl rfl
section
variable (x n1 d lo hi : Int) (a b c dd f1 c1 : Nat) (q v : Bool)
abbrev byO : List Prop := [PureX Tryz.prog 50 #[ii x] (rt (wv a)), PureX Tryz.prog 50 #[ii n1] (rt (wv b)), PureX Tryz.prog 49 #[wv a, wv b] (rt (tp [wv c, bb q])), PureX Tryz.prog 50 #[ii d] (rt (wv dd)), PureX Tryz.prog 51 #[wv c, wv dd] (rt (tp [wv f1, ii 0])), PureX Tryz.prog 50 #[ii d] (rt (wv dd)), PureX Tryz.prog 52 #[wv c, wv dd] (rt (tp [wv c1, ii 0]))]
abbrev byA : List (Nat × Res) := [(50, rt (wv a)), (50, rt (wv b)), (49, rt (tp [wv c, bb q])), (50, rt (wv dd)), (51, rt (tp [wv f1, ii 0])), (50, rt (wv dd)), (52, rt (tp [wv c1, ii 0]))]
theorem by_t : runB Tryz.prog 47 #[ii x, ii n1, ii d] [] [n, n, n, n, t] (byA a b c dd f1 c1 q ++ [(67, rt (tp [ii lo, bb true])), (67, rt (tp [ii hi, bb true]))]) [] =
    some (rt (tp [ii lo, ii hi, bb (decide (hi ≤ 1152921504606846976))]), [], byO x n1 d a b c dd f1 c1 q ++ [PureX Tryz.prog 67 #[wv f1] (rt (tp [ii lo, bb true])), PureX Tryz.prog 67 #[wv c1] (rt (tp [ii hi, bb true])), decide (-1152921504606846976 ≤ lo) = true]) := by kernel_rfl
theorem by_l : runB Tryz.prog 47 #[ii x, ii n1, ii d] [] [n, n, n, n, f] (byA a b c dd f1 c1 q ++ [(67, rt (tp [ii lo, bb true])), (67, rt (tp [ii hi, bb true]))]) [] =
    some (rt (tp [ii lo, ii hi, bb false]), [], byO x n1 d a b c dd f1 c1 q ++ [PureX Tryz.prog 67 #[wv f1] (rt (tp [ii lo, bb true])), PureX Tryz.prog 67 #[wv c1] (rt (tp [ii hi, bb true])), decide (-1152921504606846976 ≤ lo) = false]) := by kernel_rfl
theorem by_2 : runB Tryz.prog 47 #[ii x, ii n1, ii d] [] [] (byA a b c dd f1 c1 q ++ [(67, rt (tp [ii lo, bb true])), (67, rt (tp [ii hi, bb false]))]) [] =
    some (rt (tp [ii lo, ii hi, bb false]), [], byO x n1 d a b c dd f1 c1 q ++ [PureX Tryz.prog 67 #[wv f1] (rt (tp [ii lo, bb true])), PureX Tryz.prog 67 #[wv c1] (rt (tp [ii hi, bb false]))]) := by kernel_rfl
theorem by_1 : runB Tryz.prog 47 #[ii x, ii n1, ii d] [] [] (byA a b c dd f1 c1 q ++ [(67, rt (tp [ii lo, bb false])), (67, rt (tp [ii hi, bb v]))]) [] =
    some (rt (tp [ii lo, ii hi, bb false]), [], byO x n1 d a b c dd f1 c1 q ++ [PureX Tryz.prog 67 #[wv f1] (rt (tp [ii lo, bb false])), PureX Tryz.prog 67 #[wv c1] (rt (tp [ii hi, bb v]))]) := by kernel_rfl
end
/-- Are a floor and a ceiling within what ends of intervals may be? -/
def inM (u d : Int) : Bool := decide (-1152921504606846976 ≤ flI u d) && decide (ceI u d ≤ 1152921504606846976)
theorem dby_z (hP : PlainOK) {x m d : Int} (hx : isI x) (hn : isI m) (hd : isI d) (d0 : d ≠ 0) :
    ∃ lo hi : Int, PureX Tryz.prog 47 #[ii x, ii m, ii d] (rt (tp [ii lo, ii hi, bb (inM (x * m) d)])) ∧ (inM (x * m) d = true → lo = flI (x * m) d ∧ hi = ceI (x * m) d) := by
  have fR := flI_in (mul_R hx hn) (mul_nl hx hn) d0
  have cR := ceI_in (mul_R hx hn) (mul_nl hx hn) d0
  have od := rof_z hd.1 hd.2
  have fc := fl_ce_any (x := x * m) d0
  have base : AllP (byO x m d (nz x) (nz m) (nz (x * m)) (nz d) (nz (flI (x * m) d)) (nz (ceI (x * m) d)) _) := ⟨rof_z hx.1 hx.2, rof_z hn.1 hn.2, rmul_z (isI_R hx) (isI_R hn), od, dFloor_z hP (mul_R hx hn) (isI_R hd) (mul_nl hx hn) (isI_nl hd) d0, od, dCeil_z hP (mul_R hx hn) (isI_R hd) (mul_nl hx hn) (isI_nl hd) d0 fR, trivial⟩
  unfold inM
  by_cases h1 : isI (flI (x * m) d)
  · have g1 := rint_ok h1
    by_cases h2 : isI (ceI (x * m) d)
    · have g2 := rint_ok h2
      by_cases hl : -1152921504606846976 ≤ flI (x * m) d
      · refine ⟨_, _, ?_, fun _ => ⟨rfl, rfl⟩⟩
        rw [decide_eq_true hl, Bool.true_and]
        exact runB_pure mix (by_t _ _ _ _ _ _ _ _ _ _ _ _) ((allP_append _ _).2 ⟨base, g1, g2, decide_eq_true hl, trivial⟩) rfl rfl
      · refine ⟨_, _, ?_, fun _ => ⟨rfl, rfl⟩⟩
        rw [decide_eq_false hl, Bool.false_and]
        exact runB_pure mix (by_l _ _ _ _ _ _ _ _ _ _ _ _) ((allP_append _ _).2 ⟨base, g1, g2, decide_eq_false hl, trivial⟩) rfl rfl
    · have e : ¬ ceI (x * m) d ≤ 1152921504606846976 := fun hh => h2 (by unfold isI at *; omega)
      rw [decide_eq_false e, Bool.and_false]
      exact ⟨_, _, runB_pure mix (by_2 _ _ _ _ _ _ _ _ _ _ _ _) ((allP_append _ _).2 ⟨base, g1, rint_no cR h2, trivial⟩) rfl rfl, fun h => by simp at h⟩
  · have g1 := rint_no fR h1
    have e : ¬ (-1152921504606846976 ≤ flI (x * m) d ∧ ceI (x * m) d ≤ 1152921504606846976) := fun hh => h1 (by unfold isI at *; omega)
    have e2 : (decide (-1152921504606846976 ≤ flI (x * m) d) && decide (ceI (x * m) d ≤ 1152921504606846976)) = false := by
      rw [← Bool.decide_and]
      exact decide_eq_false e
    rw [e2]
    by_cases h2 : isI (ceI (x * m) d)
    · exact ⟨_, _, runB_pure mix (by_1 _ _ _ _ _ _ _ _ _ _ _ _ _) ((allP_append _ _).2 ⟨base, g1, rint_ok h2, trivial⟩) rfl rfl, fun h => by simp at h⟩
    · exact ⟨_, _, runB_pure mix (by_1 _ _ _ _ _ _ _ _ _ _ _ _ _) ((allP_append _ _).2 ⟨base, g1, rint_no cR h2, trivial⟩) rfl rfl, fun h => by simp at h⟩

end Go.Proofs.YtbmekaaekngpbaaGreat
