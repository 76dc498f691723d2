/- Texts of the seat, joined. -/
import Derived.Test.YtbmekaaekngpbaaGreatZz27
import Derived.Test.YtbmekaaekngpbaaGreatZz25
import Derived.Test.YtbmekaaekngpbaaGreatZz41
import Derived.Test.YtbmekaaekngpbaaGreatZz44
/- The document's square of an interval. -/
namespace Go.Proofs.YtbmekaaekngpbaaGreat
open Go Go.RowKit
set_option linter.unusedSimpArgs false
set_option linter.unusedVariables false
set_option maxRecDepth 100000

def nearI (x : IV) : Int := mxI (mxI x.1 (-x.2.1)) 0
def farI (x : IV) : Int := mxI x.2.1 (-x.1)
def squareV (x : IV) : IV := if okV x = true then mkV (mnI (flI (nearI x * nearI x) 1073741824) (flI (farI x * farI x) 1073741824)) (mxI (ceI (nearI x * nearI x) 1073741824) (ceI (farI x * farI x) 1073741824)) else bdV
theorem near_far {x : IV} (hx : okV x = true) {n : Int} (h1 : x.1 ≤ n) (h2 : n ≤ x.2.1) : 0 ≤ nearI x ∧ nearI x ≤ n.natAbs ∧ n.natAbs ≤ farI x ∧ nearI x ≤ farI x ∧ farI x ≤ 1152921504606846976 := by
  have a := okV_iff.1 hx
  unfold nearI farI mxI
  split <;> split <;> split <;> omega
theorem near_sq {x : IV} (hx : okV x = true) {n : Int} (h1 : x.1 ≤ n) (h2 : n ≤ x.2.1) : 0 ≤ nearI x * nearI x ∧ nearI x * nearI x ≤ n * n ∧ n * n ≤ farI x * farI x := by
  obtain ⟨a, b, c, d, _⟩ := near_far hx h1 h2
  have e : n * n = (n.natAbs : Int) * (n.natAbs : Int) := by rw [← Int.natCast_mul, Int.natAbs_mul_self]
  rw [e]
  exact ⟨Int.mul_nonneg a a, Int.mul_le_mul b b a (by omega), Int.mul_le_mul c c (by omega) (by omega)⟩
theorem square_ends {x : IV} (hx : okV x = true) : squareV x = mkV (flI (nearI x * nearI x) 1073741824) (ceI (farI x * farI x) 1073741824) := by
  have k := okV_iff.1 hx
  have a := near_sq hx (Int.le_refl _) k.2.2.1
  have h := fl_mono (y := 1073741824) (by decide) (Int.le_trans a.2.1 a.2.2)
  have h2 := ce_mono (y := 1073741824) (by decide) (Int.le_trans a.2.1 a.2.2)
  unfold squareV
  rw [if_pos hx]
  congr 1
  · unfold mnI; split <;> omega
  · unfold mxI; split <;> omega
section
variable (a b c d g r s q : Nat) (x y l h m k : Int) (p o : Bool)
theorem made_t  : runB Tryz.prog 53 #[wv a, wv b, ii 0, ii 0] [] [] [(67, rt (tp [ii x, bb true])), (67, rt (tp [ii y, bb true]))] [(22, rt (bb true), [(1004, oiv [(x, y, false)])])] =
    some (rt (iv x y false), [], [PureX Tryz.prog 67 #[wv a] (rt (tp [ii x, bb true])), PureX Tryz.prog 67 #[wv b] (rt (tp [ii y, bb true])), CallsV Tryz.prog (.func 22) #[sl 1004 1] [(1004, oiv [(x, y, false)])] (rt (bb true)) [(1004, oiv [(x, y, false)])]]) := by kernel_rfl
theorem made_f  : runB Tryz.prog 53 #[wv a, wv b, ii 0, ii 0] [] [] [(67, rt (tp [ii x, bb true])), (67, rt (tp [ii y, bb true]))] [(22, rt (bb false), [(1004, oiv [(x, y, false)])])] =
    some (rt (iv 0 0 true), [], [PureX Tryz.prog 67 #[wv a] (rt (tp [ii x, bb true])), PureX Tryz.prog 67 #[wv b] (rt (tp [ii y, bb true])), CallsV Tryz.prog (.func 22) #[sl 1004 1] [(1004, oiv [(x, y, false)])] (rt (bb false)) [(1004, oiv [(x, y, false)])]]) := by kernel_rfl
theorem made_1  : runB Tryz.prog 53 #[wv a, wv b, ii 0, ii 0] [] [] [(67, rt (tp [ii x, bb false])), (67, rt (tp [ii y, bb o]))] [] =
    some (rt (iv 0 0 true), [], [PureX Tryz.prog 67 #[wv a] (rt (tp [ii x, bb false])), PureX Tryz.prog 67 #[wv b] (rt (tp [ii y, bb o]))]) := by kernel_rfl
theorem made_2  : runB Tryz.prog 53 #[wv a, wv b, ii 0, ii 0] [] [] [(67, rt (tp [ii x, bb true])), (67, rt (tp [ii y, bb false]))] [] =
    some (rt (iv 0 0 true), [], [PureX Tryz.prog 67 #[wv a] (rt (tp [ii x, bb true])), PureX Tryz.prog 67 #[wv b] (rt (tp [ii y, bb false]))]) := by kernel_rfl
end
theorem isI_One : isI 1073741824 := by unfold isI; omega
theorem made_v {lo hi : Int} (hl : inR lo) (hh : inR hi) : PureX Tryz.prog 53 #[wz lo, wz hi, ii 0, ii 0] (rt (ivv (mkV lo hi))) := by
  have no : ∀ {l h : Int}, ¬ (isI l ∧ isI h) → mkV l h = bdV := fun hn => mkV_no (fun hk => hn ⟨by unfold isI; omega, by unfold isI; omega⟩)
  by_cases il : isI lo
  · by_cases ih : isI hi
    · have hf := rfine_v1 1004 (lo, hi, false)
      cases hk : okV (lo, hi, false)
      · rw [hk] at hf
        rw [show mkV lo hi = bdV from if_neg (by rw [show okI lo hi false = false from hk]; decide)]
        exact runB_pure mix (made_f _ _ _ _) ⟨rint_ok il, rint_ok ih, hf, trivial⟩ rfl rfl
      · rw [hk] at hf
        rw [show mkV lo hi = (lo, hi, false) from if_pos hk]
        exact runB_pure mix (made_t _ _ _ _) ⟨rint_ok il, rint_ok ih, hf, trivial⟩ rfl rfl
    · rw [no (fun h => ih h.2)]
      exact runB_pure mix (made_2 _ _ _ _) ⟨rint_ok il, rint_no hh ih, trivial⟩ rfl rfl
  · rw [no (fun h => il h.1)]
    by_cases ih : isI hi
    · exact runB_pure mix (made_1 _ _ _ _ _) ⟨rint_no hl il, rint_ok ih, trivial⟩ rfl rfl
    · exact runB_pure mix (made_1 _ _ _ _ _) ⟨rint_no hl il, rint_no hh ih, trivial⟩ rfl rfl
section
variable (l h : Int) (p : Bool) (a b c d e g x y z w : Nat) (o1 o2 : Bool) (u v r : IV)
theorem dsq_f  : runB Tryz.prog 26 #[iv l h p] [] [] [] [(22, rt (bb false), [(1002, oiv [(l, h, p)])])] =
    some (rt (iv 0 0 true), [], [CallsV Tryz.prog (.func 22) #[sl 1002 1] [(1002, oiv [(l, h, p)])] (rt (bb false)) [(1002, oiv [(l, h, p)])]]) := by kernel_rfl
theorem dsq_t  : runB Tryz.prog 26 #[iv l h p] [] [] [(50, rt (wv a)), (50, rt (wv b)), (49, rt (tp [wv x, bb o1])), (50, rt (wv c)), (50, rt (wv d)), (49, rt (tp [wv y, bb o2])), (50, rt (wv e)), (51, rt (tp [wv z, ii 0])), (50, rt (wv g)), (52, rt (tp [wv w, ii 0])), (53, rt (ivv r))] [(22, rt (bb true), [(1002, oiv [(l, h, p)])])] =
    some (rt (ivv r), [], [CallsV Tryz.prog (.func 22) #[sl 1002 1] [(1002, oiv [(l, h, p)])] (rt (bb true)) [(1002, oiv [(l, h, p)])], PureX Tryz.prog 50 #[ii (mxI (mxI l (IntKind.i64.wrap (0 - h))) 0)] (rt (wv a)), PureX Tryz.prog 50 #[ii (mxI (mxI l (IntKind.i64.wrap (0 - h))) 0)] (rt (wv b)), PureX Tryz.prog 49 #[wv a, wv b] (rt (tp [wv x, bb o1])), PureX Tryz.prog 50 #[ii (mxI h (IntKind.i64.wrap (0 - l)))] (rt (wv c)), PureX Tryz.prog 50 #[ii (mxI h (IntKind.i64.wrap (0 - l)))] (rt (wv d)), PureX Tryz.prog 49 #[wv c, wv d] (rt (tp [wv y, bb o2])), PureX Tryz.prog 50 #[ii 1073741824] (rt (wv e)), PureX Tryz.prog 51 #[wv x, wv e] (rt (tp [wv z, ii 0])), PureX Tryz.prog 50 #[ii 1073741824] (rt (wv g)), PureX Tryz.prog 52 #[wv y, wv g] (rt (tp [wv w, ii 0])), PureX Tryz.prog 53 #[wv z, wv w, ii 0, ii 0] (rt (ivv r))]) := by kernel_rfl
end
theorem dsquare_v (x : IV) : PureX Tryz.prog 26 #[ivv x] (rt (ivv (squareV x))) := by
  have hf := rfine_v1 1002 x
  cases hk : okV x
  · rw [hk] at hf
    rw [show squareV x = bdV from if_neg (by rw [hk]; decide)]
    exact runB_pure mix (dsq_f _ _ _) ⟨hf, trivial⟩ rfl rfl
  rw [hk] at hf
  rw [square_ends hk]
  have a := okV_iff.1 hk
  have nf := near_far hk (Int.le_refl _) a.2.2.1
  have e1 : mxI (mxI x.1 (IntKind.i64.wrap (0 - x.2.1))) 0 = nearI x := by
    unfold nearI
    rw [wrapI (by omega), Int.zero_sub]
  have e2 : mxI x.2.1 (IntKind.i64.wrap (0 - x.1)) = farI x := by
    unfold farI
    rw [wrapI (by omega), Int.zero_sub]
  have r := dsq_t x.1 x.2.1 x.2.2 (nz (nearI x)) (nz (nearI x)) (nz (farI x)) (nz (farI x)) (nz 1073741824) (nz 1073741824) (nz (nearI x * nearI x)) (nz (farI x * farI x)) (nz (flI (nearI x * nearI x) 1073741824)) (nz (ceI (farI x * farI x) 1073741824)) (decide (¬ inR (nearI x * nearI x))) (decide (¬ inR (farI x * farI x))) (mkV (flI (nearI x * nearI x) 1073741824) (ceI (farI x * farI x) 1073741824))
  rw [e1, e2] at r
  have i1 : isI (nearI x) := by unfold isI; omega
  have i2 : isI (farI x) := by unfold isI; omega
  have r1 := mul_R i1 i1
  have r2 := mul_R i2 i2
  have g1 : 0 ≤ nearI x * nearI x := Int.mul_nonneg nf.1 nf.1
  have g2 : 0 ≤ farI x * farI x := Int.mul_nonneg (by omega) (by omega)
  have q1 : nearI x * nearI x ≠ lst := by unfold lst; omega
  have q2 : farI x * farI x ≠ lst := by unfold lst; omega
  have qo : (1073741824 : Int) ≠ lst := by unfold lst; decide
  have O := rof_z isI_One.1 isI_One.2
  have fr := flI_in r2 q2 (show (1073741824 : Int) ≠ 0 by decide)
  exact runB_pure mix r ⟨hf, rof_z i1.1 i1.2, rof_z i1.1 i1.2, rmul_z (isI_R i1) (isI_R i1), rof_z i2.1 i2.2, rof_z i2.1 i2.2, rmul_z (isI_R i2) (isI_R i2), O, dFloor_z plain_ok r1 (isI_R isI_One) q1 qo (by decide), O, dCeil_z plain_ok r2 (isI_R isI_One) q2 qo (by decide) fr, made_v (flI_in r1 q1 (by decide)) (ceI_in r2 q2 (by decide)), trivial⟩ rfl rfl
/-- What a square's ends are, and what they hold. -/
theorem square_Hd {x : IV} {B : Int} (hx : Inn x B) (hB : B ≤ 1099511627776) {v : Rat} (hv : Hd x v) : Hd (squareV x) (v * v / 1073741824) ∧ Inn (squareV x) (1024 * B) := by
  have k := okV_iff.1 hx.1
  have a := near_sq hx.1 (Int.le_refl _) k.2.2.1
  have b := near_far hx.1 (Int.le_refl _) k.2.2.1
  have f0 : farI x ≤ B := by
    have := hx.2
    unfold farI mxI
    split <;> omega
  have c : farI x * farI x ≤ 1099511627776 * B := Int.mul_le_mul (by omega) f0 (by omega) (by decide)
  have d := (le_fl (x := nearI x * nearI x) (y := 1073741824) (z := 0) (by decide)).2 (by omega)
  have e := (ce_le (x := farI x * farI x) (y := 1073741824) (z := 1024 * B) (by decide)).2 (by omega)
  have f := fl_ce (x := nearI x * nearI x) (z := farI x * farI x) (y := 1073741824) (by decide) (by omega)
  have B0 : 0 ≤ B := by omega
  have es : squareV x = (flI (nearI x * nearI x) 1073741824, ceI (farI x * farI x) 1073741824, false) := by
    rw [square_ends hx.1]
    exact mkV_ok (by omega) f (by omega)
  have g1 := (flI_b (x := nearI x * nearI x) (y := 1073741824) (by decide)).1
  have g2 := (ceI_b (x := farI x * farI x) (y := 1073741824) (by decide)).1
  rw [es]
  refine ⟨?_, okV_iff.2 ⟨rfl, by show _ ≤ flI _ _; omega, f, by show ceI _ _ ≤ _; omega⟩, by show _ ≤ flI _ _; omega, e⟩
  unfold Hd at *
  -- nearI <= |v| <= farI
  have n1 : ((nearI x : Int) : Rat) ≤ v ∨ ((nearI x : Int) : Rat) ≤ -v := by
    unfold nearI
    by_cases h : 0 ≤ x.1
    · left
      rw [show mxI (mxI x.1 (-x.2.1)) 0 = x.1 by unfold mxI; split <;> split <;> omega]
      exact hv.1
    · by_cases h2 : x.2.1 ≤ 0
      · right
        rw [show mxI (mxI x.1 (-x.2.1)) 0 = -x.2.1 by unfold mxI; split <;> split <;> omega, Rat.intCast_neg]
        grind
      · rw [show mxI (mxI x.1 (-x.2.1)) 0 = 0 by unfold mxI; split <;> split <;> omega]
        rcases Rat.le_total (a := 0) (b := v) with h3 | h3
        · left; exact h3
        · right; show (0 : Rat) ≤ -v; grind
  have f1 : v ≤ ((farI x : Int) : Rat) := Rat.le_trans hv.2 (Rat.intCast_le_intCast.2 (by unfold farI; exact le_mxI.1))
  have f2 : -v ≤ ((farI x : Int) : Rat) := by
    have : ((-x.1 : Int) : Rat) ≤ ((farI x : Int) : Rat) := Rat.intCast_le_intCast.2 (by unfold farI; exact le_mxI.2)
    rw [Rat.intCast_neg] at this
    grind
  have n0 : (0 : Rat) ≤ ((nearI x : Int) : Rat) := by exact_mod_cast b.1
  have h1 : ((nearI x : Int) : Rat) * ((nearI x : Int) : Rat) ≤ v * v := by
    rcases n1 with h | h
    · have := Rat.mul_nonneg (show 0 ≤ v - ((nearI x : Int) : Rat) by grind) (show 0 ≤ v + ((nearI x : Int) : Rat) by grind)
      grind
    · have := Rat.mul_nonneg (show 0 ≤ -v - ((nearI x : Int) : Rat) by grind) (show 0 ≤ -v + ((nearI x : Int) : Rat) by grind)
      grind
  have h2 : v * v ≤ ((farI x : Int) : Rat) * ((farI x : Int) : Rat) := by
    have := Rat.mul_nonneg (show 0 ≤ ((farI x : Int) : Rat) - v by grind) (show 0 ≤ ((farI x : Int) : Rat) + v by grind)
    grind
  have g1' : ((1073741824 * flI (nearI x * nearI x) 1073741824 : Int) : Rat) ≤ ((nearI x * nearI x : Int) : Rat) := Rat.intCast_le_intCast.2 g1
  have g2' : ((farI x * farI x : Int) : Rat) ≤ ((1073741824 * ceI (farI x * farI x) 1073741824 : Int) : Rat) := Rat.intCast_le_intCast.2 g2
  rw [Rat.intCast_mul, Rat.intCast_mul, show ((1073741824 : Int) : Rat) = 1073741824 from rfl] at g1' g2'
  show ((flI (nearI x * nearI x) 1073741824 : Int) : Rat) ≤ _ ∧ _ ≤ ((ceI (farI x * farI x) 1073741824 : Int) : Rat)
  grind
end Go.Proofs.YtbmekaaekngpbaaGreat
