/- Texts of the seat, joined. -/
import Derived.Test.YtmikjgflenbljaaZz12
/- Package vec, walked: what comes of each call, by letters. -/
namespace Go.Proofs.Ytmikjgflenbljaa
open Go Go.RowKit
set_option linter.unusedSimpArgs false
set_option linter.unusedVariables false
set_option maxRecDepth 100000

theorem bnd_raw (x m : Int) : runB Try.prog 38 #[ii x, ii m] [] [] [] [] =
    some (rt (.int .i64 (mxI (wi (0 - m)) (mnI x m))), [], []) := by kernel_rfl
theorem wth_t (a : P3) (m p q r : Int) : runB Try.prog 27 #[vv a, ii m] [] [t, n, n, n, n, n, n, n, n, n, n, n] [(38, rt (ii p)), (38, rt (ii q)), (38, rt (ii r))] [] =
    some (rt (bb ((a.1 == p) && ((a.2.1 == q) && ((a.2.2 == r) && (true))))), [], [(decide (0 ≤ m)) = true, PureX Try.prog 38 #[ii (a.1), ii (m)] (rt (ii (p))), PureX Try.prog 38 #[ii (a.2.1), ii (m)] (rt (ii (q))), PureX Try.prog 38 #[ii (a.2.2), ii (m)] (rt (ii (r)))]) := by kernel_rfl
theorem wth_f (a : P3) (m : Int) : runB Try.prog 27 #[vv a, ii m] [] [f, n, n, n, n] [] [] =
    some (rt (bb (false)), [], [(decide (0 ≤ m)) = false]) := by kernel_rfl
theorem neg_raw (a : P3) : runB Try.prog 25 #[vv a] [] [n, n, n, n, n, n, n] [] [] =
    some (rt (vc (wi (0 - a.1)) (wi (0 - a.2.1)) (wi (0 - a.2.2))), [], []) := by kernel_rfl
theorem fine0_raw  : runB Try.prog 46 #[sl0] [] [n] [] [] =
    some (rt (bb (true)), [], []) := by kernel_rfl
theorem fine1_raw (a : P3) (p : Bool) : runB Try.prog 46 #[sl 0 1] [(0, ovc [a])] [n, f, n] [(27, rt (bb p))] [] =
    some (rt (bb (true)), [(0, ovc [a])], [PureX Try.prog 27 #[vv a, ii (536870912)] (rt (bb (p))), (!(p)) = false]) := by kernel_rfl
theorem fine1_rawf (a : P3) (p : Bool) : runB Try.prog 46 #[sl 0 1] [(0, ovc [a])] [n, t] [(27, rt (bb p))] [] =
    some (rt (bb (false)), [(0, ovc [a])], [PureX Try.prog 27 #[vv a, ii (536870912)] (rt (bb (p))), (!(p)) = true]) := by kernel_rfl
theorem fine2_raw (a b : P3) (p q : Bool) : runB Try.prog 46 #[sl 0 2] [(0, ovc [a, b])] [n, f, n, f, n] [(27, rt (bb p)), (27, rt (bb q))] [] =
    some (rt (bb (true)), [(0, ovc [a, b])], [PureX Try.prog 27 #[vv a, ii (536870912)] (rt (bb (p))), (!(p)) = false, PureX Try.prog 27 #[vv b, ii (536870912)] (rt (bb (q))), (!(q)) = false]) := by kernel_rfl
theorem fine2_rawt (a b : P3) (p q : Bool) : runB Try.prog 46 #[sl 0 2] [(0, ovc [a, b])] [n, f, n, t] [(27, rt (bb p)), (27, rt (bb q))] [] =
    some (rt (bb (false)), [(0, ovc [a, b])], [PureX Try.prog 27 #[vv a, ii (536870912)] (rt (bb (p))), (!(p)) = false, PureX Try.prog 27 #[vv b, ii (536870912)] (rt (bb (q))), (!(q)) = true]) := by kernel_rfl
theorem fine2_rawf (a b : P3) (p q : Bool) : runB Try.prog 46 #[sl 0 2] [(0, ovc [a, b])] [n, t] [(27, rt (bb p)), (27, rt (bb q))] [] =
    some (rt (bb (false)), [(0, ovc [a, b])], [PureX Try.prog 27 #[vv a, ii (536870912)] (rt (bb (p))), (!(p)) = true]) := by kernel_rfl
theorem sub_ok (a b : P3) (p q r : Bool) : runB Try.prog 41 #[vv a, vv b] [] [n, n, n, n, n, n, n, n, f, n, f, n, n, n, n, n, f, n, n, n] [(27, rt (bb p)), (27, rt (bb q)), (27, rt (bb r))] [(2000000, rt (bb true), [])] =
    some (rt (tp [vc (wi (a.1 - b.1)) (wi (a.2.1 - b.2.1)) (wi (a.2.2 - b.2.2)), ii (0)]), [], [same1 (ovc [b]), PureX Try.prog 27 #[vv a, ii (536870912)] (rt (bb (p))), (!(p)) = false, PureX Try.prog 27 #[vv b, ii (536870912)] (rt (bb (q))), (!(q)) = false, PureX Try.prog 27 #[vc (wi (a.1 - b.1)) (wi (a.2.1 - b.2.1)) (wi (a.2.2 - b.2.2)), ii (536870912)] (rt (bb (r))), (!(r)) = false]) := by kernel_rfl
theorem sub_n3 (a b : P3) (p q r : Bool) : runB Try.prog 41 #[vv a, vv b] [] [n, n, n, n, n, n, n, n, f, n, f, n, n, n, n, n, t, n, n] [(27, rt (bb p)), (27, rt (bb q)), (27, rt (bb r))] [(2000000, rt (bb true), [])] =
    some (rt (tp [vc (0) (0) (0), ii (20)]), [], [same1 (ovc [b]), PureX Try.prog 27 #[vv a, ii (536870912)] (rt (bb (p))), (!(p)) = false, PureX Try.prog 27 #[vv b, ii (536870912)] (rt (bb (q))), (!(q)) = false, PureX Try.prog 27 #[vc (wi (a.1 - b.1)) (wi (a.2.1 - b.2.1)) (wi (a.2.2 - b.2.2)), ii (536870912)] (rt (bb (r))), (!(r)) = true]) := by kernel_rfl
theorem sub_n2 (a b : P3) (p q r : Bool) : runB Try.prog 41 #[vv a, vv b] [] [n, n, n, n, n, n, n, n, f, n, t, n, n, n, n, n] [(27, rt (bb p)), (27, rt (bb q)), (27, rt (bb r))] [(2000000, rt (bb true), [])] =
    some (rt (tp [vc (0) (0) (0), ii (20)]), [], [same1 (ovc [b]), PureX Try.prog 27 #[vv a, ii (536870912)] (rt (bb (p))), (!(p)) = false, PureX Try.prog 27 #[vv b, ii (536870912)] (rt (bb (q))), (!(q)) = true]) := by kernel_rfl
theorem sub_n1 (a b : P3) (p q r : Bool) : runB Try.prog 41 #[vv a, vv b] [] [n, n, n, n, n, n, n, n, t, n, n, n, n, n] [(27, rt (bb p)), (27, rt (bb q)), (27, rt (bb r))] [(2000000, rt (bb true), [])] =
    some (rt (tp [vc (0) (0) (0), ii (20)]), [], [same1 (ovc [b]), PureX Try.prog 27 #[vv a, ii (536870912)] (rt (bb (p))), (!(p)) = true]) := by kernel_rfl
theorem dot_ok (a b : P3) (p q : Bool) : runB Try.prog 42 #[vv a, vv b] [] [n, f, n, f, n, n, n, n, n, n, n, n, n] [(27, rt (bb p)), (27, rt (bb q))] [] =
    some (rt (tp [.int .i64 (wi (wi (wi (0 + wi (a.1 * b.1)) + wi (a.2.1 * b.2.1)) + wi (a.2.2 * b.2.2))), ii (0)]), [], [PureX Try.prog 27 #[vv a, ii (536870912)] (rt (bb (p))), (!(p)) = false, PureX Try.prog 27 #[vv b, ii (536870912)] (rt (bb (q))), (!(q)) = false]) := by kernel_rfl
theorem dot_n2 (a b : P3) (p q : Bool) : runB Try.prog 42 #[vv a, vv b] [] [n, f, n, t, n] [(27, rt (bb p)), (27, rt (bb q))] [] =
    some (rt (tp [ii (0), ii (20)]), [], [PureX Try.prog 27 #[vv a, ii (536870912)] (rt (bb (p))), (!(p)) = false, PureX Try.prog 27 #[vv b, ii (536870912)] (rt (bb (q))), (!(q)) = true]) := by kernel_rfl
theorem dot_n1 (a b : P3) (p q : Bool) : runB Try.prog 42 #[vv a, vv b] [] [n, t, n] [(27, rt (bb p)), (27, rt (bb q))] [] =
    some (rt (tp [ii (0), ii (20)]), [], [PureX Try.prog 27 #[vv a, ii (536870912)] (rt (bb (p))), (!(p)) = true]) := by kernel_rfl
theorem far_ok (a b c : P3) (k e : Int) : runB Try.prog 36 #[vv a, vv b] [] [n] [(41, rt (tp [vv c, ii 0])), (42, rt (tp [ii k, ii e]))] [] =
    some (rt (tp [ii (k), ii (e)]), [], [PureX Try.prog 41 #[vv a, vv b] (rt (tp [vv c, ii (0)])), PureX Try.prog 42 #[vv c, vv c] (rt (tp [ii (k), ii (e)]))]) := by kernel_rfl
theorem far_no (a b c : P3) (e : Int) : runB Try.prog 36 #[vv a, vv b] [] [n] [(41, rt (tp [vv c, ii 20]))] [] =
    some (rt (tp [ii (0), ii (20)]), [], [PureX Try.prog 41 #[vv a, vv b] (rt (tp [vv c, ii (20)]))]) := by kernel_rfl
end Go.Proofs.Ytmikjgflenbljaa

/- Package vec: what comes of each call. -/
namespace Go.Proofs.Ytmikjgflenbljaa
open Go Go.RowKit
set_option linter.unusedSimpArgs false
set_option linter.unusedVariables false
set_option maxRecDepth 100000

/-- Is each part within m? -/
def wth (a : P3) (m : Int) : Bool := decide ((-m ≤ a.1 ∧ a.1 ≤ m) ∧ (-m ≤ a.2.1 ∧ a.2.1 ≤ m) ∧ (-m ≤ a.2.2 ∧ a.2.2 ≤ m))
theorem wth_iff {a : P3} {m : Int} : wth a m = true ↔ (-m ≤ a.1 ∧ a.1 ≤ m) ∧ (-m ≤ a.2.1 ∧ a.2.1 ≤ m) ∧ (-m ≤ a.2.2 ∧ a.2.2 ≤ m) := by unfold wth; exact decide_eq_true_iff
def fin (a : P3) : Bool := wth a 536870912
theorem fin_iff {a : P3} : fin a = true ↔ (-536870912 ≤ a.1 ∧ a.1 ≤ 536870912) ∧ (-536870912 ≤ a.2.1 ∧ a.2.1 ≤ 536870912) ∧ (-536870912 ≤ a.2.2 ∧ a.2.2 ≤ 536870912) := wth_iff
def bndI (x m : Int) : Int := mxI (wi (0 - m)) (mnI x m)
theorem bnd_v (x m : Int) : PureX Try.prog 38 #[ii x, ii m] (rt (ii (bndI x m))) := runB_pure mix (bnd_raw x m) trivial rfl rfl
theorem bnd_is {x m : Int} (h0 : 0 ≤ m) (h1 : isI m) : x = bndI x m ↔ -m ≤ x ∧ x ≤ m := by
  unfold bndI mxI mnI wi
  unfold isI at h1
  rw [wrapI (by omega)]
  repeat' split
  all_goals omega
theorem bnd_in {x m : Int} (h1 : isI m) (h : -m ≤ x ∧ x ≤ m) : bndI x m = x := ((bnd_is (by omega) h1).2 h).symm
theorem isI_of {z : Int} (h : -9223372036854775808 ≤ z ∧ z ≤ 9223372036854775807) : isI z := h
theorem within_v (a : P3) {m : Int} (hm : isI m) : PureX Try.prog 27 #[vv a, ii m] (rt (bb (wth a m))) := by
  by_cases h0 : 0 ≤ m
  · have r := runB_pure mix (wth_t a m _ _ _) ⟨decide_eq_true h0, bnd_v _ _, bnd_v _ _, bnd_v _ _, trivial⟩ rfl rfl
    have e : ((a.1 == bndI a.1 m) && ((a.2.1 == bndI a.2.1 m) && ((a.2.2 == bndI a.2.2 m) && (true)))) = wth a m := by
      rw [Bool.eq_iff_iff, wth_iff]
      simp only [Bool.and_eq_true, beq_iff_eq, and_true, bnd_is h0 hm]
    rw [e] at r
    exact r
  · have r := runB_pure mix (wth_f a m) ⟨decide_eq_false h0, trivial⟩ rfl rfl
    have e : wth a m = false := by
      cases hx : wth a m
      · rfl
      · have := wth_iff.1 hx; omega
    rw [e]
    exact r
theorem fin_v (a : P3) : PureX Try.prog 27 #[vv a, ii 536870912] (rt (bb (fin a))) := within_v a ⟨by decide, by decide⟩
def plP (a b : P3) : P3 := (wi (a.1 + b.1), wi (a.2.1 + b.2.1), wi (a.2.2 + b.2.2))
def miP (a b : P3) : P3 := (wi (a.1 - b.1), wi (a.2.1 - b.2.1), wi (a.2.2 - b.2.2))
def ngP (a : P3) : P3 := (wi (0 - a.1), wi (0 - a.2.1), wi (0 - a.2.2))
def tmP (a : P3) (m : Int) : P3 := (wi (a.1 * m), wi (a.2.1 * m), wi (a.2.2 * m))
def crP (a b : P3) : P3 := (wi (wi (a.2.1 * b.2.2) - wi (a.2.2 * b.2.1)), wi (wi (a.2.2 * b.1) - wi (a.1 * b.2.2)), wi (wi (a.1 * b.2.1) - wi (a.2.1 * b.1)))
def dtI (a b : P3) : Int := wi (wi (wi (0 + wi (a.1 * b.1)) + wi (a.2.1 * b.2.1)) + wi (a.2.2 * b.2.2))
/-- A point, if it may be, with the error's number. -/
def okP (c : Bool) (r : P3) : P3 × Int := if c = true then (r, 0) else ((0, 0, 0), 20)
def okN (c : Bool) (r : Int) : Int × Int := if c = true then (r, 0) else (0, 20)
def tpP (x : P3 × Int) : Value := tp [vv x.1, ii x.2]
def tpN (x : Int × Int) : Value := tp [ii x.1, ii x.2]
def addP (a b : P3) : P3 × Int := okP (fin a && fin b && fin (plP a b)) (plP a b)
def subP (a b : P3) : P3 × Int := okP (fin a && fin b && fin (miP a b)) (miP a b)
def timP (a : P3) (k : Int) : P3 × Int := okP (fin a && fin (tmP a (bndI k 536870913))) (tmP a (bndI k 536870913))
def crsP (a b : P3) : P3 × Int := okP (fin a && fin b) (crP a b)
def dotN (a b : P3) : Int × Int := okN (fin a && fin b) (dtI a b)
def farN (a b : P3) : Int × Int := if (subP a b).2 = 0 then dotN (subP a b).1 (subP a b).1 else (0, 20)
theorem nt {b : Bool} (h : b = true) : (!b) = false := by rw [h]; rfl
theorem nf {b : Bool} (h : b = false) : (!b) = true := by rw [h]; rfl
theorem neg_v (a : P3) : PureX Try.prog 25 #[vv a] (rt (vv (ngP a))) := runB_pure mix (neg_raw a) trivial rfl rfl
theorem fine_v0 : PureX Try.prog 46 #[sl0] (rt (bb true)) := runB_pure mix fine0_raw trivial rfl rfl
theorem sub_v (a b : P3) : PureX Try.prog 41 #[vv a, vv b] (rt (tpP (subP a b))) := by
  have sm : same1 (ovc [b]) := ⟨rfl, trivial⟩
  unfold subP okP
  cases h1 : fin a
  · exact runB_pure mix (sub_n1 a b _ true true) ⟨sm, fin_v a, nf h1, trivial⟩ rfl rfl
  cases h2 : fin b
  · exact runB_pure mix (sub_n2 a b _ _ true) ⟨sm, fin_v a, nt h1, fin_v b, nf h2, trivial⟩ rfl rfl
  cases h3 : fin (miP a b)
  · exact runB_pure mix (sub_n3 a b _ _ _) ⟨sm, fin_v a, nt h1, fin_v b, nt h2, fin_v (miP a b), nf h3, trivial⟩ rfl rfl
  exact runB_pure mix (sub_ok a b _ _ _) ⟨sm, fin_v a, nt h1, fin_v b, nt h2, fin_v (miP a b), nt h3, trivial⟩ rfl rfl
theorem dot_v (a b : P3) : PureX Try.prog 42 #[vv a, vv b] (rt (tpN (dotN a b))) := by
  unfold dotN okN
  cases h1 : fin a
  · exact runB_pure mix (dot_n1 a b _ true) ⟨fin_v a, nf h1, trivial⟩ rfl rfl
  cases h2 : fin b
  · exact runB_pure mix (dot_n2 a b _ _) ⟨fin_v a, nt h1, fin_v b, nf h2, trivial⟩ rfl rfl
  exact runB_pure mix (dot_ok a b _ _) ⟨fin_v a, nt h1, fin_v b, nt h2, trivial⟩ rfl rfl
theorem okP_no {c : Bool} {r : P3} (h : (okP c r).2 ≠ 0) : okP c r = ((0, 0, 0), 20) := by
  unfold okP at h ⊢
  split at h
  · exact absurd rfl h
  · rename_i hc; rw [if_neg hc]
theorem far_v (a b : P3) : PureX Try.prog 36 #[vv a, vv b] (rt (tpN (farN a b))) := by
  have hs := sub_v a b
  unfold farN
  by_cases h : (subP a b).2 = 0
  · rw [if_pos h]
    have e : subP a b = ((subP a b).1, 0) := Prod.ext rfl h
    rw [e] at hs
    exact runB_pure mix (far_ok a b (subP a b).1 _ _) ⟨hs, dot_v _ _, trivial⟩ rfl rfl
  · rw [if_neg h]
    have e : subP a b = ((0, 0, 0), 20) := okP_no h
    rw [e] at hs
    exact runB_pure mix (far_no a b (0, 0, 0) 0) ⟨hs, trivial⟩ rfl rfl
theorem fine_v1 (B : Nat) (a : P3) : CallsV Try.prog (.func 46) #[sl B 1] [(B, ovc [a])] (rt (bb (fin a))) [(B, ovc [a])] := by
  refine CallsV.num2 (f := 46) (args := #[sl 0 1]) (H := [(0, ovc [a])]) (H' := [(0, ovc [a])]) ?_ (fun _ => B) (one_inj B) (fun _ h => h) rfl (by kernel_rfl) rfl (by kernel_rfl) (by kernel_rfl) (by kernel_rfl)
  cases h1 : fin a
  · exact runB_calls mix (fine1_rawf a _) ⟨fin_v a, nf h1, trivial⟩ rfl rfl rfl
  · exact runB_calls mix (fine1_raw a _) ⟨fin_v a, nt h1, trivial⟩ rfl rfl rfl
theorem fine_v2 (B : Nat) (a b : P3) : CallsV Try.prog (.func 46) #[sl B 2] [(B, ovc [a, b])] (rt (bb (fin a && fin b))) [(B, ovc [a, b])] := by
  refine CallsV.num2 (f := 46) (args := #[sl 0 2]) (H := [(0, ovc [a, b])]) (H' := [(0, ovc [a, b])]) ?_ (fun _ => B) (one_inj B) (fun _ h => h) rfl (by kernel_rfl) rfl (by kernel_rfl) (by kernel_rfl) (by kernel_rfl)
  cases h1 : fin a
  · exact runB_calls mix (fine2_rawf a b _ true) ⟨fin_v a, nf h1, trivial⟩ rfl rfl rfl
  · cases h2 : fin b
    · exact runB_calls mix (fine2_rawt a b _ _) ⟨fin_v a, nt h1, fin_v b, nf h2, trivial⟩ rfl rfl rfl
    · exact runB_calls mix (fine2_raw a b _ _) ⟨fin_v a, nt h1, fin_v b, nt h2, trivial⟩ rfl rfl rfl
end Go.Proofs.Ytmikjgflenbljaa
