/- Texts of the seat, joined. -/
import Derived.Test.YtbmekaaekngpbaaGreatZz49
/- Package stumpff: what a sum is widened by, the series of intervals, all four. -/
namespace Go.Proofs.YtbmekaaekngpbaaGreat
open Go Go.RowKit
set_option linter.unusedSimpArgs false
set_option linter.unusedVariables false
set_option maxRecDepth 100000

theorem num_raw (al : IV) : runB Tryz.prog 34 #[] [] [] [(56, rt (ivv al))] [] = some (rt (ivv al), [], [PureX Tryz.prog 56 #[ii (-17179869184), ii 17179869184] (rt (ivv al))]) := by kernel_rfl
theorem num_c : PureX Tryz.prog 34 #[] (rt (ivv nuV)) := (runB_pure mix (num_raw _) ⟨make_v _ _, trivial⟩ rfl rfl).is (by kernel_rfl)
theorem bad8_raw : runB Tryz.prog 37 #[] [] [] [] [] = some (rt (ivv bdV), [], []) := by kernel_rfl
theorem bad8_c : PureX Tryz.prog 37 #[] (rt (ivv bdV)) := runB_pure mix bad8_raw trivial rfl rfl
theorem is_hi (k : Int) : runB Tryz.prog 32 #[ii k] [] (t :: List.replicate 30 n) [] [] = some (rt (bb (decide (k < 4))), [], [decide (0 ≤ k) = true]) := by kernel_rfl
theorem is_lo (k : Int) : runB Tryz.prog 32 #[ii k] [] [f, n, n, n] [] [] = some (rt (bb false), [], [decide (0 ≤ k) = false]) := by kernel_rfl
theorem is_v (k : Int) : PureX Tryz.prog 32 #[ii k] (rt (bb (decide (0 ≤ k ∧ k < 4)))) := by
  by_cases h : 0 ≤ k
  · have e : decide (0 ≤ k ∧ k < 4) = decide (k < 4) := by rw [decide_eq_decide]; omega
    rw [e]
    exact runB_pure mix (is_hi k) ⟨decide_eq_true h, trivial⟩ rfl rfl
  · have e : decide (0 ≤ k ∧ k < 4) = false := decide_eq_false (by omega)
    rw [e]
    exact runB_pure mix (is_lo k) ⟨decide_eq_false h, trivial⟩ rfl rfl
theorem wid_raw (x q w : IV) (r : Int) : runB Tryz.prog 41 #[ivv x, ii r] [] [] [(56, rt (ivv q)), (65, rt (ivv w))] [] = some (rt (ivv w), [], [PureX Tryz.prog 56 #[ii (IntKind.i64.wrap (0 - r)), ii r] (rt (ivv q)), PureX Tryz.prog 65 #[ivv x, ivv q] (rt (ivv w))]) := by kernel_rfl
theorem wid_v (x : IV) {r : Int} (h : -4611686018427387904 ≤ r ∧ r ≤ 4611686018427387904) : PureX Tryz.prog 41 #[ivv x, ii r] (rt (ivv (widV x r))) := by
  have m := make_v (-r) r
  have a := add_v x (mkV (mnI (-r) r) (mxI (-r) r))
  have e : IntKind.i64.wrap (0 - r) = -r := by rw [wrapI (by omega)]; omega
  have f := wid_raw x (mkV (mnI (-r) r) (mxI (-r) r)) (widV x r) r
  rw [e] at f
  exact runB_pure mix f ⟨m, a, trivial⟩ rfl rfl
theorem dS_isI {k j : Nat} (hk : k ≤ 3) (hj : j ≤ 14) : isI (dS k j) := by
  have h : (k + 2 * j + 1) * (k + 2 * j + 2) ≤ 40 * 40 := Nat.mul_le_mul (by omega) (by omega)
  have h0 := dS_pos k j
  have h2 : dS k j ≤ 1600 := Int.ofNat_le.2 h
  unfold isI
  omega
theorem t0S_v : ∀ k, k ≤ 3 → PureX Tryz.prog 60 #[ivv (1073741824, 1073741824, false), ii 1, ii (facI k)] (rt (ivv (t0S k))) := by
  intro k hk
  have : k = 0 ∨ k = 1 ∨ k = 2 ∨ k = 3 := by omega
  rcases this with rfl | rfl | rfl | rfl
  · exact (part_v (1073741824, 1073741824, false) (n := 1) (d := 1) (by decide) (by decide)).is (by kernel_rfl)
  · exact (part_v (1073741824, 1073741824, false) (n := 1) (d := 1) (by decide) (by decide)).is (by kernel_rfl)
  · exact (part_v (1073741824, 1073741824, false) (n := 1) (d := 2) (by decide) (by decide)).is (by kernel_rfl)
  · exact (part_v (1073741824, 1073741824, false) (n := 1) (d := 6) (by decide) (by decide)).is (by kernel_rfl)
abbrev mS (k : Nat) (p : Int) (j : Nat) : IV := mulV (tS k p j) (mkV p p)
theorem owS_ok {k : Nat} (hk : k ≤ 3) (p : Int) : ∀ n, n ≤ 15 → AllP (owS p k (mkV p p) (tS k p) (mS k p) n)
  | 0, _ => trivial
  | j + 1, hj => (allP_append _ _).2 ⟨owS_ok hk p j (by omega), point_v p, imul_v _ _, part_v _ (by decide) (dS_isI hk (by omega)), trivial⟩
theorem owN_ok {k : Nat} (hk : k ≤ 3) (p : Int) {n : Int} (hn : ¬ (0 ≤ n ∧ n ≤ 14)) : ∀ j, j ≤ 15 → AllP (owN n p k (mkV p p) (tS k p) (mS k p) j)
  | 0, _ => trivial
  | j + 1, hj => (allP_append _ _).2 ⟨owN_ok hk p hn j (by omega), by rw [beq_eq_false_iff_ne]; intro h; apply hn; rw [← h]; exact ⟨Int.natCast_nonneg j, Int.ofNat_le.2 (show j ≤ 14 by omega)⟩, point_v p, imul_v _ _, part_v _ (by decide) (dS_isI hk (by omega)), trivial⟩
theorem owH_ok {k : Nat} (hk : k ≤ 3) {p : Int} (h : holdsV nuV (mkV p p) = true) : AllP (owH k p nuV (mkV p p) (1073741824, 1073741824, false) (tS k p)) := by
  have hh := holds_v nuV (mkV p p)
  rw [h] at hh
  have hi := is_v (Int.ofNat k)
  rw [decide_eq_true (show 0 ≤ Int.ofNat k ∧ Int.ofNat k < 4 from ⟨Int.natCast_nonneg k, Int.ofNat_lt.2 (show k < 4 by omega)⟩)] at hi
  exact ⟨hi, num_c, point_v p, hh, of1_v, t0S_v k hk, trivial⟩
theorem pt_nu {p : Int} : holdsV nuV (mkV p p) = true ↔ -17179869184 ≤ p ∧ p ≤ 17179869184 := by
  rw [nuV_iff]
  constructor
  · rintro ⟨h, h1⟩
    have m := mkV_bad (ok_not h)
    rw [m.2.2.2] at h1
    exact h1
  · intro h
    have e := pt_Inn h.1 h.2
    have o := e.2
    rw [e.1] at o ⊢
    exact ⟨o.1, h⟩
/-! Enclosures. -/
def ansC (pt : IV) (t m s : Nat → IV) : Nat → List (Nat × Res)
  | 0 => []
  | j + 1 => ansC pt t m s j ++ [(65, rt (ivv (s (j + 1)))), (35, rt (ivv pt)), (61, rt (ivv (m j))), (60, rt (ivv (t (j + 1))))]
def owC (p : Int) (k : Nat) (pt : IV) (t m s : Nat → IV) : Nat → List Prop
  | 0 => []
  | j + 1 => owC p k pt t m s j ++ [PureX Tryz.prog 65 #[ivv (s j), ivv (t j)] (rt (ivv (s (j + 1)))), PureX Tryz.prog 35 #[ii p] (rt (ivv pt)), PureX Tryz.prog 61 #[ivv (t j), ivv pt] (rt (ivv (m j))), PureX Tryz.prog 60 #[ivv (m j), ii (-1), ii (dS k j)] (rt (ivv (t (j + 1))))]
theorem owC_ok {k : Nat} (hk : k ≤ 3) (p : Int) : ∀ n, n ≤ 15 → AllP (owC p k (mkV p p) (tS k p) (mS k p) (sS k p) n)
  | 0, _ => trivial
  | j + 1, hj => (allP_append _ _).2 ⟨owC_ok hk p j (by omega), add_v _ _, point_v p, imul_v _ _, part_v _ (by decide) (dS_isI hk (by omega)), trivial⟩
section
variable (k p r : Int) (o : Bool) (x nu pt one e w b : IV) (t m s : Nat → IV)
theorem c_no1 : runB Tryz.prog 13 #[ii k, ivv x] [] [] [(40, rt (tp [ii p, ii r, bb o])), (32, rt (bb false)), (37, rt (ivv b))] [] = some (rt (ivv b), [], [PureX Tryz.prog 40 #[ivv x] (rt (tp [ii p, ii r, bb o])), PureX Tryz.prog 32 #[ii k] (rt (bb false)), PureX Tryz.prog 37 #[] (rt (ivv b))]) := by kernel_rfl
theorem c_no2 : runB Tryz.prog 13 #[ii k, ivv x] [] [] [(40, rt (tp [ii p, ii r, bb o])), (32, rt (bb true)), (34, rt (ivv nu)), (33, rt (bb false)), (37, rt (ivv b))] [] = some (rt (ivv b), [], [PureX Tryz.prog 40 #[ivv x] (rt (tp [ii p, ii r, bb o])), PureX Tryz.prog 32 #[ii k] (rt (bb true)), PureX Tryz.prog 34 #[] (rt (ivv nu)), PureX Tryz.prog 33 #[ivv nu, ivv x] (rt (bb false)), PureX Tryz.prog 37 #[] (rt (ivv b))]) := by kernel_rfl
def ansCC : List (Nat × Res) := [(40, rt (tp [ii p, ii r, bb o])), (32, rt (bb true)), (34, rt (ivv nu)), (33, rt (bb true)), (63, rt (ivv one)), (60, rt (ivv (t 0))), (35, rt (ivv (s 0)))] ++ ansC pt t m s 14 ++ [(35, rt (ivv pt)), (61, rt (ivv (m 14))), (60, rt (ivv (t 15))), (41, rt (ivv e)), (41, rt (ivv w))]
def owCC (k : Nat) : List Prop := [PureX Tryz.prog 40 #[ivv x] (rt (tp [ii p, ii r, bb o])), PureX Tryz.prog 32 #[ii (Int.ofNat k)] (rt (bb true)), PureX Tryz.prog 34 #[] (rt (ivv nu)), PureX Tryz.prog 33 #[ivv nu, ivv x] (rt (bb true)), PureX Tryz.prog 63 #[ii 1] (rt (ivv one)), PureX Tryz.prog 60 #[ivv one, ii 1, ii (facI k)] (rt (ivv (t 0))), PureX Tryz.prog 35 #[ii 0] (rt (ivv (s 0)))] ++ owC p k pt t m s 14 ++ [PureX Tryz.prog 35 #[ii p] (rt (ivv pt)), PureX Tryz.prog 61 #[ivv (t 14), ivv pt] (rt (ivv (m 14))), PureX Tryz.prog 60 #[ivv (m 14), ii (-1), ii (dS k 14)] (rt (ivv (t 15))), PureX Tryz.prog 41 #[ivv (s 14), ii (IntKind.i64.wrap (2 * mxI (t 14).2.1 (IntKind.i64.wrap (0 - (t 14).1))))] (rt (ivv e)), PureX Tryz.prog 41 #[ivv e, ii (IntKind.i64.wrap (4 * r))] (rt (ivv w))]
theorem c_raw_0 : runB Tryz.prog 13 #[ii 0, ivv x] [] [] (ansCC p r o nu pt one e w t m s) [] = some (rt (ivv w), [], owCC p r o x nu pt one e w t m s 0) := by kernel_rfl
theorem c_raw_1 : runB Tryz.prog 13 #[ii 1, ivv x] [] [] (ansCC p r o nu pt one e w t m s) [] = some (rt (ivv w), [], owCC p r o x nu pt one e w t m s 1) := by kernel_rfl
theorem c_raw_2 : runB Tryz.prog 13 #[ii 2, ivv x] [] [] (ansCC p r o nu pt one e w t m s) [] = some (rt (ivv w), [], owCC p r o x nu pt one e w t m s 2) := by kernel_rfl
theorem c_raw_3 : runB Tryz.prog 13 #[ii 3, ivv x] [] [] (ansCC p r o nu pt one e w t m s) [] = some (rt (ivv w), [], owCC p r o x nu pt one e w t m s 3) := by kernel_rfl
theorem c_raw (k : Nat) (hk : k ≤ 3) : runB Tryz.prog 13 #[ii (Int.ofNat k), ivv x] [] [] (ansCC p r o nu pt one e w t m s) [] = some (rt (ivv w), [], owCC p r o x nu pt one e w t m s k) := by
  have : k = 0 ∨ k = 1 ∨ k = 2 ∨ k = 3 := by omega
  rcases this with rfl | rfl | rfl | rfl
  · exact c_raw_0 p r o x nu pt one e w t m s
  · exact c_raw_1 p r o x nu pt one e w t m s
  · exact c_raw_2 p r o x nu pt one e w t m s
  · exact c_raw_3 p r o x nu pt one e w t m s
end
/-- The series of k, at an interval. -/
def cI (k : Int) (a : IV) : IV := if 0 ≤ k ∧ k < 4 then cS k.toNat a else bdV
theorem cS_no {k : Nat} {a : IV} (h : ¬ holdsV nuV a = true) : cS k a = bdV := if_neg h
theorem midT_any (x : IV) : ∃ m r : Int, ∃ o : Bool, midT x = tp [ii m, ii r, bb o] := by
  unfold midT
  split
  · exact ⟨_, _, _, rfl⟩
  · exact ⟨_, _, _, rfl⟩
theorem c_v (k : Int) (a : IV) : PureX Tryz.prog 13 #[ii k, ivv a] (rt (ivv (cI k a))) := by
  have hi := is_v k
  have hm := mid_v a
  have hh := holds_v nuV a
  unfold cI
  by_cases h : 0 ≤ k ∧ k < 4
  · rw [if_pos h]
    rw [decide_eq_true h] at hi
    by_cases ha : holdsV nuV a = true
    · obtain ⟨j, rfl⟩ := Int.eq_ofNat_of_zero_le h.1
      have hk : j ≤ 3 := by omega
      rw [Int.toNat_natCast]
      have a' := nuV_iff.1 ha
      rw [ha] at hh
      unfold midT at hm
      rw [if_pos a'.1] at hm
      have ao := okV_iff.1 a'.1
      obtain ⟨m1, m2, m3, m4, m5, m6⟩ := midV_in a'.1
      obtain ⟨r0, r1, _⟩ := rS_ok hk (p := midV a) (by omega) (by omega)
      have ti := (tS_ok hk (p := midV a) (by omega) (by omega) 14 (by decide)).1
      have to := okV_iff.1 ti.1
      have he : PureX Tryz.prog 41 #[ivv (sS j (midV a) 14), ii (IntKind.i64.wrap (2 * mxI (tS j (midV a) 14).2.1 (IntKind.i64.wrap (0 - (tS j (midV a) 14).1))))] (rt (ivv (eS j (midV a)))) := by
        rw [wrapI (z := 0 - (tS j (midV a) 14).1) (by omega), Int.zero_sub]
        show PureX Tryz.prog 41 #[ivv (sS j (midV a) 14), ii (IntKind.i64.wrap (rS j (midV a)))] _
        rw [wrapI (by omega)]
        exact wid_v _ (by omega)
      have hw : PureX Tryz.prog 41 #[ivv (eS j (midV a)), ii (IntKind.i64.wrap (4 * rchV a))] (rt (ivv (cS j a))) := by
        rw [wrapI (by omega), show cS j a = widV (eS j (midV a)) (4 * rchV a) from if_pos ha]
        exact wid_v _ (by omega)
      have ho : AllP (owCC (midV a) (rchV a) true a nuV (mkV (midV a) (midV a)) (1073741824, 1073741824, false) (eS j (midV a)) (cS j a) (tS j (midV a)) (mS j (midV a)) (sS j (midV a)) j) := by
        refine (allP_append _ _).2 ⟨(allP_append _ _).2 ⟨⟨hm, hi, num_c, hh, of1_v, t0S_v j hk, (point_v 0).is (by kernel_rfl), trivial⟩, owC_ok hk _ 14 (by decide)⟩, point_v _, imul_v _ _, part_v _ (by decide) (dS_isI hk (by decide)), he, hw, trivial⟩
      exact runB_pure mix (c_raw _ _ _ _ _ _ _ _ _ _ _ _ j hk) ho rfl rfl
    · have h2 : holdsV nuV a = false := by simpa using ha
      rw [h2] at hh
      rw [cS_no ha]
      obtain ⟨m, r, o, e⟩ := midT_any a
      rw [e] at hm
      exact runB_pure mix (c_no2 k m r o a nuV bdV) ⟨hm, hi, num_c, hh, bad8_c, trivial⟩ rfl rfl
  · rw [if_neg h]
    rw [decide_eq_false h] at hi
    obtain ⟨m, r, o, e⟩ := midT_any a
    rw [e] at hm
    exact runB_pure mix (c_no1 k m r o a bdV) ⟨hm, hi, bad8_c, trivial⟩ rfl rfl
/-- Four intervals, as an array. -/
def a4 (x y z w : IV) : Value := .agg #[ii x.1, ii x.2.1, bb x.2.2, ii y.1, ii y.2.1, bb y.2.2, ii z.1, ii z.2.1, bb z.2.2, ii w.1, ii w.2.1, bb w.2.2]
theorem all_raw (x q w y z : IV) : runB Tryz.prog 15 #[ivv x] [] [] [(13, rt (ivv q)), (13, rt (ivv w)), (13, rt (ivv y)), (13, rt (ivv z))] [] = some (rt (a4 q w y z), [], [PureX Tryz.prog 13 #[ii 0, ivv x] (rt (ivv q)), PureX Tryz.prog 13 #[ii 1, ivv x] (rt (ivv w)), PureX Tryz.prog 13 #[ii 2, ivv x] (rt (ivv y)), PureX Tryz.prog 13 #[ii 3, ivv x] (rt (ivv z))]) := by kernel_rfl
theorem all_v (a : IV) : PureX Tryz.prog 15 #[ivv a] (rt (a4 (cS 0 a) (cS 1 a) (cS 2 a) (cS 3 a))) :=
  runB_pure mix (all_raw a _ _ _ _) ⟨c_v 0 a, c_v 1 a, c_v 2 a, c_v 3 a, trivial⟩ rfl rfl
end Go.Proofs.YtbmekaaekngpbaaGreat
