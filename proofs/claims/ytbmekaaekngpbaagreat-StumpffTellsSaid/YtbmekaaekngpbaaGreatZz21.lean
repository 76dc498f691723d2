/- Texts of the seat, joined. -/
import Derived.Test.YtbmekaaekngpbaaGreatZz14
/- The document's floors and ceilings, given its division of numbers that are not below 0. -/
namespace Go.Proofs.YtbmekaaekngpbaaGreat
open Go Go.RowKit
set_option linter.unusedSimpArgs false
set_option linter.unusedVariables false
set_option maxRecDepth 100000

/-- What the document's `plain` is to do. -/
def PlainOK : Prop := ∀ a b : Int, 0 ≤ a → 0 < b → inR a → inR b → PureX Tryz.prog 128 #[wz a, wz b] (rt (tp [wz (a / b), wz (a % b)]))
abbrev lst : Int := -57896044618658097711785492504343953926634992332820282019728792003956564819968
section
variable (a b c : Nat) (p : Bool)
theorem dsub_raw : runB Tryz.prog 126 #[wv a, wv b] [] [] [(147, rt (tp [wv c, bb p]))] [] = some (rt (wv c), [], [PureX Tryz.prog 147 #[wv a, wv b] (rt (tp [wv c, bb p]))]) := by kernel_rfl
theorem dneg_raw : runB Tryz.prog 103 #[wv a] [] [] [(72, rt (tp [wv c, bb p]))] [] = some (rt (wv c), [], [PureX Tryz.prog 72 #[wv a] (rt (tp [wv c, bb p]))]) := by kernel_rfl
theorem dadd_raw : runB Tryz.prog 74 #[wv a, wv b] [] [] [(104, rt (tp [wv c, bb p]))] [] = some (rt (wv c), [], [PureX Tryz.prog 104 #[wv a, wv b] (rt (tp [wv c, bb p]))]) := by kernel_rfl
theorem done_raw : runB Tryz.prog 75 #[] [] [] [(50, rt (wv c))] [] = some (rt (wv c), [], [PureX Tryz.prog 50 #[ii 1] (rt (wv c))]) := by kernel_rfl
theorem dlst_raw : runB Tryz.prog 100 #[] [] [] [] [] = some (rt (wv 57896044618658097711785492504343953926634992332820282019728792003956564819968), [], []) := by kernel_rfl
variable (q r na nb nr m nq q2 b1 r2 o k : Nat) (s : Int)
theorem abv_p : runB Tryz.prog 102 #[wv a, wv b] [] [t] [(101, rt (ii s)), (128, rt (tp [wv q, wv r]))] [] =
    some (rt (tp [wv q, wv r]), [], [PureX Tryz.prog 101 #[wv a] (rt (ii s)), decide (0 ≤ s) = true, PureX Tryz.prog 128 #[wv a, wv b] (rt (tp [wv q, wv r]))]) := by kernel_rfl
theorem abv_n : runB Tryz.prog 102 #[wv a, wv b] [] [f] [(101, rt (ii s)), (103, rt (wv na)), (75, rt (wv o)), (126, rt (wv m)), (128, rt (tp [wv q, wv r])), (103, rt (wv nq)), (75, rt (wv o)), (126, rt (wv q2)), (75, rt (wv o)), (126, rt (wv b1)), (126, rt (wv r2))] [] =
    some (rt (tp [wv q2, wv r2]), [], [PureX Tryz.prog 101 #[wv a] (rt (ii s)), decide (0 ≤ s) = false, PureX Tryz.prog 103 #[wv a] (rt (wv na)), PureX Tryz.prog 75 #[] (rt (wv o)), PureX Tryz.prog 126 #[wv na, wv o] (rt (wv m)), PureX Tryz.prog 128 #[wv m, wv b] (rt (tp [wv q, wv r])),
      PureX Tryz.prog 103 #[wv q] (rt (wv nq)), PureX Tryz.prog 75 #[] (rt (wv o)), PureX Tryz.prog 126 #[wv nq, wv o] (rt (wv q2)), PureX Tryz.prog 75 #[] (rt (wv o)), PureX Tryz.prog 126 #[wv b, wv o] (rt (wv b1)), PureX Tryz.prog 126 #[wv b1, wv r] (rt (wv r2))]) := by kernel_rfl
theorem dfl_0 : runB Tryz.prog 73 #[wv a, wv b] [] [t] [] [] = some (rt (tp [wv 0, wv 0, ii 30]), [], [eqv b 0 = true]) := by kernel_rfl
theorem dfl_p : runB Tryz.prog 73 #[wv a, wv b] [] [f, f, n, n, f, t] [(100, rt (wv c)), (100, rt (wv c)), (101, rt (ii s)), (102, rt (tp [wv q, wv r]))] [] =
    some (rt (tp [wv q, wv r, ii 0]), [], [eqv b 0 = false, PureX Tryz.prog 100 #[] (rt (wv c)), eqv a c = false, PureX Tryz.prog 100 #[] (rt (wv c)), eqv b c = false, PureX Tryz.prog 101 #[wv b] (rt (ii s)), decide (0 < s) = true, PureX Tryz.prog 102 #[wv a, wv b] (rt (tp [wv q, wv r]))]) := by kernel_rfl
theorem dfl_n : runB Tryz.prog 73 #[wv a, wv b] [] [f, f, n, n, f, f] [(100, rt (wv c)), (100, rt (wv c)), (101, rt (ii s)), (103, rt (wv na)), (103, rt (wv nb)), (102, rt (tp [wv q, wv r])), (103, rt (wv nr))] [] =
    some (rt (tp [wv q, wv nr, ii 0]), [], [eqv b 0 = false, PureX Tryz.prog 100 #[] (rt (wv c)), eqv a c = false, PureX Tryz.prog 100 #[] (rt (wv c)), eqv b c = false, PureX Tryz.prog 101 #[wv b] (rt (ii s)), decide (0 < s) = false,
      PureX Tryz.prog 103 #[wv a] (rt (wv na)), PureX Tryz.prog 103 #[wv b] (rt (wv nb)), PureX Tryz.prog 102 #[wv na, wv nb] (rt (tp [wv q, wv r])), PureX Tryz.prog 103 #[wv r] (rt (wv nr))]) := by kernel_rfl
theorem dFl_raw : runB Tryz.prog 51 #[wv a, wv b] [] [] [(73, rt (tp [wv q, wv r, ii s]))] [] = some (rt (tp [wv q, ii s]), [], [PureX Tryz.prog 73 #[wv a, wv b] (rt (tp [wv q, wv r, ii s]))]) := by kernel_rfl
theorem dCe_1 : runB Tryz.prog 52 #[wv a, wv b] [] [n, n, n, f] [(73, rt (tp [wv q, wv r, ii 0])), (75, rt (wv o)), (74, rt (wv k))] [] =
    some (rt (tp [wv k, ii 0]), [], [PureX Tryz.prog 73 #[wv a, wv b] (rt (tp [wv q, wv r, ii 0])), eqv r 0 = false, PureX Tryz.prog 75 #[] (rt (wv o)), PureX Tryz.prog 74 #[wv q, wv o] (rt (wv k))]) := by kernel_rfl
theorem dCe_0 : runB Tryz.prog 52 #[wv a, wv b] [] [n, n, n, t] [(73, rt (tp [wv q, wv r, ii 0]))] [] =
    some (rt (tp [wv q, ii 0]), [], [PureX Tryz.prog 73 #[wv a, wv b] (rt (tp [wv q, wv r, ii 0])), eqv r 0 = true]) := by kernel_rfl
theorem dCe_z : runB Tryz.prog 52 #[wv a, wv b] [] [] [(73, rt (tp [wv q, wv r, ii 30]))] [] =
    some (rt (tp [wv q, ii 30]), [], [PureX Tryz.prog 73 #[wv a, wv b] (rt (tp [wv q, wv r, ii 30]))]) := by kernel_rfl
end
theorem dsub_z {x y : Int} (hx : inR x) (hy : inR y) : PureX Tryz.prog 126 #[wz x, wz y] (rt (wz (x - y))) := runB_pure mix (dsub_raw _ _ _ _) ⟨rsub_z hx hy, trivial⟩ rfl rfl
theorem dneg_z {x : Int} (hx : inR x) : PureX Tryz.prog 103 #[wz x] (rt (wz (-x))) := runB_pure mix (dneg_raw _ _ _) ⟨rneg_z hx, trivial⟩ rfl rfl
theorem dadd_z {x y : Int} (hx : inR x) (hy : inR y) : PureX Tryz.prog 74 #[wz x, wz y] (rt (wz (x + y))) := runB_pure mix (dadd_raw _ _ _ _) ⟨radd_z hx hy, trivial⟩ rfl rfl
theorem done_z : PureX Tryz.prog 75 #[] (rt (wz 1)) := runB_pure mix (done_raw _) ⟨rof_z (by decide) (by decide), trivial⟩ rfl rfl
theorem dlst_z : PureX Tryz.prog 100 #[] (rt (wz lst)) := (runB_pure mix dlst_raw trivial rfl rfl).is (by kernel_rfl)
theorem sign_nn {a : Int} (h : 0 ≤ a) : 0 ≤ a.sign := by
  rcases Int.lt_or_eq_of_le h with h | h
  · rw [Int.sign_eq_one_of_pos h]; decide
  · rw [← h]; decide
theorem above_z (hP : PlainOK) {a b : Int} (ha : inR a) (hl : a ≠ lst) (hb : inR b) (h0 : 0 < b) : PureX Tryz.prog 102 #[wz a, wz b] (rt (tp [wz (a / b), wz (a % b)])) := by
  unfold lst at hl
  rcases Int.lt_or_le a 0 with hn | hn
  · have m0 : 0 ≤ -a - 1 := by omega
    have mR : inR (-a - 1) := by unfold inR at ha ⊢; omega
    have naR : inR (-a) := by unfold inR at ha ⊢; omega
    have e0 := Int.emod_nonneg (-a - 1) (show b ≠ 0 by omega)
    have e1 := Int.emod_lt_of_pos (-a - 1) h0
    have e2 := Int.emod_add_mul_ediv (-a - 1) b
    have d0 := Int.ediv_nonneg m0 (show 0 ≤ b by omega)
    have d1 := Int.ediv_le_self b m0
    have u := (Int.ediv_emod_unique (a := a) (q := -((-a - 1) / b) - 1) (r := b - 1 - (-a - 1) % b) h0).2 ⟨by rw [Int.mul_sub, Int.mul_neg]; omega, by omega, by omega⟩
    have p := hP (-a - 1) b m0 h0 mR hb
    rw [u.1, u.2]
    generalize (-a - 1) / b = q at *
    generalize (-a - 1) % b = r at *
    have qR : inR q := by unfold inR at mR ⊢; omega
    have nqR : inR (-q) := by unfold inR at mR ⊢; omega
    have rR : inR r := by unfold inR at hb ⊢; omega
    have bR : inR (b - 1) := by unfold inR at hb ⊢; omega
    have s := rsign_z ha
    rw [Int.sign_eq_neg_one_of_neg hn] at s
    exact runB_pure mix (abv_n _ _ _ _ _ _ _ _ _ _ _ _) ⟨s, by decide, dneg_z ha, done_z, dsub_z naR (by decide), p, dneg_z qR, done_z, dsub_z nqR (by decide), done_z, dsub_z hb (by decide), dsub_z bR rR, trivial⟩ rfl rfl
  · exact runB_pure mix (abv_p _ _ _ _ _) ⟨rsign_z ha, decide_eq_true (sign_nn hn), hP a b hn h0 ha hb, trivial⟩ rfl rfl
theorem eqz {x y : Int} (hx : inR x) (hy : inR y) (h : x ≠ y) : eqv (nz x) (nz y) = false := (eqv_z hx hy).trans (decide_eq_false h)
theorem eqz0 {x : Int} (hx : inR x) (h : x ≠ 0) : eqv (nz x) 0 = false := eqz hx (y := 0) (by decide) h
theorem floor_z (hP : PlainOK) {a b : Int} (ha : inR a) (hb : inR b) (hl : a ≠ lst) (hm : b ≠ lst) (h0 : b ≠ 0) : PureX Tryz.prog 73 #[wz a, wz b] (rt (tp [wz (flI a b), wz (a - b * flI a b), ii 0])) := by
  have lR : inR lst := by decide
  unfold lst at hl hm
  have s := rsign_z hb
  rcases Int.lt_or_le 0 b with hp | hp
  · have h := flI_b (x := a) hp
    have u := (Int.ediv_emod_unique (a := a) (q := flI a b) (r := a - b * flI a b) hp).2 ⟨by omega, by omega, by omega⟩
    have A := above_z hP ha hl hb hp
    rw [u.1, u.2] at A
    rw [Int.sign_eq_one_of_pos hp] at s
    exact runB_pure mix (dfl_p _ _ _ _ _ _) ⟨eqz0 hb h0, dlst_z, eqz ha lR hl, dlst_z, eqz hb lR hm, s, by decide, A, trivial⟩ rfl rfl
  · have hn : b < 0 := by omega
    have h := flI_n (x := a) hn
    have naR : inR (-a) := by unfold inR at ha ⊢; omega
    have nbR : inR (-b) := by unfold inR at hb ⊢; omega
    have u := (Int.ediv_emod_unique (a := -a) (b := -b) (q := flI a b) (r := b * flI a b - a) (by omega)).2 ⟨by rw [Int.neg_mul]; omega, by omega, by omega⟩
    have A := above_z hP naR (by unfold inR at ha; unfold lst; omega) nbR (show 0 < -b by omega)
    rw [u.1, u.2] at A
    rw [Int.sign_eq_neg_one_of_neg hn] at s
    have rR : inR (b * flI a b - a) := by unfold inR at hb ⊢; omega
    have r := dneg_z rR
    rw [show -(b * flI a b - a) = a - b * flI a b by omega] at r
    exact runB_pure mix (dfl_n _ _ _ _ _ _ _ _ _) ⟨eqz0 hb h0, dlst_z, eqz ha lR hl, dlst_z, eqz hb lR hm, s, by decide, dneg_z ha, dneg_z hb, A, r, trivial⟩ rfl rfl
theorem floor_0 {a : Int} : PureX Tryz.prog 73 #[wz a, wz 0] (rt (tp [wz 0, wz 0, ii 30])) := runB_pure mix (dfl_0 _ _) ⟨eqv_z (x := 0) (y := 0) (by decide) (by decide), trivial⟩ rfl rfl
theorem ce_fl {a b : Int} (h0 : b ≠ 0) : ceI a b = if a - b * flI a b = 0 then flI a b else flI a b + 1 := by
  have c := fl_ce_any (x := a) h0
  rcases Int.lt_or_le 0 b with hp | hp
  · have h := flI_b (x := a) hp
    split
    · have := (ce_le (x := a) (z := flI a b) hp).2 (by omega)
      omega
    · have h1 := (ce_le (x := a) (z := flI a b + 1) hp).2 (by rw [Int.mul_add]; omega)
      have h2 : ¬ ceI a b ≤ flI a b := fun hh => by have := (ce_le hp).1 hh; omega
      omega
  · have hn : b < 0 := by omega
    have h := flI_n (x := a) hn
    split
    · have := (ce_len (x := a) (z := flI a b) hn).2 (by omega)
      omega
    · have h1 := (ce_len (x := a) (z := flI a b + 1) hn).2 (by rw [Int.mul_add]; omega)
      have h2 : ¬ ceI a b ≤ flI a b := fun hh => by have := (ce_len hn).1 hh; omega
      omega
theorem dFloor_z (hP : PlainOK) {a b : Int} (ha : inR a) (hb : inR b) (hl : a ≠ lst) (hm : b ≠ lst) (h0 : b ≠ 0) : PureX Tryz.prog 51 #[wz a, wz b] (rt (tp [wz (flI a b), ii 0])) :=
  runB_pure mix (dFl_raw _ _ _ _ _) ⟨floor_z hP ha hb hl hm h0, trivial⟩ rfl rfl
theorem dFloor_0 {a : Int} : PureX Tryz.prog 51 #[wz a, wz 0] (rt (tp [wz 0, ii 30])) := runB_pure mix (dFl_raw _ _ _ _ _) ⟨floor_0, trivial⟩ rfl rfl
theorem dCeil_0 {a : Int} : PureX Tryz.prog 52 #[wz a, wz 0] (rt (tp [wz 0, ii 30])) := runB_pure mix (dCe_z _ _ _ _) ⟨floor_0, trivial⟩ rfl rfl
theorem dCeil_z (hP : PlainOK) {a b : Int} (ha : inR a) (hb : inR b) (hl : a ≠ lst) (hm : b ≠ lst) (h0 : b ≠ 0) (hf : inR (flI a b)) : PureX Tryz.prog 52 #[wz a, wz b] (rt (tp [wz (ceI a b), ii 0])) := by
  have F := floor_z hP ha hb hl hm h0
  rw [ce_fl h0]
  have rR : inR (a - b * flI a b) := by
    rcases Int.lt_or_le 0 b with hp | hp
    · have h := flI_b (x := a) hp
      unfold inR at hb ⊢; omega
    · have h := flI_n (x := a) (show b < 0 by omega)
      unfold inR at hb ⊢; omega
  split
  · rename_i h
    rw [h] at F
    exact runB_pure mix (dCe_0 _ _ _ _) ⟨F, eqv_z (x := 0) (y := 0) (by decide) (by decide), trivial⟩ rfl rfl
  · rename_i h
    exact runB_pure mix (dCe_1 _ _ _ _ _ _) ⟨F, eqz0 rR h, done_z, dadd_z hf (by decide), trivial⟩ rfl rfl

end Go.Proofs.YtbmekaaekngpbaaGreat

/- The law of what intervals hold: its functions, given the document's division. -/
namespace Go.Proofs.YtbmekaaekngpbaaGreat
open Go Go.RowKit
set_option linter.unusedSimpArgs false
set_option linter.unusedVariables false
set_option maxRecDepth 100000

theorem drint_raw (a b : Nat) : runB Tryz.prog 67 #[wv a] [] [f] [(50, rt (wv b))] [] =
    some (rt (tp [ii (IntKind.i64.wrap (Int.ofNat (a % 18446744073709551616))), bb true]), [], [PureX Tryz.prog 50 #[ii (IntKind.i64.wrap (Int.ofNat (a % 18446744073709551616)))] (rt (wv b)), (!(eqv b a)) = false]) := by kernel_rfl
theorem wrap_nz {x : Int} (hx : inR x) : isI (IntKind.i64.wrap (Int.ofNat (nz x % 18446744073709551616))) ∧ (isI x → IntKind.i64.wrap (Int.ofNat (nz x % 18446744073709551616)) = x) := by
  obtain ⟨y, hy⟩ : ∃ y, IntKind.i64.wrap (Int.ofNat (nz x % 18446744073709551616)) = y := ⟨_, rfl⟩
  rw [hy]
  have hc := nz_cast x
  unfold Mw at hc
  rw [IntKind.wrap_i64, show Int.ofNat (nz x % 18446744073709551616) = (nz x : Int) % 18446744073709551616 by simp, hc] at hy
  unfold isI
  unfold inR at hx
  subst hy
  rw [Int.emod_emod_of_dvd _ (by decide)]
  omega
/-- The document's Int, of a number that is an int. -/
theorem rint_ok {x : Int} (h : isI x) : PureX Tryz.prog 67 #[wz x] (rt (tp [ii x, bb true])) := by
  obtain ⟨h1, h2⟩ := wrap_nz (isI_R h)
  have ho := rof_z h.1 h.2
  have he := eqv_z (isI_R h) (isI_R h)
  have r := runB_pure mix (drint_raw (nz x) (nz x)) ⟨by rw [h2 h]; exact ho, by rw [he, decide_eq_true rfl]; rfl, trivial⟩ rfl rfl
  rw [h2 h] at r
  exact r
theorem isI_nl {x : Int} (h : isI x) : x ≠ lst := by unfold isI at h; unfold lst; omega
theorem mul_nl {a b : Int} (ha : isI a) (hb : isI b) : a * b ≠ lst := by
  have h1 : (a * b).natAbs ≤ 9223372036854775808 * 9223372036854775808 := by
    rw [Int.natAbs_mul]
    unfold isI at ha hb
    exact Nat.mul_le_mul (by omega) (by omega)
  unfold lst
  omega
/-- A product that may be holds the floors and ceilings of what it is of. -/
theorem mul_held {x y : IV} (hb : (mulV x y).2.2 = false) (hx : okV x = true) (hy : okV y = true) {s t : Int} (s1 : x.1 ≤ s) (s2 : s ≤ x.2.1) (t1 : y.1 ≤ t) (t2 : t ≤ y.2.1) :
    isI (mulV x y).1 ∧ isI (mulV x y).2.1 ∧ (mulV x y).1 ≤ flI (s * t) 1073741824 ∧ ceI (s * t) 1073741824 ≤ (mulV x y).2.1 := by
  rw [mulV_ok hx hy] at hb ⊢
  obtain ⟨a, b, e⟩ := outV_bad hb
  have c := corners s1 s2 t1 t2
  have f1 := fl_mono (y := 1073741824) (by decide) c.1
  have f2 := ce_mono (y := 1073741824) (by decide) c.2
  have f3 := fl_ce (y := 1073741824) (by decide) (Int.le_refl (s * t))
  rw [e]
  unfold isI
  refine ⟨?_, ?_, f1, f2⟩ <;> simp only <;> omega
theorem partP_held {x : IV} {n d : Int} (hd : 0 < d) (hb : (partP x n d).2.2 = false) {s : Int} (s1 : x.1 ≤ s) (s2 : s ≤ x.2.1) :
    isI (partP x n d).1 ∧ isI (partP x n d).2.1 ∧ (partP x n d).1 ≤ flI (s * n) d ∧ ceI (s * n) d ≤ (partP x n d).2.1 := by
  unfold partP at hb ⊢
  split at hb
  · rename_i h
    rw [if_pos h]
    obtain ⟨a, b, e⟩ := outV_bad hb
    have c := mul_between (d := n) s1 s2
    have f1 := fl_mono hd c.1
    have f2 := ce_mono hd c.2
    have f3 := fl_ce hd (Int.le_refl (s * n))
    rw [e]
    unfold isI
    refine ⟨?_, ?_, f1, f2⟩ <;> simp only <;> omega
  · simp [bdV] at hb
theorem part_held {x : IV} (hx : okV x = true) {n d : Int} (hb : (partV x n d).2.2 = false) {s : Int} (s1 : x.1 ≤ s) (s2 : s ≤ x.2.1) :
    d ≠ 0 ∧ isI (partV x n d).1 ∧ isI (partV x n d).2.1 ∧ (partV x n d).1 ≤ flI (s * n) d ∧ ceI (s * n) d ≤ (partV x n d).2.1 := by
  unfold partV at hb ⊢
  by_cases h0 : d = 0
  · rw [if_pos h0] at hb
    simp [bdV] at hb
  rw [if_neg h0] at hb ⊢
  refine ⟨h0, ?_⟩
  by_cases hn : d < 0
  · rw [if_pos hn] at hb ⊢
    have e := negV_ok hx
    have r := partP_held (x := negV x) (n := n) (d := -d) (by omega) hb (s := -s) (by rw [e]; simp only; omega) (by rw [e]; simp only; omega)
    refine ⟨r.1, r.2.1, (le_fln hn).2 ?_, (ce_len hn).2 ?_⟩
    · have := (le_fl (x := -s * n) (y := -d) (by omega)).1 r.2.2.1
      rw [Int.neg_mul, Int.neg_mul] at this
      omega
    · have := (ce_le (x := -s * n) (y := -d) (by omega)).1 r.2.2.2
      rw [Int.neg_mul, Int.neg_mul] at this
      omega
  · rw [if_neg hn] at hb ⊢
    exact partP_held (by omega) hb s1 s2

end Go.Proofs.YtbmekaaekngpbaaGreat
