/- Texts of the seat, joined. -/
import Derived.Test.YthhihmjfobiigaaZz14
/- The laws of package vec, walked. -/
namespace Go.Proofs.Ythhihmjfobiigaa
open Go Go.RowKit
set_option linter.unusedSimpArgs false
set_option linter.unusedVariables false
set_option maxRecDepth 100000

theorem PureX.is {P : Program} {f : Nat} {args : Array Value} {r s : Res} (h : PureX P f args r) (e : r = s) : PureX P f args s := e ▸ h
theorem runLB_pure {P : Program} (hmix : P.follows .mixedOrders = true) {f : Nat} {args : Array Value} {orc : List (Option Bool)} {ans : List (Nat × Res)} {bls : List (Nat × Res × Hp)} {lds : List (List Value)} {r : Res} {obl : List Prop}
    (h : runLB P f args [] orc ans bls lds = some (r, [], obl)) (ho : AllP obl) (ha : wfA noB args = true) (hr : resOK noB r = true) : PureX P f args r := by
  intro w
  have := runLB_calls hmix h ho ha rfl hr idN w (Rel.nil _ _ _)
  have ha2 : renA idN args = args := renA_plain _ ha
  simp only [ha2] at this
  refine this.mono ?_
  rintro e w' ⟨β', _, rfl, hR⟩
  refine ⟨?_, hR.kp.below (Nat.le_refl _) ?_⟩
  · cases r with
    | ret v =>
      simp only [Res.out]
      rw [ren_plain β' hr, ren_plain _ hr]
    | pan ch => rfl
  · rintro k ⟨i, hi, _⟩
    cases hi

/- What goes round: sums and products of rests. -/
theorem wi_at (z : Int) : ∃ k : Int, IntKind.i64.wrap z = z + 18446744073709551616 * k := by
  refine ⟨-((z + 9223372036854775808) / 18446744073709551616), ?_⟩
  rw [IntKind.wrap_i64]
  omega
theorem wi_more (z k : Int) : IntKind.i64.wrap (z + 18446744073709551616 * k) = IntKind.i64.wrap z := by
  rw [IntKind.wrap_i64, IntKind.wrap_i64]
  omega
theorem wal (x y : Int) : IntKind.i64.wrap (IntKind.i64.wrap x + y) = IntKind.i64.wrap (x + y) := by
  obtain ⟨k, h⟩ := wi_at x
  rw [h, show x + 18446744073709551616 * k + y = x + y + 18446744073709551616 * k by omega, wi_more]
theorem war (x y : Int) : IntKind.i64.wrap (x + IntKind.i64.wrap y) = IntKind.i64.wrap (x + y) := by
  rw [Int.add_comm, wal, Int.add_comm]
theorem wsl (x y : Int) : IntKind.i64.wrap (IntKind.i64.wrap x - y) = IntKind.i64.wrap (x - y) := by
  obtain ⟨k, h⟩ := wi_at x
  rw [h, show x + 18446744073709551616 * k - y = x - y + 18446744073709551616 * k by omega, wi_more]
theorem wsr (x y : Int) : IntKind.i64.wrap (x - IntKind.i64.wrap y) = IntKind.i64.wrap (x - y) := by
  obtain ⟨k, h⟩ := wi_at y
  rw [h, show x - (y + 18446744073709551616 * k) = x - y + 18446744073709551616 * (-k) by omega, wi_more]
theorem wml (x y : Int) : IntKind.i64.wrap (IntKind.i64.wrap x * y) = IntKind.i64.wrap (x * y) := by
  obtain ⟨k, h⟩ := wi_at x
  rw [h, show (x + 18446744073709551616 * k) * y = x * y + 18446744073709551616 * (k * y) by rw [Int.add_mul, Int.mul_assoc], wi_more]
theorem wmr (x y : Int) : IntKind.i64.wrap (x * IntKind.i64.wrap y) = IntKind.i64.wrap (x * y) := by
  rw [Int.mul_comm, wml, Int.mul_comm]
theorem wi0 : (0 : Int) = IntKind.i64.wrap 0 := by decide
/-- Products of what is bounded are. -/
theorem mul_in {x y A B : Int} (hx : -A ≤ x ∧ x ≤ A) (hy : -B ≤ y ∧ y ≤ B) : -(A * B) ≤ x * y ∧ x * y ≤ A * B := by
  have h : (x * y).natAbs ≤ A.natAbs * B.natAbs := by
    rw [Int.natAbs_mul]
    exact Nat.mul_le_mul (by omega) (by omega)
  have e : ((A.natAbs * B.natAbs : Nat) : Int) = A * B := by
    rw [Int.natCast_mul, Int.natAbs_of_nonneg (by omega), Int.natAbs_of_nonneg (by omega)]
  omega

theorem vec_wakes : PureX Try.prog 8 #[] (rt (bb true)) :=
  runB_pure mix wk_raw ⟨(crs_v (1, 0, 0) (0, 1, 0)).is (by kernel_rfl), (dot_v (1, 2, 3) (4, 5, 6)).is (by kernel_rfl), (add_v (536870912, 0, 0) (1, 0, 0)).is (by kernel_rfl), (far_v (1, 1, 1) (-1, 3, 2)).is (by kernel_rfl),
    (tim_v (1, -2, 0) 3).is (by kernel_rfl), (within_v (1, -1, 0) (m := 1) ⟨by decide, by decide⟩).is (by kernel_rfl), (within_v (2, 0, 0) (m := 1) ⟨by decide, by decide⟩).is (by kernel_rfl), (neg_v (1, -2, 0)).is (by kernel_rfl), (fin_v (0, 536870913, 0)).is (by kernel_rfl), trivial⟩ rfl rfl

theorem fin_of {a : P3} {m : Int} (h : wth a m = true) (hm : m ≤ 536870912) : fin a = true := by
  have := wth_iff.1 h
  exact fin_iff.2 (by omega)
theorem okP_yes {c : Bool} {r : P3} (h : c = true) : okP c r = (r, 0) := if_pos h
theorem okN_yes {c : Bool} {r : Int} (h : c = true) : okN c r = (r, 0) := if_pos h
theorem crsP_yes {a b : P3} (ha : fin a = true) (hb : fin b = true) : crsP a b = (crP a b, 0) := okP_yes (by rw [ha, hb]; rfl)
theorem dotN_yes {a b : P3} (ha : fin a = true) (hb : fin b = true) : dotN a b = (dtI a b, 0) := okN_yes (by rw [ha, hb]; rfl)
theorem addP_yes {a b : P3} (ha : fin a = true) (hb : fin b = true) (h : fin (plP a b) = true) : addP a b = (plP a b, 0) := okP_yes (by rw [ha, hb, h]; rfl)
theorem subP_yes {a b : P3} (ha : fin a = true) (hb : fin b = true) (h : fin (miP a b) = true) : subP a b = (miP a b, 0) := okP_yes (by rw [ha, hb, h]; rfl)
theorem eq3 {a b : P3} (h : a = b) : ((a.1 == b.1) && ((a.2.1 == b.2.1) && ((a.2.2 == b.2.2) && (true)))) = true := by subst h; simp

/-- The law of crosses. -/
theorem cross_walk (a b : P3) : PureX Try.prog 3 #[vv a, vv b] (rt (bb true)) := by
  have w := vec_wakes
  have ha := dw_v a (m := 16384) (by decide) ⟨by decide, by decide⟩
  have hb := dw_v b (m := 16384) (by decide) ⟨by decide, by decide⟩
  cases h1 : wth a 16384
  · rw [h1] at ha
    exact runB_pure mix (crl_n1 a b _ _) ⟨ha, rfl, w, trivial⟩ rfl rfl
  cases h2 : wth b 16384
  · rw [h1] at ha; rw [h2] at hb
    exact runB_pure mix (crl_n2 a b _ _ _) ⟨ha, rfl, hb, rfl, w, trivial⟩ rfl rfl
  rw [h1] at ha; rw [h2] at hb
  have f1 := fin_of h1 (by decide)
  have f2 := fin_of h2 (by decide)
  have c1 := crs_v a b
  have c2 := crs_v b a
  have c3 := crs_v a a
  have d1 := dot_v a b
  have d2 := dot_v a a
  have d3 := dot_v b b
  rw [crsP_yes f1 f2] at c1
  rw [crsP_yes f2 f1] at c2
  rw [crsP_yes f1 f1, show crP a a = (0, 0, 0) from Prod.ext (by unfold crP wi; simp only [wal, war, wsl, wsr, wml, wmr]; rw [wi0]; congr 1; grind) (Prod.ext (by unfold crP wi; simp only [wal, war, wsl, wsr, wml, wmr]; rw [wi0]; congr 1; grind) (by unfold crP wi; simp only [wal, war, wsl, wsr, wml, wmr]; rw [wi0]; congr 1; grind))] at c3
  rw [dotN_yes f1 f2] at d1
  rw [dotN_yes f1 f1] at d2
  rw [dotN_yes f2 f2] at d3
  refine runB_pure mix (crl_ok a b (crP a b) (crP b a) (dtI a b) (dtI a a) (dtI b b) _ _ _) ⟨ha, rfl, hb, rfl, c1, c2, c3, d1, d2, d3, ?_, ?_, ?_, ?_, w, trivial⟩ rfl rfl
  · refine nt (eq3 (a := crP b a) (b := (wi (0 - (crP a b).1), wi (0 - (crP a b).2.1), wi (0 - (crP a b).2.2))) (Prod.ext ?_ (Prod.ext ?_ ?_)))
    all_goals
      unfold crP wi
      simp only [wal, war, wsl, wsr, wml, wmr]
      congr 1
      grind
  · rw [beq_iff_eq]
    unfold crP wi
    simp only [wal, war, wsl, wsr, wml, wmr]
    rw [wi0]
    congr 1
    grind
  · rw [beq_iff_eq]
    unfold crP wi
    simp only [wal, war, wsl, wsr, wml, wmr]
    rw [wi0]
    congr 1
    grind
  · rw [beq_iff_eq]
    unfold crP dtI wi
    simp only [wal, war, wsl, wsr, wml, wmr]
    congr 1
    grind

theorem ngP_at (a : P3) : ngP (ngP a) = (wi a.1, wi a.2.1, wi a.2.2) := by
  unfold ngP wi
  refine Prod.ext ?_ (Prod.ext ?_ ?_)
  all_goals
    simp only [wal, war, wsl, wsr, wml, wmr]
    congr 1
    omega
/-- The law of sums. -/
theorem sums_walk (a b c : P3) (k : Int) : PureX Try.prog 4 #[vv a, vv b, vv c, ii k] (rt (bb true)) := by
  have w := vec_wakes
  have ha := dw_v a (m := 16384) (by decide) ⟨by decide, by decide⟩
  have hb := dw_v b (m := 16384) (by decide) ⟨by decide, by decide⟩
  have hc := dw_v c (m := 16384) (by decide) ⟨by decide, by decide⟩
  cases h1 : wth a 16384
  · rw [h1] at ha
    exact runB_pure mix (sml_n1 a b c k _ _) ⟨ha, rfl, w, trivial⟩ rfl rfl
  rw [h1] at ha
  cases h2 : wth b 16384
  · rw [h2] at hb
    exact runB_pure mix (sml_n2 a b c k _ _ _) ⟨ha, rfl, hb, rfl, w, trivial⟩ rfl rfl
  rw [h2] at hb
  cases h3 : wth c 16384
  · rw [h3] at hc
    exact runB_pure mix (sml_n3 a b c k _ _ _ _) ⟨ha, rfl, hb, rfl, hc, rfl, w, trivial⟩ rfl rfl
  rw [h3] at hc
  by_cases k1 : k < Int.neg 16384
  · exact runB_pure mix (sml_n4 a b c k _ _ _ _) ⟨ha, rfl, hb, rfl, hc, rfl, decide_eq_true k1, w, trivial⟩ rfl rfl
  by_cases k2 : 16384 < k
  · exact runB_pure mix (sml_n5 a b c k _ _ _ _) ⟨ha, rfl, hb, rfl, hc, rfl, decide_eq_false k1, decide_eq_true k2, w, trivial⟩ rfl rfl
  have k3 : -16384 ≤ k := Int.not_lt.1 k1
  have f1 := fin_of h1 (by decide)
  have f2 := fin_of h2 (by decide)
  have f3 := fin_of h3 (by decide)
  have i1 := wth_iff.1 h1
  have i2 := wth_iff.1 h2
  have i3 := wth_iff.1 h3
  have wr : ∀ z : Int, -9223372036854775808 ≤ z ∧ z < 9223372036854775808 → IntKind.i64.wrap z = z := fun z h => wrapI h
  have fs : fin (plP a b) = true := fin_iff.2 (by
    unfold plP wi
    simp only
    rw [wr (a.1 + b.1) (by omega), wr (a.2.1 + b.2.1) (by omega), wr (a.2.2 + b.2.2) (by omega)]
    omega)
  have eb : miP (plP a b) b = a := by
    unfold plP miP wi
    refine Prod.ext ?_ (Prod.ext ?_ ?_)
    all_goals
      simp only [wal, war, wsl, wsr, wml, wmr]
      first
        | rw [show a.1 + b.1 - b.1 = a.1 by omega, wr _ (by omega)]
        | rw [show a.2.1 + b.2.1 - b.2.1 = a.2.1 by omega, wr _ (by omega)]
        | rw [show a.2.2 + b.2.2 - b.2.2 = a.2.2 by omega, wr _ (by omega)]
  have en : ngP (ngP a) = a := by
    rw [ngP_at]
    unfold wi
    rw [wr a.1 (by omega), wr a.2.1 (by omega), wr a.2.2 (by omega)]
  have fn : fin (ngP a) = true := fin_iff.2 (by
    unfold ngP wi
    simp only
    rw [wr (0 - a.1) (by omega), wr (0 - a.2.1) (by omega), wr (0 - a.2.2) (by omega)]
    omega)
  have ez : plP a (ngP a) = (0, 0, 0) := by
    unfold plP ngP wi
    refine Prod.ext ?_ (Prod.ext ?_ ?_)
    all_goals
      simp only [wal, war, wsl, wsr, wml, wmr]
      refine (congrArg IntKind.i64.wrap (a₂ := 0) ?_).trans wi0.symm
      omega
  have ek : bndI k 536870913 = k := bnd_in ⟨by decide, by decide⟩ (by omega)
  have ft : fin (tmP a k) = true := fin_iff.2 (by
    have m1 := mul_in (x := a.1) (y := k) (A := 16384) (B := 16384) (by omega) (by omega)
    have m2 := mul_in (x := a.2.1) (y := k) (A := 16384) (B := 16384) (by omega) (by omega)
    have m3 := mul_in (x := a.2.2) (y := k) (A := 16384) (B := 16384) (by omega) (by omega)
    unfold tmP wi
    simp only
    rw [wr _ (by omega), wr _ (by omega), wr _ (by omega)]
    omega)
  have s1 := add_v a b
  rw [addP_yes f1 f2 fs] at s1
  have s2 := sub_v (plP a b) b
  rw [subP_yes fs f2 (by rw [eb]; exact f1), eb] at s2
  have s3 := neg_v a
  have s4 := add_v a (ngP a)
  rw [addP_yes f1 fn (by rw [ez]; decide), ez] at s4
  have s5 := tim_v a k
  rw [show timP a k = (tmP a k, 0) by unfold timP; rw [ek]; exact okP_yes (by rw [f1, ft]; rfl)] at s5
  have s6 := dot_v (plP a b) c
  rw [dotN_yes fs f3] at s6
  have s7 := dot_v a c
  rw [dotN_yes f1 f3] at s7
  have s8 := dot_v b c
  rw [dotN_yes f2 f3] at s8
  have s9 := dot_v (tmP a k) c
  rw [dotN_yes ft f3] at s9
  have t1 := crs_v (plP a b) c
  rw [crsP_yes fs f3] at t1
  have t2 := crs_v a c
  rw [crsP_yes f1 f3] at t2
  have t3 := crs_v b c
  rw [crsP_yes f2 f3] at t3
  have t4 := neg_v (ngP a)
  rw [en] at t4
  refine runB_pure mix (sml_ok a b c (plP a b) a (ngP a) (0, 0, 0) (tmP a k) (ngP a) a (crP (plP a b) c) (crP a c) (crP b c) k (dtI (plP a b) c) (dtI a c) (dtI b c) (dtI (tmP a k) c) _ _ _ _)
    ⟨ha, rfl, hb, rfl, hc, rfl, decide_eq_false k1, decide_eq_false k2, s1, s2, s3, s4, s5, s6, s7, s8, s9, t1, t2, t3, eq3 rfl, rfl, ?_, ?_, ?_, s3, t4, eq3 rfl, w, trivial⟩ rfl rfl
  · rw [beq_iff_eq]
    unfold plP dtI wi
    simp only [wal, war, wsl, wsr, wml, wmr]
    congr 1
    grind
  · rw [beq_iff_eq]
    unfold tmP dtI wi
    simp only [wal, war, wsl, wsr, wml, wmr]
    congr 1
    grind
  · refine eq3 (a := crP (plP a b) c) (b := (wi ((crP a c).1 + (crP b c).1), wi ((crP a c).2.1 + (crP b c).2.1), wi ((crP a c).2.2 + (crP b c).2.2))) (Prod.ext ?_ (Prod.ext ?_ ?_))
    all_goals
      unfold crP plP wi
      simp only [wal, war, wsl, wsr, wml, wmr]
      congr 1
      grind

theorem sq_nn (x : Int) : 0 ≤ x * x := by
  rw [← Int.natAbs_mul_self]
  omega
theorem sq_0 {x : Int} (h : x * x = 0) : x = 0 := by
  rcases Int.mul_eq_zero.1 h with h | h <;> exact h
theorem farN_yes {a b : P3} (ha : fin a = true) (hb : fin b = true) (h : fin (miP a b) = true) : farN a b = (dtI (miP a b) (miP a b), 0) := by
  unfold farN
  rw [subP_yes ha hb h, if_pos rfl]
  exact dotN_yes h h
theorem mi_fin {a b : P3} (ha : wth a 134217728 = true) (hb : wth b 134217728 = true) : miP a b = (a.1 - b.1, a.2.1 - b.2.1, a.2.2 - b.2.2) ∧ fin (miP a b) = true := by
  have h1 := wth_iff.1 ha
  have h2 := wth_iff.1 hb
  have e : miP a b = (a.1 - b.1, a.2.1 - b.2.1, a.2.2 - b.2.2) := by
    unfold miP wi
    rw [wrapI (by omega), wrapI (by omega), wrapI (by omega)]
  refine ⟨e, ?_⟩
  rw [e]
  exact fin_iff.2 (by simp only; omega)
/-- The square of a way that does not go round. -/
theorem dt_sq {x y z : Int} (h : (-268435456 ≤ x ∧ x ≤ 268435456) ∧ (-268435456 ≤ y ∧ y ≤ 268435456) ∧ (-268435456 ≤ z ∧ z ≤ 268435456)) : dtI (x, y, z) (x, y, z) = x * x + y * y + z * z ∧ (x * x ≤ 72057594037927936 ∧ y * y ≤ 72057594037927936 ∧ z * z ≤ 72057594037927936) := by
  have m1 := mul_in (x := x) (y := x) (A := 268435456) (B := 268435456) (by omega) (by omega)
  have m2 := mul_in (x := y) (y := y) (A := 268435456) (B := 268435456) (by omega) (by omega)
  have m3 := mul_in (x := z) (y := z) (A := 268435456) (B := 268435456) (by omega) (by omega)
  refine ⟨?_, by omega⟩
  unfold dtI wi
  simp only [wal, war, wsl, wsr, wml, wmr, Int.zero_add]
  exact wrapI (by omega)
/-- The law of ways. -/
theorem far_walk (a b c d : P3) : PureX Try.prog 5 #[vv a, vv b, vv c, vv d] (rt (bb true)) := by
  have w := vec_wakes
  have ha := dw_v a (m := 134217728) (by decide) ⟨by decide, by decide⟩
  have hb := dw_v b (m := 134217728) (by decide) ⟨by decide, by decide⟩
  have hc := dw_v c (m := 134217728) (by decide) ⟨by decide, by decide⟩
  have hd := dw_v d (m := 134217728) (by decide) ⟨by decide, by decide⟩
  cases h1 : wth a 134217728
  · rw [h1] at ha
    exact runB_pure mix (frl_n0 a b c d _ _) ⟨ha, rfl, w, trivial⟩ rfl rfl
  rw [h1] at ha
  cases h2 : wth b 134217728
  · rw [h2] at hb
    exact runB_pure mix (frl_n1 a b c d _ _ _) ⟨ha, rfl, hb, rfl, w, trivial⟩ rfl rfl
  rw [h2] at hb
  cases h3 : wth c 134217728
  · rw [h3] at hc
    exact runB_pure mix (frl_n2 a b c d _ _ _ _) ⟨ha, rfl, hb, rfl, hc, rfl, w, trivial⟩ rfl rfl
  rw [h3] at hc
  cases h4 : wth d 134217728
  · rw [h4] at hd
    exact runB_pure mix (frl_n3 a b c d _ _ _ _ _) ⟨ha, rfl, hb, rfl, hc, rfl, hd, rfl, w, trivial⟩ rfl rfl
  rw [h4] at hd
  have f1 := fin_of h1 (by decide)
  have f2 := fin_of h2 (by decide)
  have f3 := fin_of h3 (by decide)
  have f4 := fin_of h4 (by decide)
  have i1 := wth_iff.1 h1
  have i2 := wth_iff.1 h2
  have i3 := wth_iff.1 h3
  have i4 := wth_iff.1 h4
  have x1 := far_v a b
  have x2 := far_v b a
  have x3 := far_v b c
  have x4 := far_v a c
  have x5 := add_v a d
  have x6 := add_v b d
  have x7 := far_v (plP a d) (plP b d)
  have e1 : plP a d = (a.1 + d.1, a.2.1 + d.2.1, a.2.2 + d.2.2) := by
    unfold plP wi
    rw [wrapI (by omega), wrapI (by omega), wrapI (by omega)]
  have e2 : plP b d = (b.1 + d.1, b.2.1 + d.2.1, b.2.2 + d.2.2) := by
    unfold plP wi
    rw [wrapI (by omega), wrapI (by omega), wrapI (by omega)]
  have g1 : fin (plP a d) = true := by rw [e1]; exact fin_iff.2 (by simp only; omega)
  have g2 : fin (plP b d) = true := by rw [e2]; exact fin_iff.2 (by simp only; omega)
  have em : miP (plP a d) (plP b d) = miP a b := by
    unfold miP plP wi
    refine Prod.ext ?_ (Prod.ext ?_ ?_)
    all_goals
      simp only [wal, war, wsl, wsr, wml, wmr]
      congr 1
      omega
  have mab := mi_fin h1 h2
  have mba := mi_fin h2 h1
  have mbc := mi_fin h2 h3
  have mac := mi_fin h1 h3
  rw [farN_yes f1 f2 mab.2, mab.1] at x1
  rw [farN_yes f2 f1 mba.2, mba.1] at x2
  rw [farN_yes f2 f3 mbc.2, mbc.1] at x3
  rw [farN_yes f1 f3 mac.2, mac.1] at x4
  rw [addP_yes f1 f4 g1] at x5
  rw [addP_yes f2 f4 g2] at x6
  rw [farN_yes g1 g2 (by rw [em]; exact mab.2), em, mab.1] at x7
  obtain ⟨q1, b1⟩ := dt_sq (x := a.1 - b.1) (y := a.2.1 - b.2.1) (z := a.2.2 - b.2.2) (by omega)
  obtain ⟨q2, b2⟩ := dt_sq (x := b.1 - a.1) (y := b.2.1 - a.2.1) (z := b.2.2 - a.2.2) (by omega)
  obtain ⟨q3, b3⟩ := dt_sq (x := b.1 - c.1) (y := b.2.1 - c.2.1) (z := b.2.2 - c.2.2) (by omega)
  obtain ⟨q4, b4⟩ := dt_sq (x := a.1 - c.1) (y := a.2.1 - c.2.1) (z := a.2.2 - c.2.2) (by omega)
  rw [q1] at x1 x7
  rw [q2] at x2
  rw [q3] at x3
  rw [q4] at x4
  have n1 := sq_nn (a.1 - b.1)
  have n2 := sq_nn (a.2.1 - b.2.1)
  have n3 := sq_nn (a.2.2 - b.2.2)
  have n4 := sq_nn (b.1 - c.1)
  have n5 := sq_nn (b.2.1 - c.2.1)
  have n6 := sq_nn (b.2.2 - c.2.2)
  refine runB_pure mix (frl_ok a b c d (plP a d) (plP b d) _ _ _ _ _ _ _ _ _ _) ⟨ha, rfl, hb, rfl, hc, rfl, hd, rfl, x1, x2, x3, x4, x5, x6, x7, ?_, beq_self_eq_true _, ?_, ?_, w, trivial⟩ rfl rfl
  · rw [beq_iff_eq]
    grind
  · rw [beq_iff_eq, Bool.eq_iff_iff]
    simp only [Bool.and_eq_true, beq_iff_eq, and_true]
    constructor
    · intro h
      have z1 := sq_0 (show (a.1 - b.1) * (a.1 - b.1) = 0 by omega)
      have z2 := sq_0 (show (a.2.1 - b.2.1) * (a.2.1 - b.2.1) = 0 by omega)
      have z3 := sq_0 (show (a.2.2 - b.2.2) * (a.2.2 - b.2.2) = 0 by omega)
      omega
    · rintro ⟨z1, z2, z3⟩
      rw [z1, z2, z3]
      simp
  · have tw : ∀ x y z : Int, (x - z) * (x - z) ≤ 2 * ((x - y) * (x - y)) + 2 * ((y - z) * (y - z)) := fun x y z => by
      have h := sq_nn ((x - y) - (y - z))
      have e : (x - z) * (x - z) + ((x - y) - (y - z)) * ((x - y) - (y - z)) = 2 * ((x - y) * (x - y)) + 2 * ((y - z) * (y - z)) := by grind
      omega
    have t1 := tw a.1 b.1 c.1
    have t2 := tw a.2.1 b.2.1 c.2.1
    have t3 := tw a.2.2 b.2.2 c.2.2
    refine decide_eq_true ?_
    unfold wi
    rw [wal, war, wrapI (by omega)]
    omega

theorem mxI_iff {x y m : Int} : mxI x y ≤ m ↔ x ≤ m ∧ y ≤ m := by unfold mxI; split <;> omega
theorem okP_none {c : Bool} {r : P3} (h : c = false) : okP c r = ((0, 0, 0), 20) := by unfold okP; rw [h]; rfl
theorem okN_none {c : Bool} {r : Int} (h : c = false) : okN c r = (0, 20) := by unfold okN; rw [h]; rfl
theorem and3 {p q r : Bool} (h : q = false) : (p && q && r) = false := by rw [h]; simp
theorem and3' {p q r : Bool} (h : p = false) : (p && q && r) = false := by rw [h]; simp
/-- What comes of a point that may be and others that may not. -/
theorem over_all {a b c : P3} (hb : fin b = false) (hc : fin c = false) :
    addP a b = ((0, 0, 0), 20) ∧ subP c a = ((0, 0, 0), 20) ∧ dotN b a = (0, 20) ∧ crsP a c = ((0, 0, 0), 20) ∧ farN b c = (0, 20) ∧ timP b 0 = ((0, 0, 0), 20) := by
  refine ⟨okP_none (and3 hb), okP_none (and3' hc), okN_none (by rw [hb]; rfl), okP_none (by rw [hc]; simp), ?_, okP_none (by rw [hb]; rfl)⟩
  have e : subP b c = ((0, 0, 0), 20) := okP_none (and3' hb)
  unfold farN
  rw [e]
  rfl
/-- The law of what is too great. -/
theorem over_walk (a : P3) (k ov : Int) : PureX Try.prog 6 #[vv a, ii k, ii ov] (rt (bb true)) := by
  have w := vec_wakes
  have ha := dw_v a (m := 536870912) (by decide) ⟨by decide, by decide⟩
  cases h1 : wth a 536870912
  · rw [h1] at ha
    exact runB_pure mix (ovl_n1 a k ov _ _) ⟨ha, rfl, w, trivial⟩ rfl rfl
  rw [h1] at ha
  by_cases o1 : ov < 1
  · exact runB_pure mix (ovl_n2 a k ov _ _) ⟨ha, rfl, decide_eq_true o1, w, trivial⟩ rfl rfl
  by_cases o2 : 1073741824 < ov
  · exact runB_pure mix (ovl_n3 a k ov _ _) ⟨ha, rfl, decide_eq_false o1, decide_eq_true o2, w, trivial⟩ rfl rfl
  have f1 : fin a = true := h1
  have i1 := wth_iff.1 h1
  have fa := fin_v a
  rw [f1] at fa
  have p1 := decide_eq_false o1
  have p2 := decide_eq_false o2
  have ew : wi (536870912 + ov) = 536870912 + ov := wrapI (by omega)
  have no : ∀ b : P3, ¬ ((-536870912 ≤ b.1 ∧ b.1 ≤ 536870912) ∧ (-536870912 ≤ b.2.1 ∧ b.2.1 ≤ 536870912) ∧ (-536870912 ≤ b.2.2 ∧ b.2.2 ≤ 536870912)) → fin b = false := fun b h => by
    cases hx : fin b
    · rfl
    · exact absurd (fin_iff.1 hx) h
  have top : ((addP a a).2 == 0) = decide (mx6 a ≤ 268435456) := by
    rw [Bool.eq_iff_iff, beq_iff_eq, decide_eq_true_iff]
    have e : plP a a = (a.1 + a.1, a.2.1 + a.2.1, a.2.2 + a.2.2) := by
      unfold plP wi
      rw [wrapI (by omega), wrapI (by omega), wrapI (by omega)]
    have hn : mx6 a ≤ 268435456 ↔ fin (plP a a) = true := by
      rw [e, fin_iff]
      unfold mx6 wi
      rw [wrapI (z := 0 - a.1) (by omega), wrapI (z := 0 - a.2.1) (by omega), wrapI (z := 0 - a.2.2) (by omega)]
      simp only [mxI_iff]
      omega
    rw [hn]
    unfold addP okP
    rw [f1]
    cases hf : fin (plP a a) <;> simp
  have saa := add_v a a
  have tri : (wi (Int.tmod k 3 + 3)).tmod 3 = 0 ∨ (wi (Int.tmod k 3 + 3)).tmod 3 = 1 ∨ (wi (Int.tmod k 3 + 3)).tmod 3 = 2 := by
    have h := tm_b (a := k) (w := 3) (by decide)
    have e : wi (Int.tmod k 3 + 3) = Int.tmod k 3 + 3 := wrapI (by omega)
    rw [e, Int.tmod_eq_emod_of_nonneg (by omega)]
    omega
  have key : ∀ b : P3, fin b = false → fin (ngP b) = false → PureX Try.prog 13 #[vv b] (rt (vv (ngP b))) ∧ PureX Try.prog 11 #[vv a, vv b] (rt (tp [vc 0 0 0, ii 20])) ∧ PureX Try.prog 12 #[vv (ngP b), vv a] (rt (tp [vc 0 0 0, ii 20])) ∧
      PureX Try.prog 10 #[vv b, vv a] (rt (tp [ii 0, ii 20])) ∧ PureX Try.prog 9 #[vv a, vv (ngP b)] (rt (tp [vc 0 0 0, ii 20])) ∧ PureX Try.prog 16 #[vv b, vv (ngP b)] (rt (tp [ii 0, ii 20])) ∧ PureX Try.prog 14 #[vv b, ii 0] (rt (tp [vc 0 0 0, ii 20])) ∧
      PureX Try.prog 19 #[vv b, ii 536870912] (rt (bb false)) ∧ PureX Try.prog 19 #[vv (ngP b), ii 536870912] (rt (bb false)) := by
    intro b hb hc
    obtain ⟨e1, e2, e3, e4, e5, e6⟩ := over_all (a := a) hb hc
    have y1 := add_v a b
    have y2 := sub_v (ngP b) a
    have y3 := dot_v b a
    have y4 := crs_v a (ngP b)
    have y5 := far_v b (ngP b)
    have y6 := tim_v b 0
    have y7 := fin_v b
    have y8 := fin_v (ngP b)
    rw [e1] at y1; rw [e2] at y2; rw [e3] at y3; rw [e4] at y4; rw [e5] at y5; rw [e6] at y6; rw [hb] at y7; rw [hc] at y8
    exact ⟨neg_v b, y1, y2, y3, y4, y5, y6, y7, y8⟩
  have en : IntKind.i64.wrap (0 - (536870912 + ov)) = -(536870912 + ov) := by rw [wrapI (by omega)]; omega
  by_cases hs : (addP a a).2 = 0
  · have es : addP a a = ((addP a a).1, 0) := Prod.ext rfl hs
    rw [es] at saa
    have ht : (!((0 == 0) == decide (mx6 a ≤ 268435456))) = false := by rw [← top, hs]; rfl
    rcases tri with r | r | r
    · obtain ⟨y0, y1, y2, y3, y4, y5, y6, y7, y8⟩ := key (536870912 + ov, a.2.1, a.2.2) (no _ (by simp only; omega)) (no _ (by unfold ngP wi; simp only; rw [en]; omega))
      refine runLB_pure mix (ovl_0y a (ngP (536870912 + ov, a.2.1, a.2.2)) (addP a a).1 k ov true true) ?_ rfl rfl
      rw [ew]
      exact ⟨ha, rfl, p1, p2, by decide, ⟨by decide, r⟩, y0, y1, y2, y3, y4, y5, y6, saa, fa, y7, fa, y8, ht, w, trivial⟩
    · obtain ⟨y0, y1, y2, y3, y4, y5, y6, y7, y8⟩ := key (a.1, 536870912 + ov, a.2.2) (no _ (by simp only; omega)) (no _ (by unfold ngP wi; simp only; rw [en]; omega))
      refine runLB_pure mix (ovl_1y a (ngP (a.1, 536870912 + ov, a.2.2)) (addP a a).1 k ov true true) ?_ rfl rfl
      rw [ew]
      exact ⟨ha, rfl, p1, p2, by decide, ⟨by decide, r⟩, y0, y1, y2, y3, y4, y5, y6, saa, fa, y7, fa, y8, ht, w, trivial⟩
    · obtain ⟨y0, y1, y2, y3, y4, y5, y6, y7, y8⟩ := key (a.1, a.2.1, 536870912 + ov) (no _ (by simp only; omega)) (no _ (by unfold ngP wi; simp only; rw [en]; omega))
      refine runLB_pure mix (ovl_2y a (ngP (a.1, a.2.1, 536870912 + ov)) (addP a a).1 k ov true true) ?_ rfl rfl
      rw [ew]
      exact ⟨ha, rfl, p1, p2, by decide, ⟨by decide, r⟩, y0, y1, y2, y3, y4, y5, y6, saa, fa, y7, fa, y8, ht, w, trivial⟩
  · have es : addP a a = ((0, 0, 0), 20) := okP_no hs
    rw [es] at saa
    have ht : (!((20 == 0) == decide (mx6 a ≤ 268435456))) = false := by rw [← top, es]; rfl
    rcases tri with r | r | r
    · obtain ⟨y0, y1, y2, y3, y4, y5, y6, y7, y8⟩ := key (536870912 + ov, a.2.1, a.2.2) (no _ (by simp only; omega)) (no _ (by unfold ngP wi; simp only; rw [en]; omega))
      refine runLB_pure mix (ovl_0n a (ngP (536870912 + ov, a.2.1, a.2.2)) a k ov true true) ?_ rfl rfl
      rw [ew]
      exact ⟨ha, rfl, p1, p2, by decide, ⟨by decide, r⟩, y0, y1, y2, y3, y4, y5, y6, saa, fa, y7, fa, y8, ht, w, trivial⟩
    · obtain ⟨y0, y1, y2, y3, y4, y5, y6, y7, y8⟩ := key (a.1, 536870912 + ov, a.2.2) (no _ (by simp only; omega)) (no _ (by unfold ngP wi; simp only; rw [en]; omega))
      refine runLB_pure mix (ovl_1n a (ngP (a.1, 536870912 + ov, a.2.2)) a k ov true true) ?_ rfl rfl
      rw [ew]
      exact ⟨ha, rfl, p1, p2, by decide, ⟨by decide, r⟩, y0, y1, y2, y3, y4, y5, y6, saa, fa, y7, fa, y8, ht, w, trivial⟩
    · obtain ⟨y0, y1, y2, y3, y4, y5, y6, y7, y8⟩ := key (a.1, a.2.1, 536870912 + ov) (no _ (by simp only; omega)) (no _ (by unfold ngP wi; simp only; rw [en]; omega))
      refine runLB_pure mix (ovl_2n a (ngP (a.1, a.2.1, 536870912 + ov)) a k ov true true) ?_ rfl rfl
      rw [ew]
      exact ⟨ha, rfl, p1, p2, by decide, ⟨by decide, r⟩, y0, y1, y2, y3, y4, y5, y6, saa, fa, y7, fa, y8, ht, w, trivial⟩
end Go.Proofs.Ythhihmjfobiigaa
