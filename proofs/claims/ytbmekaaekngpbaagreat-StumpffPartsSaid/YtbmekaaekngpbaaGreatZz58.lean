/- Texts of the seat, joined. -/
import Derived.Test.YtbmekaaekngpbaaGreatZz3
import Derived.Test.YtbmekaaekngpbaaGreatZz57
/- The law of parts, walked. -/
namespace Go.Proofs.YtbmekaaekngpbaaGreat
open Go Go.RowKit
set_option linter.unusedSimpArgs false
set_option linter.unusedVariables false
set_option maxRecDepth 100000

/-- As runB_pure, with what is read at places that are not known. -/
theorem runLB_pure {P : Program} (hmix : P.follows .mixedOrders = true) {f : Nat} {args : Array Value} {orc : List (Option Bool)} {ans : List (Nat × Res)} {bls : List (Nat × Res × Hp)} {lds : List (List Value)} {r : Res} {obl : List Prop}
    (h : runLB P f args [] orc ans bls lds = some (r, [], obl)) (ho : AllP obl) (ha : wfA noB args = true) (hr : resOK noB r = true) : PureX P f args r := by
  intro w
  have := runLB_calls hmix h ho ha rfl hr idN w (Rel.nil _ _ _)
  have ha2 : renA idN args = args := renA_plain _ ha
  simp only [ha2] at this
  refine this.mono ?_
  rintro e w' ⟨β', _, rfl, hR⟩
  refine ⟨?_, hR.kp.below (Nat.le_refl _) ?_⟩
  · cases r with
    | ret v =>
      simp only [Res.out]
      rw [ren_plain β' hr, ren_plain _ hr]
    | pan ch => rfl
  · rintro k ⟨i, hi, _⟩
    cases hi
def mM (q1 q2 : Int) : Int := IntKind.i64.wrap (q1 + IntKind.i64.wrap ((IntKind.i64.wrap (q2 - q1)).tdiv 2))
theorem mM_in {q1 q2 : Int} (h1 : -17179869184 ≤ q1 ∧ q1 ≤ 17179869184) (h2 : -17179869184 ≤ q2 ∧ q2 ≤ 17179869184) : mnI q1 q2 ≤ mM q1 q2 ∧ mM q1 q2 ≤ mxI q1 q2 := by
  unfold mM
  rw [wrapI (z := q2 - q1) (by omega)]
  have h : (q2 - q1).tdiv 2 = (q2 - q1) / 2 ∨ ((q2 - q1).tdiv 2 = -((q1 - q2) / 2) ∧ q2 < q1) := by
    rcases Int.le_total q1 q2 with h | h
    · left; exact Int.tdiv_eq_ediv_of_nonneg (by omega)
    · by_cases e : q2 < q1
      · right
        refine ⟨?_, e⟩
        rw [show q2 - q1 = -(q1 - q2) by omega, Int.neg_tdiv, Int.tdiv_eq_ediv_of_nonneg (by omega)]
      · left
        rw [show q2 - q1 = 0 by omega]; rfl
  generalize (q2 - q1).tdiv 2 = z at *
  rw [wrapI (z := z) (by omega), wrapI (by omega)]
  unfold mnI mxI
  split <;> split <;> omega
theorem l7_a (p q k q1 q2 : Int) (a l x y u pt pq pu e0 e1 e2 e3 : IV) : runLB Tryz.prog 7 #[ii p, ii q, ii k] [] [n, n, n, n, n, n, n, n, n, n, n, n, n, n, n, n, t, n, n, n, n, n, n, n, n, n, n, n, n, n, n, t] [(18, rt (ii q1)), (18, rt (ii q2)), (21, rt (ivv a)), (13, rt (ivv l)), (20, rt (ivv pt)), (13, rt (ivv x)), (20, rt (ivv pq)), (13, rt (ivv y)), (27, rt (bb true)), (27, rt (bb true)), (20, rt (ivv pu)), (13, rt (ivv u)), (27, rt (bb true)), (13, rt (ivv l)), (15, rt (a4 e0 e1 e2 e3)), (17, rt (bb true))] [(22, rt (bb true), [(1004, oiv [l, x, y])])] [[.nilFunc, ivv l]] =
    some (rt (bb true), [], [PureX Tryz.prog 18 #[ii p, ii 17179869184] (rt (ii q1)), PureX Tryz.prog 18 #[ii q, ii 17179869184] (rt (ii q2)), PureX Tryz.prog 21 #[ii q1, ii q2] (rt (ivv a)), PureX Tryz.prog 13 #[ii (kK k), ivv a] (rt (ivv l)), PureX Tryz.prog 20 #[ii q1] (rt (ivv pt)), PureX Tryz.prog 13 #[ii (kK k), ivv pt] (rt (ivv x)), PureX Tryz.prog 20 #[ii q2] (rt (ivv pq)), PureX Tryz.prog 13 #[ii (kK k), ivv pq] (rt (ivv y)), CallsV Tryz.prog (.func 22) #[sl 1004 3] [(1004, oiv [l, x, y])] (rt (bb true)) [(1004, oiv [l, x, y])], PureX Tryz.prog 27 #[ivv l, ivv x] (rt (bb true)), PureX Tryz.prog 27 #[ivv l, ivv y] (rt (bb true)), PureX Tryz.prog 20 #[ii (mM q1 q2)] (rt (ivv pu)), PureX Tryz.prog 13 #[ii (kK k), ivv pu] (rt (ivv u)), PureX Tryz.prog 27 #[ivv l, ivv u] (rt (bb true)), decide (q2 < q1) = true, PureX Tryz.prog 13 #[ii (kK k), ivv a] (rt (ivv l)), PureX Tryz.prog 15 #[ivv a] (rt (a4 e0 e1 e2 e3)), calm Tryz.prog (Instr.index 28 (a4 e0 e1 e2 e3) (ii (kK k))) = some (ivv l), ((l.1 == l.1) && ((l.2.1 == l.2.1) && ((l.2.2 == l.2.2) && true))) = true, PureX Tryz.prog 17 #[] (rt (bb true))]) := by kernel_rfl
theorem l7_b (p q k q1 q2 : Int) (a l x y u pt pq pu e0 e1 e2 e3 : IV) : runLB Tryz.prog 7 #[ii p, ii q, ii k] [] [n, n, n, n, n, n, n, n, n, n, n, n, n, n, n, n, f, n, t, n, n, n, n, n, n, n, n, n, n, n, n, t] [(18, rt (ii q1)), (18, rt (ii q2)), (21, rt (ivv a)), (13, rt (ivv l)), (20, rt (ivv pt)), (13, rt (ivv x)), (20, rt (ivv pq)), (13, rt (ivv y)), (27, rt (bb true)), (27, rt (bb true)), (20, rt (ivv pu)), (13, rt (ivv u)), (27, rt (bb true)), (13, rt (ivv l)), (15, rt (a4 e0 e1 e2 e3)), (17, rt (bb true))] [(22, rt (bb true), [(1004, oiv [l, x, y])])] [[.nilFunc, ivv l]] =
    some (rt (bb true), [], [PureX Tryz.prog 18 #[ii p, ii 17179869184] (rt (ii q1)), PureX Tryz.prog 18 #[ii q, ii 17179869184] (rt (ii q2)), PureX Tryz.prog 21 #[ii q1, ii q2] (rt (ivv a)), PureX Tryz.prog 13 #[ii (kK k), ivv a] (rt (ivv l)), PureX Tryz.prog 20 #[ii q1] (rt (ivv pt)), PureX Tryz.prog 13 #[ii (kK k), ivv pt] (rt (ivv x)), PureX Tryz.prog 20 #[ii q2] (rt (ivv pq)), PureX Tryz.prog 13 #[ii (kK k), ivv pq] (rt (ivv y)), CallsV Tryz.prog (.func 22) #[sl 1004 3] [(1004, oiv [l, x, y])] (rt (bb true)) [(1004, oiv [l, x, y])], PureX Tryz.prog 27 #[ivv l, ivv x] (rt (bb true)), PureX Tryz.prog 27 #[ivv l, ivv y] (rt (bb true)), PureX Tryz.prog 20 #[ii (mM q1 q2)] (rt (ivv pu)), PureX Tryz.prog 13 #[ii (kK k), ivv pu] (rt (ivv u)), PureX Tryz.prog 27 #[ivv l, ivv u] (rt (bb true)), decide (q2 < q1) = false, decide (0 < q2) = true, PureX Tryz.prog 13 #[ii (kK k), ivv a] (rt (ivv l)), PureX Tryz.prog 15 #[ivv a] (rt (a4 e0 e1 e2 e3)), calm Tryz.prog (Instr.index 28 (a4 e0 e1 e2 e3) (ii (kK k))) = some (ivv l), ((l.1 == l.1) && ((l.2.1 == l.2.1) && ((l.2.2 == l.2.2) && true))) = true, PureX Tryz.prog 17 #[] (rt (bb true))]) := by kernel_rfl
theorem l7_c (p q k q1 q2 : Int) (a l x y u pt pq pu e0 e1 e2 e3 : IV) : runLB Tryz.prog 7 #[ii p, ii q, ii k] [] [n, n, n, n, n, n, n, n, n, n, n, n, n, n, n, n, f, n, f, n, n, n, n, t, n, n, n, n, n, n, n, t] [(18, rt (ii q1)), (18, rt (ii q2)), (21, rt (ivv a)), (13, rt (ivv l)), (20, rt (ivv pt)), (13, rt (ivv x)), (20, rt (ivv pq)), (13, rt (ivv y)), (27, rt (bb true)), (27, rt (bb true)), (20, rt (ivv pu)), (13, rt (ivv u)), (27, rt (bb true)), (13, rt (ivv l)), (15, rt (a4 e0 e1 e2 e3)), (17, rt (bb true))] [(22, rt (bb true), [(1004, oiv [l, x, y])])] [[.nilFunc, ivv l]] =
    some (rt (bb true), [], [PureX Tryz.prog 18 #[ii p, ii 17179869184] (rt (ii q1)), PureX Tryz.prog 18 #[ii q, ii 17179869184] (rt (ii q2)), PureX Tryz.prog 21 #[ii q1, ii q2] (rt (ivv a)), PureX Tryz.prog 13 #[ii (kK k), ivv a] (rt (ivv l)), PureX Tryz.prog 20 #[ii q1] (rt (ivv pt)), PureX Tryz.prog 13 #[ii (kK k), ivv pt] (rt (ivv x)), PureX Tryz.prog 20 #[ii q2] (rt (ivv pq)), PureX Tryz.prog 13 #[ii (kK k), ivv pq] (rt (ivv y)), CallsV Tryz.prog (.func 22) #[sl 1004 3] [(1004, oiv [l, x, y])] (rt (bb true)) [(1004, oiv [l, x, y])], PureX Tryz.prog 27 #[ivv l, ivv x] (rt (bb true)), PureX Tryz.prog 27 #[ivv l, ivv y] (rt (bb true)), PureX Tryz.prog 20 #[ii (mM q1 q2)] (rt (ivv pu)), PureX Tryz.prog 13 #[ii (kK k), ivv pu] (rt (ivv u)), PureX Tryz.prog 27 #[ivv l, ivv u] (rt (bb true)), decide (q2 < q1) = false, decide (0 < q2) = false, decide (y.1 ≤ x.2.1) = true, PureX Tryz.prog 13 #[ii (kK k), ivv a] (rt (ivv l)), PureX Tryz.prog 15 #[ivv a] (rt (a4 e0 e1 e2 e3)), calm Tryz.prog (Instr.index 28 (a4 e0 e1 e2 e3) (ii (kK k))) = some (ivv l), ((l.1 == l.1) && ((l.2.1 == l.2.1) && ((l.2.2 == l.2.2) && true))) = true, PureX Tryz.prog 17 #[] (rt (bb true))]) := by kernel_rfl
theorem ix_0 (e0 e1 e2 e3 : IV) : calm Tryz.prog (Instr.index 28 (a4 e0 e1 e2 e3) (ii 0)) = some (ivv e0) := by kernel_rfl
theorem ix_1 (e0 e1 e2 e3 : IV) : calm Tryz.prog (Instr.index 28 (a4 e0 e1 e2 e3) (ii 1)) = some (ivv e1) := by kernel_rfl
theorem ix_2 (e0 e1 e2 e3 : IV) : calm Tryz.prog (Instr.index 28 (a4 e0 e1 e2 e3) (ii 2)) = some (ivv e2) := by kernel_rfl
theorem ix_3 (e0 e1 e2 e3 : IV) : calm Tryz.prog (Instr.index 28 (a4 e0 e1 e2 e3) (ii 3)) = some (ivv e3) := by kernel_rfl
theorem ix_all (a : IV) {i : Nat} (hi : i ≤ 3) : calm Tryz.prog (Instr.index 28 (a4 (cS 0 a) (cS 1 a) (cS 2 a) (cS 3 a)) (ii i)) = some (ivv (cS i a)) := by
  have : i = 0 ∨ i = 1 ∨ i = 2 ∨ i = 3 := by omega
  rcases this with rfl | rfl | rfl | rfl
  · exact ix_0 _ _ _ _
  · exact ix_1 _ _ _ _
  · exact ix_2 _ _ _ _
  · exact ix_3 _ _ _ _
theorem same_held {x y : IV} {v : Rat} (h1 : Hd x v) (h2 : Hd y v) : x.1 ≤ y.2.1 ∧ y.1 ≤ x.2.1 :=
  ⟨Rat.intCast_le_intCast.1 (Rat.le_trans h1.1 h2.2), Rat.intCast_le_intCast.1 (Rat.le_trans h2.1 h1.2)⟩
theorem cI_nat {k : Nat} (hk : k ≤ 3) (a : IV) : cI k a = cS k a := by
  unfold cI
  rw [if_pos (by omega), Int.toNat_natCast]
theorem parts8_walk (p q k : Int) : PureX Tryz.prog 7 #[ii p, ii q, ii k] (rt (bb true)) := by
  have h1 := in16_v p
  have h2 := in16_v q
  have i1 := in16_in p
  have i2 := in16_in q
  generalize qin16 p = q1 at *
  generalize qin16 q = q2 at *
  obtain ⟨i, hi⟩ := Int.eq_ofNat_of_zero_le (kK_in k).1
  have li : i ≤ 3 := by have := (kK_in k).2; omega
  have mm := mM_in i1 i2
  have hm := rmake_v q1 q2
  have am : mkV (mnI q1 q2) (mxI q1 q2) = (mnI q1 q2, mxI q1 q2, false) ∧ holdsV nuV (mnI q1 q2, mxI q1 q2, false) = true ∧ mnI q1 q2 ≤ q1 ∧ q1 ≤ mxI q1 q2 ∧ mnI q1 q2 ≤ q2 ∧ q2 ≤ mxI q1 q2 := by
    have a : -17179869184 ≤ mnI q1 q2 ∧ mnI q1 q2 ≤ mxI q1 q2 ∧ mxI q1 q2 ≤ 17179869184 ∧ mnI q1 q2 ≤ q1 ∧ q1 ≤ mxI q1 q2 ∧ mnI q1 q2 ≤ q2 ∧ q2 ≤ mxI q1 q2 := by
      unfold mnI mxI
      split <;> split <;> omega
    exact ⟨mkV_ok (by omega) (by omega) (by omega), nuV_iff.2 ⟨okV_iff.2 ⟨rfl, by show _ ≤ mnI q1 q2; omega, a.2.1, by show mxI q1 q2 ≤ _; omega⟩, a.1, a.2.2.1⟩, a.2.2.2⟩
  rw [am.1] at hm
  have m1 : -17179869184 ≤ mM q1 q2 ∧ mM q1 q2 ≤ 17179869184 := by
    have := (nuV_iff.1 am.2.1).2
    have h3 : -17179869184 ≤ mnI q1 q2 := this.1
    have h4 : mxI q1 q2 ≤ 17179869184 := this.2
    omega
  have all : ∀ z : Int, mnI q1 q2 ≤ z → z ≤ mxI q1 q2 → Hd (cS i (mnI q1 q2, mxI q1 q2, false)) (uS i z 14) := fun z hz1 hz2 =>
    cS_Hd li am.2.1 (x := (z : Rat)) (Rat.intCast_le_intCast.2 hz1) (Rat.intCast_le_intCast.2 hz2)
  have pts : ∀ z : Int, (-17179869184 ≤ z ∧ z ≤ 17179869184) → okV (cS i (mkV z z)) = true ∧ Hd (cS i (mkV z z)) (uS i z 14) := fun z hz => by
    have hp := pt_nu.2 hz
    refine ⟨(cS_ok li hp).1.1, ?_⟩
    have e := (pt_Inn hz.1 hz.2).1
    exact cS_Hd li hp (x := (z : Rat)) (by rw [e]; exact Rat.le_refl) (by rw [e]; exact Rat.le_refl)
  have oa := (cS_ok li am.2.1).1.1
  have s1 := same_held (all q1 am.2.2.1 am.2.2.2.1) (pts q1 i1).2
  have s2 := same_held (all q2 am.2.2.2.2.1 am.2.2.2.2.2) (pts q2 i2).2
  have s3 := same_held (all _ mm.1 mm.2) (pts _ m1).2
  have c := fun a => c_v (kK k) a
  simp only [hi, cI_nat li] at c
  rw [← hi] at c
  have f := rfine_v3 1004 (cS i (mnI q1 q2, mxI q1 q2, false)) (cS i (mkV q1 q1)) (cS i (mkV q2 q2))
  rw [oa, (pts q1 i1).1, (pts q2 i2).1] at f
  have ix := ix_all (mnI q1 q2, mxI q1 q2, false) li
  rw [← hi] at ix
  have k1 := meets_v oa (pts q1 i1).1 s1.1 s1.2
  have k2 := meets_v oa (pts q2 i2).1 s2.1 s2.2
  have k3 := meets_v oa (pts _ m1).1 s3.1 s3.2
  by_cases t1 : q2 < q1
  · exact runLB_pure mix (l7_a p q k q1 q2 _ _ _ _ _ _ _ _ _ _ _ _) ⟨h1, h2, hm, c _, rpoint_v q1, c _, rpoint_v q2, c _, f, k1, k2, rpoint_v _, c _, k3, decide_eq_true t1, c _, all_v _, ix, eq8 _, wakes8_c, trivial⟩ rfl rfl
  by_cases t2 : 0 < q2
  · exact runLB_pure mix (l7_b p q k q1 q2 _ _ _ _ _ _ _ _ _ _ _ _) ⟨h1, h2, hm, c _, rpoint_v q1, c _, rpoint_v q2, c _, f, k1, k2, rpoint_v _, c _, k3, decide_eq_false t1, decide_eq_true t2, c _, all_v _, ix, eq8 _, wakes8_c, trivial⟩ rfl rfl
  have fall := uS_falls (k := i) (x := (q1 : Rat)) (y := (q2 : Rat)) (Rat.intCast_le_intCast.2 (by omega)) (by exact_mod_cast (show q2 ≤ 0 by omega)) 14
  have t3 : (cS i (mkV q2 q2)).1 ≤ (cS i (mkV q1 q1)).2.1 := Rat.intCast_le_intCast.1 (Rat.le_trans (pts q2 i2).2.1 (Rat.le_trans fall (pts q1 i1).2.2))
  exact runLB_pure mix (l7_c p q k q1 q2 _ _ _ _ _ _ _ _ _ _ _ _) ⟨h1, h2, hm, c _, rpoint_v q1, c _, rpoint_v q2, c _, f, k1, k2, rpoint_v _, c _, k3, decide_eq_false t1, decide_eq_false t2, decide_eq_true t3, c _, all_v _, ix, eq8 _, wakes8_c, trivial⟩ rfl rfl
end Go.Proofs.YtbmekaaekngpbaaGreat
