/- One operation alone is its own sum. -/
import Derived.Test.YtcjjckokaiobcaaDoorZz11
import Derived.Test.YtcjjckokaiobcaaDoorZz5
namespace Go.Proofs.YtcjjckokaiobcaaDoor
open Go Go.RowKit
set_option linter.unusedSimpArgs false
set_option linter.unusedVariables false
set_option maxRecDepth 100000

theorem sg_0 (o : Op3) (kd u d : Int) : runF Tryd.prog 1000 [] 7 #[ov o, uu kd] [] [n, n, n, n, n, t, n, t] [(19, rt (bb false)), (8, rt (bb true))] [(13, rt (tp [ii u, ii d]), [(1001, .cells ⟨flO o⟩ 24 (0, 0))])] [] = some (rt (bb true), [], [CallsV Tryd.prog (.func 13) #[uu kd, slw 1001 0 1 1] [(1001, .cells ⟨flO o⟩ 24 (0, 0))] (rt (tp [ii u, ii d])) [(1001, .cells ⟨flO o⟩ 24 (0, 0))], PureX Tryd.prog 19 #[ov o] (rt (bb false)), (u == 0) = true, (d == 1) = true, PureX Tryd.prog 8 #[] (rt (bb true))]) := by kernel_rfl
theorem sg_1 (o : Op3) (kd u d : Int) : runF Tryd.prog 1000 [] 7 #[ov o, uu kd] [] [n, n, n, n, t, t, n, t] [(19, rt (bb true)), (8, rt (bb true))] [(13, rt (tp [ii u, ii d]), [(1001, .cells ⟨flO o⟩ 24 (0, 0))])] [] = some (rt (bb true), [], [CallsV Tryd.prog (.func 13) #[uu kd, slw 1001 0 1 1] [(1001, .cells ⟨flO o⟩ 24 (0, 0))] (rt (tp [ii u, ii d])) [(1001, .cells ⟨flO o⟩ 24 (0, 0))], PureX Tryd.prog 19 #[ov o] (rt (bb true)), (o.1 != kd) = true, (u == 0) = true, (d == 1) = true, PureX Tryd.prog 8 #[] (rt (bb true))]) := by kernel_rfl
theorem sg_2 (o : Op3) (kd u d : Int) : runF Tryd.prog 1000 [] 7 #[ov o, uu kd] [] [n, n, n, n, f, t, n, n, n, n, n, n, n, n, t, n, n, n, t, n, n, n, n, n, t, n, n, t, n, n, t] [(19, rt (bb true)), (8, rt (bb true))] [(13, rt (tp [ii u, ii d]), [(1001, .cells ⟨flO o⟩ 24 (0, 0))])] [] = some (rt (bb true), [], [CallsV Tryd.prog (.func 13) #[uu kd, slw 1001 0 1 1] [(1001, .cells ⟨flO o⟩ 24 (0, 0))] (rt (tp [ii u, ii d])) [(1001, .cells ⟨flO o⟩ 24 (0, 0))], PureX Tryd.prog 19 #[ov o] (rt (bb true)), (o.1 != kd) = false, decide (1 ≤ d) = true, (wi (u * o.2.2) == wi (o.2.1 * d)) = true, decide (d ≤ o.2.2) = true, (decide (u < 0) == decide (o.2.1 < 0)) = true, decide (1 ≤ o.1) = true, decide (o.1 < 4) = true, PureX Tryd.prog 8 #[] (rt (bb true))]) := by kernel_rfl
theorem tot_1 (kd : Int) (o : Op3) : CallsV Tryd.prog (.func 13) #[uu kd, slw 1001 0 1 1] [(1001, .cells ⟨flO o⟩ 24 (0, 0))] (rt (tp [ii (totV kd [o]).1, ii (totV kd [o]).2])) [(1001, .cells ⟨flO o⟩ 24 (0, 0))] :=
  semA_calls (s := slw 1001 0 1 1) (tot_s kd [o]) (fun _ _ => rfl) rfl (fun _ _ hR => lk_cells (K := KO) (L := [o]) (T := 24) hR rfl (Nat.le_refl 1) (by decide))
theorem stp_mul {u d : Int} {o : Op3} : gcdS u d o * stpN u d o = numS u d o ∧ gcdS u d o * stpD u d o = denS d o := by
  have h1 : gcdS u d o ∣ numS u d o := Int.gcd_dvd_left ..
  have h2 : gcdS u d o ∣ denS d o := Int.gcd_dvd_right ..
  exact ⟨Int.mul_tdiv_cancel' h1, Int.mul_tdiv_cancel' h2⟩
/-- A fraction that is right, and its lowest terms, tell the same. -/
theorem signs_ok (o : Op3) (kd : Int) : PureX Tryd.prog 7 #[ov o, uu kd] (rt (bb true)) := by
  have ht := tot_1 kd o
  by_cases hr : rightB o = true
  case neg =>
    have hr' : rightB o = false := by simpa using hr
    have e : totV kd [o] = (0, 1) := by simp [totV, totF, hitB, hr']
    rw [e] at ht
    exact runF_pure mix (sg_0 o kd 0 1) ⟨ht, (right_v o).is (by rw [hr']), rfl, rfl, wakes_c, trivial⟩ rfl rfl
  by_cases hk : o.1 = kd
  case neg =>
    have e : totV kd [o] = (0, 1) := by simp [totV, totF, hitB, hk]
    rw [e] at ht
    exact runF_pure mix (sg_1 o kd 0 1) ⟨ht, (right_v o).is (by rw [hr]), by simpa using hk, rfl, rfl, wakes_c, trivial⟩ rfl rfl
  obtain ⟨r1, r2, r3, r4, r5, r6⟩ := rightB_is hr
  have hn : numS 0 1 o = o.2.1 := by unfold numS; omega
  have hd : denS 1 o = o.2.2 := by unfold denS; omega
  obtain ⟨m1, m2⟩ := stp_mul (u := 0) (d := 1) (o := o)
  rw [hn] at m1
  rw [hd] at m2
  have hg := gcd_pos inv_0 hr
  have hp := stpD_pos inv_0 hr
  have b1 := tdiv_bd (a := numS 0 1 o) hg
  have b2 := tdiv_bd (a := denS 1 o) hg
  rw [hn] at b1
  rw [hd] at b2
  have b1' : (stpN 0 1 o).natAbs ≤ o.2.1.natAbs := by unfold stpN; rw [hn]; exact b1
  have b2' : (stpD 0 1 o).natAbs ≤ o.2.2.natAbs := by unfold stpD; rw [hd]; exact b2
  have hc : cntB (stpN 0 1 o) (stpD 0 1 o) = true := by
    simp only [cntB, Bool.and_eq_true, decide_eq_true_eq]
    omega
  have e : totV kd [o] = (stpN 0 1 o, stpD 0 1 o) := by
    have hh : hitB kd o = true := by simp [hitB, hr, hk]
    simp [totV, totF, hh, hc]
  rw [e] at ht
  generalize stpN 0 1 o = u at *
  generalize stpD 0 1 o = d at *
  generalize gcdS 0 1 o = g at *
  have e1 : u * o.2.2 = o.2.1 * d := by rw [← m1, ← m2]; grind
  refine runF_pure mix (sg_2 o kd u d) ⟨ht, (right_v o).is (by rw [hr]), by simp [hk], decide_eq_true hp, by rw [e1]; simp, decide_eq_true (by omega), ?_, decide_eq_true r1, decide_eq_true r2, wakes_c, trivial⟩ rfl rfl
  have : u < 0 ↔ o.2.1 < 0 := by
    constructor
    · intro h
      have := Int.mul_pos (show 0 < g by omega) (show 0 < -u by omega)
      rw [Int.mul_neg] at this
      omega
    · intro h
      by_cases h2 : u < 0
      · exact h2
      · have := Int.mul_nonneg (show 0 ≤ g by omega) (show 0 ≤ u by omega)
        omega
  simp [this]

end Go.Proofs.YtcjjckokaiobcaaDoor
