/- Texts of the seat, joined. -/
import Derived.Test.YtcmfgabhgodlaaaGreatDoorZz38
import Derived.Test.YtcmfgabhgodlaaaGreatDoorZz37
/- The document's pulls: what they come to. -/
namespace Go.Proofs.YtcmfgabhgodlaaaGreatDoor
open Go Go.RowKit
set_option linter.unusedSimpArgs false
set_option linter.unusedVariables false
set_option maxRecDepth 100000

/-- Half a fraction's root, the document's. -/
theorem dhalf_v {x y : Nat} (hx : x < 57896044618658097711785492504343953926634992332820282019728792003956564819968) (hy : y < 57896044618658097711785492504343953926634992332820282019728792003956564819968) (hy0 : 0 < y) : PureX Tryz.prog 22 #[wz (x : Int), wz (y : Int)] (rt (tp [wz (((isq (x / y) + 1) / 2 : Nat) : Int), ii 0])) := by
  have ha := inN hx
  have hb := inN hy
  have h0 : (y : Int) ≠ 0 := by omega
  have e0 := eqv_false hb (y := 0) (by decide) h0
  have hq : x / y < 57896044618658097711785492504343953926634992332820282019728792003956564819968 := Nat.lt_of_le_of_lt (Nat.div_le_self _ _) hx
  have F := dFloor_z plain_ok ha hb (nat_in hx).2 (nat_in hy).2 h0
  rw [flI_nat hy0] at F
  have d := runB_pure mix (dof_ok (nz (x : Int)) (nz (y : Int)) _ _ _ _) ⟨e0, rsign_z ha, sg_non (by omega), rsign_z hb, sg_non (by omega), F, dfl_z hq, trivial⟩ rfl rfl
  have hl := isq_in hq
  have hA := radd_z (inN (show isq (x / y) < 57896044618658097711785492504343953926634992332820282019728792003956564819968 by omega)) (show inR (1 : Int) by unfold inR; omega)
  rw [show (isq (x / y) : Int) + 1 = ((isq (x / y) + 1 : Nat) : Int) by omega] at hA
  have F2 := dFloor_z plain_ok (inN hl) (show inR (2 : Int) by unfold inR; omega) (nat_in hl).2 (show (2 : Int) ≠ lst by unfold lst; decide) (by decide)
  have e2 : flI ((isq (x / y) + 1 : Nat) : Int) 2 = (((isq (x / y) + 1) / 2 : Nat) : Int) := flI_nat (y := 2) (by decide)
  rw [e2] at F2
  exact runB_pure mix (dha_ok (nz (x : Int)) (nz (y : Int)) _ _ _ _ _ _) ⟨d, rof_z (show (-9223372036854775808 : Int) ≤ 1 by decide) (by decide), hA, rof_z (show (-9223372036854775808 : Int) ≤ 2 by decide) (by decide), F2, trivial⟩ rfl rfl

theorem bet_v (v lo hi : Int) : PureX Tryz.prog 16 #[ii v, ii lo, ii hi] (rt (bb (decide (lo ≤ v ∧ v ≤ hi)))) := by
  by_cases h : lo ≤ v
  · have k := runF_pure mix (bet_t v lo hi) ⟨decide_eq_true h, trivial⟩ rfl rfl
    rw [show decide (v ≤ hi) = decide (lo ≤ v ∧ v ≤ hi) by rw [decide_eq_decide]; omega] at k
    exact k
  · have k := runF_pure mix (bet_f v lo hi) ⟨decide_eq_false h, trivial⟩ rfl rfl
    rw [show decide (lo ≤ v ∧ v ≤ hi) = false from decide_eq_false (by omega)]
    exact k
theorem bt {v lo hi : Int} (h : lo ≤ v ∧ v ≤ hi) : PureX Tryz.prog 16 #[ii v, ii lo, ii hi] (rt (bb true)) := by
  have k := bet_v v lo hi
  rw [decide_eq_true h] at k
  exact k
theorem bf {v lo hi : Int} (h : ¬ (lo ≤ v ∧ v ≤ hi)) : PureX Tryz.prog 16 #[ii v, ii lo, ii hi] (rt (bb false)) := by
  have k := bet_v v lo hi
  rw [decide_eq_false h] at k
  exact k
/-- Square. -/
theorem dsq_v (x y z : Int) : PureX Tryz.prog 5 #[vc x y z] (rt (tp [ii (if okW x y z then sqI x y z else 0), ii (if okW x y z then 0 else 2)])) := by
  by_cases h : okW x y z
  · rw [if_pos h, if_pos h]
    obtain ⟨h1, h2, h3, h4, h5, h6⟩ := sq_facts h
    have r := runF_pure mix (dsq_ok x y z) ⟨bt h.1, bt h.2.1, bt h.2.2, trivial⟩ rfl rfl
    have e1 : wi (x * x) = x * x := wi_of (by unfold isI; omega)
    have e2 : wi (y * y) = y * y := wi_of (by unfold isI; omega)
    have e3 : wi (z * z) = z * z := wi_of (by unfold isI; omega)
    rw [e1, e2, e3, Int.zero_add, e1, wi_of (x := x * x + y * y) (by unfold isI; omega), wi_of (x := x * x + y * y + z * z) (by unfold isI; omega)] at r
    exact r
  · rw [if_neg h, if_neg h]
    unfold okW at h
    by_cases hx : -2097152 ≤ x ∧ x ≤ 2097152
    case neg => exact runF_pure mix (dsq_0 x y z) ⟨bf hx, trivial⟩ rfl rfl
    by_cases hy : -2097152 ≤ y ∧ y ≤ 2097152
    case neg => exact runF_pure mix (dsq_1 x y z) ⟨bt hx, bf hy, trivial⟩ rfl rfl
    exact runF_pure mix (dsq_2 x y z) ⟨bt hx, bt hy, bf (by omega), trivial⟩ rfl rfl
/-- One's error. -/
theorem dmay_v (n d g m x s : Int) : PureX Tryz.prog 19 #[ii n, ii d, ii g, ii m, ii x, ii s] (rt (ii (alE n d g m x s))) := by
  by_cases hn : -2097152 ≤ n ∧ n ≤ 2097152
  case neg => rw [show alE n d g m x s = 2 by unfold alE; rw [if_neg (by unfold okA; omega)]]; exact runF_pure mix (dmay_0 n d g m x s) ⟨bf hn, trivial⟩ rfl rfl
  by_cases hd : 1 ≤ d ∧ d ≤ 2097152
  case neg => rw [show alE n d g m x s = 2 by unfold alE; rw [if_neg (by unfold okA; omega)]]; exact runF_pure mix (dmay_1 n d g m x s) ⟨bt hn, bf hd, trivial⟩ rfl rfl
  by_cases hg : 1 ≤ g ∧ g ≤ 1048576
  case neg => rw [show alE n d g m x s = 2 by unfold alE; rw [if_neg (by unfold okA; omega)]]; exact runF_pure mix (dmay_2 n d g m x s) ⟨bt hn, bt hd, bf hg, trivial⟩ rfl rfl
  by_cases hm : 1 ≤ m ∧ m ≤ 1024
  case neg => rw [show alE n d g m x s = 2 by unfold alE; rw [if_neg (by unfold okA; omega)]]; exact runF_pure mix (dmay_3 n d g m x s) ⟨bt hn, bt hd, bt hg, bf hm, trivial⟩ rfl rfl
  by_cases hx : -2097152 ≤ x ∧ x ≤ 2097152
  case neg => rw [show alE n d g m x s = 2 by unfold alE; rw [if_neg (by unfold okA; omega)]]; exact runF_pure mix (dmay_4 n d g m x s) ⟨bt hn, bt hd, bt hg, bt hm, bf hx, trivial⟩ rfl rfl
  by_cases hs : 0 ≤ s ∧ s ≤ 13194139533312
  case neg => rw [show alE n d g m x s = 2 by unfold alE; rw [if_neg (by unfold okA; omega)]]; exact runF_pure mix (dmay_5 n d g m x s) ⟨bt hn, bt hd, bt hg, bt hm, bt hx, bf hs, trivial⟩ rfl rfl
  have ok : okA n d g m x s := ⟨hn, hd, hg, hm, hx, hs⟩
  have xx := sqr_le (x := x) (X := 2097152) (by omega)
  have wx : wi (x * x) = x * x := wi_of (by unfold isI; omega)
  unfold alE
  rw [if_pos ok]
  by_cases h0 : s = 0
  · rw [if_pos h0]
    exact runF_pure mix (dmay_z n d g m x s) ⟨bt hn, bt hd, bt hg, bt hm, bt hx, bt hs, by simp [h0], trivial⟩ rfl rfl
  · rw [if_neg h0]
    by_cases h1 : s < x * x
    · rw [if_pos h1]
      exact runF_pure mix (dmay_x n d g m x s) ⟨bt hn, bt hd, bt hg, bt hm, bt hx, bt hs, by simp [h0], by rw [wx]; exact decide_eq_true h1, trivial⟩ rfl rfl
    · rw [if_neg h1]
      exact runF_pure mix (dmay_ok n d g m x s) ⟨bt hn, bt hd, bt hg, bt hm, bt hx, bt hs, by simp [h0], by rw [wx]; exact decide_eq_false h1, trivial⟩ rfl rfl

abbrev maxR : Nat := 57896044618658097711785492504343953926634992332820282019728792003956564819967
theorem mulD {x y z : Int} {X Y : Nat} (hx : x.natAbs ≤ X) (hy : y.natAbs ≤ Y) (hXY : X * Y ≤ maxR) (hX : X ≤ maxR) (hY : Y ≤ maxR) (e : x * y = z) : PureX Tryz.prog 38 #[wz x, wz y] (rt (tp [wz z, bb false])) := by
  have h := rmul_z (inR_abs (Nat.le_trans hx hX)) (inR_abs (Nat.le_trans hy hY))
  have k := inR_abs (Nat.le_trans (mb hx hy) hXY)
  rw [decide_eq_false (fun c => c k), e] at h
  exact h
theorem ofD {x : Int} (h : x.natAbs ≤ 9223372036854775807) : PureX Tryz.prog 39 #[ii x] (rt (wz x)) := rof_z (by omega) (by omega)
theorem isq_nil : isq 0 = 0 := by
  have h := (isq_ok (x := 0) (by decide)).1
  rcases Nat.eq_zero_or_pos (isq 0) with h1 | h1
  · exact h1
  · have := Nat.mul_pos h1 h1
    omega
theorem plH_nil {n d g m x s : Int} (h : plA n g m x = 0) : plH n d g m x s = 0 := by
  unfold plH
  rw [h, Nat.zero_div, isq_nil]
theorem plA_x0 (n g m : Int) : plA n g m 0 = 0 := by unfold plA; simp
theorem plA_n0 (g m x : Int) : plA 0 g m x = 0 := by unfold plA; simp

set_option maxHeartbeats 1000000 in
/-- One, of what may be asked. -/
theorem done_v {n d g m x s : Int} (h : okA n d g m x s) (hs : 0 < s) (hx : x * x ≤ s) : PureX Tryz.prog 7 #[ii n, ii d, ii g, ii m, ii x, ii s] (rt (tp [ii (plK n d g m x s), ii 0])) := by
  have hM := dmay_v n d g m x s
  rw [alE_ok h hs hx] at hM
  have hn : n.natAbs ≤ 2097152 := by unfold okA at h; omega
  have hd : d.natAbs ≤ 2097152 := by unfold okA at h; omega
  have hg : g.natAbs ≤ 1048576 := by unfold okA at h; omega
  have hm : m.natAbs ≤ 1024 := by unfold okA at h; omega
  have hX : x.natAbs ≤ 2097152 := by unfold okA at h; omega
  have hS : s.natAbs ≤ 13194139533312 := by unfold okA at h; omega
  obtain ⟨f1, f2, f3, f4, f5, f6, f7⟩ := pl_facts h hs hx
  have f6' : 2 * n * g * m * x * (2 * n * g * m * x) = (plA n g m x : Int) := by rw [← f6]; grind
  have hh : PureX Tryz.prog 22 #[wz (plA n g m x : Int), wz (plD d s : Int)] (rt (tp [wz (plH n d g m x s : Int), ii 0])) := by
    unfold plH
    exact dhalf_v (Nat.lt_of_le_of_lt f2 (by decide)) (Nat.lt_of_le_of_lt f3 (by decide)) f4
  have zn : n = 0 → plH n d g m x s = 0 := fun e => by rw [e]; exact plH_nil (plA_n0 g m x)
  have zx : x = 0 → plH n d g m x s = 0 := fun e => by rw [e]; exact plH_nil (plA_x0 n g m)
  have eK : plK n d g m x s = if decide (n < 0) == decide (x < 0) then (plH n d g m x s : Int) else -(plH n d g m x s : Int) := rfl
  rw [eK]
  clear eK f1 f6
  generalize plH n d g m x s = H at *
  generalize plA n g m x = NA at *
  generalize plD d s = NB at *
  have q1 := mb (x := 2) (X := 2) (by decide) hn
  have q2 := mb q1 hg
  have q3 := mb q2 hm
  have q4 := mb q3 hX
  have r1 := mb hd hd
  have r2 := mb r1 hS
  have r3 := mb r2 hS
  have H5 : (H : Int).natAbs ≤ 2251799813685248 := by rw [Int.natAbs_natCast]; exact f5
  have hI := dint_ok (isI_abs (x := (H : Int)) (Nat.le_trans H5 (by decide)))
  have hneg : wi (0 - (H : Int)) = -(H : Int) := by
    rw [Int.zero_sub]
    exact wi_of (isI_abs (by rw [Int.natAbs_neg]; exact Nat.le_trans H5 (by decide)))
  have o1 := ofD (x := 1) (by decide)
  have o2 := ofD (x := 2) (by decide)
  have on := ofD (Nat.le_trans hn (by decide))
  have od := ofD (Nat.le_trans hd (by decide))
  have og := ofD (Nat.le_trans hg (by decide))
  have om := ofD (Nat.le_trans hm (by decide))
  have ox := ofD (Nat.le_trans hX (by decide))
  have os := ofD (Nat.le_trans hS (by decide))
  have p1 := mulD (x := 1) (y := 2) (X := 1) (Y := 2) (by decide) (by decide) (by decide) (by decide) (by decide) rfl
  have p2 := mulD (x := 2) (X := 2) (by decide) hn (by decide) (by decide) (by decide) rfl
  have p3 := mulD q1 hg (by decide) (by decide) (by decide) rfl
  have p4 := mulD q2 hm (by decide) (by decide) (by decide) rfl
  have p5 := mulD q3 hX (by decide) (by decide) (by decide) rfl
  have p6 := mulD q4 q4 (by decide) (by decide) (by decide) f6'
  have s1 := mulD (x := 1) (X := 1) (by decide) hd (by decide) (by decide) (by decide) (Int.one_mul d)
  have s2 := mulD hd hd (by decide) (by decide) (by decide) rfl
  have s3 := mulD r1 hS (by decide) (by decide) (by decide) rfl
  have s4 := mulD r2 hS (by decide) (by decide) (by decide) rfl
  have s5 := mulD r3 hS (by decide) (by decide) (by decide) f7
  by_cases hn0 : n < 0
  · by_cases hx0 : 0 < x
    · rw [decide_eq_true hn0, decide_eq_false (show ¬ x < 0 by omega), if_neg (by decide), ← hneg]
      exact runF_pure mix (done_w1 n d g m x s 0 (H : Int) (nz (NA : Int)) (nz (H : Int)) (nz 1) (nz 2) (nz 2) (nz n) (nz (2 * n)) (nz g) (nz (2 * n * g)) (nz m) (nz (2 * n * g * m)) (nz x) (nz (2 * n * g * m * x)) (nz 1) (nz d) (nz d) (nz d) (nz (d * d)) (nz s) (nz (d * d * s)) (nz s) (nz (d * d * s * s)) (nz s) (nz (NB : Int)) false true false false false false false false false false false false) ⟨hM, o1, o2, p1, on, p2, og, p3, om, p4, ox, p5, p6, o1, od, s1, od, s2, os, s3, os, s4, os, s5, hh, hI, decide_eq_true (show n < 0 by omega), decide_eq_true (show 0 < x by omega), trivial⟩ rfl rfl
    · have e : (if decide (n < 0) == decide (x < 0) then (H : Int) else -(H : Int)) = (H : Int) := by
        by_cases hx1 : x < 0
        · rw [decide_eq_true hn0, decide_eq_true hx1, if_pos (by rfl)]
        · rw [zx (by omega)]; split <;> rfl
      rw [e]
      exact runF_pure mix (done_w2 n d g m x s 0 (H : Int) (nz (NA : Int)) (nz (H : Int)) (nz 1) (nz 2) (nz 2) (nz n) (nz (2 * n)) (nz g) (nz (2 * n * g)) (nz m) (nz (2 * n * g * m)) (nz x) (nz (2 * n * g * m * x)) (nz 1) (nz d) (nz d) (nz d) (nz (d * d)) (nz s) (nz (d * d * s)) (nz s) (nz (d * d * s * s)) (nz s) (nz (NB : Int)) false true false false false false false false false false false false) ⟨hM, o1, o2, p1, on, p2, og, p3, om, p4, ox, p5, p6, o1, od, s1, od, s2, os, s3, os, s4, os, s5, hh, hI, decide_eq_true (show n < 0 by omega), decide_eq_false (show ¬ 0 < x by omega), decide_eq_false (show ¬ 0 < n by omega), trivial⟩ rfl rfl
  · by_cases hn1 : 0 < n
    · by_cases hx0 : x < 0
      · rw [decide_eq_false hn0, decide_eq_true hx0, if_neg (by decide), ← hneg]
        exact runF_pure mix (done_w3 n d g m x s 0 (H : Int) (nz (NA : Int)) (nz (H : Int)) (nz 1) (nz 2) (nz 2) (nz n) (nz (2 * n)) (nz g) (nz (2 * n * g)) (nz m) (nz (2 * n * g * m)) (nz x) (nz (2 * n * g * m * x)) (nz 1) (nz d) (nz d) (nz d) (nz (d * d)) (nz s) (nz (d * d * s)) (nz s) (nz (d * d * s * s)) (nz s) (nz (NB : Int)) false true false false false false false false false false false false) ⟨hM, o1, o2, p1, on, p2, og, p3, om, p4, ox, p5, p6, o1, od, s1, od, s2, os, s3, os, s4, os, s5, hh, hI, decide_eq_false (show ¬ n < 0 by omega), decide_eq_true (show 0 < n by omega), decide_eq_true (show x < 0 by omega), trivial⟩ rfl rfl
      · rw [decide_eq_false hn0, decide_eq_false hx0, if_pos (by rfl)]
        exact runF_pure mix (done_w4 n d g m x s 0 (H : Int) (nz (NA : Int)) (nz (H : Int)) (nz 1) (nz 2) (nz 2) (nz n) (nz (2 * n)) (nz g) (nz (2 * n * g)) (nz m) (nz (2 * n * g * m)) (nz x) (nz (2 * n * g * m * x)) (nz 1) (nz d) (nz d) (nz d) (nz (d * d)) (nz s) (nz (d * d * s)) (nz s) (nz (d * d * s * s)) (nz s) (nz (NB : Int)) false true false false false false false false false false false false) ⟨hM, o1, o2, p1, on, p2, og, p3, om, p4, ox, p5, p6, o1, od, s1, od, s2, os, s3, os, s4, os, s5, hh, hI, decide_eq_false (show ¬ n < 0 by omega), decide_eq_true (show 0 < n by omega), decide_eq_false (show ¬ x < 0 by omega), trivial⟩ rfl rfl
    · have e : (if decide (n < 0) == decide (x < 0) then (H : Int) else -(H : Int)) = (H : Int) := by
        rw [zn (by omega)]; split <;> rfl
      rw [e]
      exact runF_pure mix (done_w5 n d g m x s 0 (H : Int) (nz (NA : Int)) (nz (H : Int)) (nz 1) (nz 2) (nz 2) (nz n) (nz (2 * n)) (nz g) (nz (2 * n * g)) (nz m) (nz (2 * n * g * m)) (nz x) (nz (2 * n * g * m * x)) (nz 1) (nz d) (nz d) (nz d) (nz (d * d)) (nz s) (nz (d * d * s)) (nz s) (nz (d * d * s * s)) (nz s) (nz (NB : Int)) false true false false false false false false false false false false) ⟨hM, o1, o2, p1, on, p2, og, p3, om, p4, ox, p5, p6, o1, od, s1, od, s2, os, s3, os, s4, os, s5, hh, hI, decide_eq_false (show ¬ n < 0 by omega), decide_eq_false (show ¬ 0 < n by omega), trivial⟩ rfl rfl
theorem done_n {n d g m x s : Int} (h : alE n d g m x s ≠ 0) : PureX Tryz.prog 7 #[ii n, ii d, ii g, ii m, ii x, ii s] (rt (tp [ii 0, ii (alE n d g m x s)])) := by
  have hM := dmay_v n d g m x s
  generalize alE n d g m x s = e at *
  exact runF_pure mix (done_e n d g m x s e) ⟨hM, by simpa using h, trivial⟩ rfl rfl
/-- Pull. -/
theorem dpull_n {n d g m x y z : Int} (h : puE n d g m x y z ≠ 0) : PureX Tryz.prog 9 #[ii n, ii d, ii g, ii m, vc x y z] (rt (tp [vc 0 0 0, ii (puE n d g m x y z)])) := by
  unfold puE at h ⊢
  have hs := dsq_v x y z
  by_cases hv : okW x y z
  · rw [if_pos hv] at h ⊢
    rw [if_pos hv, if_pos hv] at hs
    have h1 := done_n h
    generalize alE n d g m x (sqI x y z) = e at *
    exact runF_pure mix (dpul_e n d g m x y z _ 0 e) ⟨hs, h1, by simpa using h, trivial⟩ rfl rfl
  · rw [if_neg hv]
    rw [if_neg hv, if_neg hv] at hs
    exact runF_pure mix (dpul_s n d g m x y z 0 2) ⟨hs, rfl, trivial⟩ rfl rfl
theorem dpull_ok {n d g m x y z : Int} (h : okP n d g m x y z) : PureX Tryz.prog 9 #[ii n, ii d, ii g, ii m, vc x y z]
    (rt (tp [vc (plK n d g m x (sqI x y z)) (plK n d g m y (sqI x y z)) (plK n d g m z (sqI x y z)), ii 0])) := by
  obtain ⟨h1, h2, h3, h4, h5, h6, h7, _⟩ := okP_facts h
  have hs := dsq_v x y z
  rw [if_pos h.2.2.2.2.1, if_pos h.2.2.2.2.1] at hs
  have k1 := done_v h5 h1 h2
  have k2 := done_v h6 h1 h3
  have k3 := done_v h7 h1 h4
  exact runF_pure mix (dpul_ok n d g m x y z _ _ _ _) ⟨hs, k1, k2, k3, trivial⟩ rfl rfl
/-- Who is told no error may ask. -/
theorem puE_ok {n d g m x y z : Int} (h : puE n d g m x y z = 0) : okP n d g m x y z := by
  unfold puE at h
  split at h
  · rename_i hv
    rcases al_split n d g m x (sqI x y z) with ⟨_, ⟨a1, a2, a3, a4, _⟩, h2, _⟩ | h1
    · refine ⟨a1, a2, a3, a4, hv, fun ⟨e1, e2, e3⟩ => ?_⟩
      subst e1 e2 e3
      simp [sqI] at h2
    · exact absurd h h1
  · cases h
/-- Beyond. -/
theorem dbey_v (n d g m s : Int) : PureX Tryz.prog 11 #[ii n, ii d, ii g, ii m, ii s] (rt (bb (decide (alE n d g m 0 s = 0) && bySq n d g m s))) := by
  have hM := dmay_v n d g m 0 s
  rcases al_split n d g m 0 s with ⟨he, h, hs, _⟩ | he
  · rw [he] at hM ⊢
    rw [decide_eq_true rfl, Bool.true_and]
    have hn : n.natAbs ≤ 2097152 := by unfold okA at h; omega
    have hd : d.natAbs ≤ 2097152 := by unfold okA at h; omega
    have hg : g.natAbs ≤ 1048576 := by unfold okA at h; omega
    have hm : m.natAbs ≤ 1024 := by unfold okA at h; omega
    have hS : s.natAbs ≤ 13194139533312 := by unfold okA at h; omega
    have q1 := mb (x := 2) (X := 2) (by decide) hn
    have q2 := mb q1 hg
    have q3 := mb q2 hm
    have r1 := mb hd hS
    have p1 := mulD (x := 1) (y := 2) (X := 1) (Y := 2) (by decide) (by decide) (by decide) (by decide) (by decide) rfl
    have p2 := mulD (x := 2) (X := 2) (by decide) hn (by decide) (by decide) (by decide) rfl
    have p3 := mulD q1 hg (by decide) (by decide) (by decide) rfl
    have p4 := mulD q2 hm (by decide) (by decide) (by decide) rfl
    have p6 := mulD q3 q3 (by decide) (by decide) (by decide) rfl
    have s1 := mulD (x := 1) (X := 1) (by decide) hd (by decide) (by decide) (by decide) (Int.one_mul d)
    have s2 := mulD hd hS (by decide) (by decide) (by decide) rfl
    have s3 := mulD r1 r1 (by decide) (by decide) (by decide) rfl
    have hc := rcmp_z (x := 2 * n * g * m * (2 * n * g * m)) (y := d * s * (d * s)) (inR_abs (Nat.le_trans (mb q3 q3) (by decide))) (inR_abs (Nat.le_trans (mb r1 r1) (by decide)))
    have key := runF_pure mix (dbey_ok n d g m s _ (nz (2 * n * g * m * (2 * n * g * m))) (nz (d * s * (d * s))) (nz 1) (nz 2) (nz 2) (nz n) (nz (2 * n)) (nz g) (nz (2 * n * g)) (nz m) (nz (2 * n * g * m)) (nz 1) (nz d) (nz d) (nz s) (nz (d * s)) false false false false false false false false)
      ⟨hM, ofD (x := 1) (by decide), ofD (x := 2) (by decide), p1, ofD (Nat.le_trans hn (by decide)), p2, ofD (Nat.le_trans hg (by decide)), p3, ofD (Nat.le_trans hm (by decide)), p4, p6, ofD (x := 1) (by decide), ofD (Nat.le_trans hd (by decide)), s1, ofD (Nat.le_trans hS (by decide)), s2, s3, hc, trivial⟩ rfl rfl
    have e : decide ((2 * n * g * m * (2 * n * g * m) - d * s * (d * s)).sign < 0) = bySq n d g m s := by
      unfold bySq
      rw [show d * s * (d * s) = d * d * s * s by grind]
      generalize 2 * n * g * m * (2 * n * g * m) = p
      generalize d * d * s * s = q
      rcases Int.lt_trichotomy p q with h | h | h
      · rw [Int.sign_eq_neg_one_of_neg (by omega)]; simp [h]
      · rw [h, Int.sub_self]; simp
      · rw [Int.sign_eq_one_of_pos (by omega)]; simp; omega
    rw [e] at key
    exact key
  · have ef : (decide (alE n d g m 0 s = 0) && bySq n d g m s) = false := by rw [decide_eq_false he]; rfl
    rw [ef]
    generalize alE n d g m 0 s = e at *
    exact runF_pure mix (dbey_e n d g m s e) ⟨hM, by simpa using he, trivial⟩ rfl rfl

end Go.Proofs.YtcmfgabhgodlaaaGreatDoor
