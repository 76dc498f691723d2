/- QuotNear, walked. -/
import Derived.Test.YtpbhoamojocbpaaL6
namespace Go.Proofs.Ytpbhoamojocbpaa
open Go Go.RowKit
set_option linter.unusedSimpArgs false
set_option linter.unusedVariables false

theorem size81n (x y : Nat) (o : Bool) : runA Try.prog 81 #[wv x] [] [(32, rt (.int .i64 (-1))), (34, rt (tp [wv y, bb (o)]))] =
    some (rt (wv y), [PureX Try.prog 32 #[wv x] (rt (.int .i64 (-1))), PureX Try.prog 34 #[wv x] (rt (tp [wv y, bb (o)]))]) := by kernel_rfl
theorem size81p (x : Nat) (k : Int) : runA Try.prog 81 #[wv x] [f] [(32, rt (.int .i64 k))] =
    some (rt (wv x), [PureX Try.prog 32 #[wv x] (rt (.int .i64 k)), (decide (k < 0)) = false]) := by kernel_rfl
theorem near35a (a b m p d sb sd le : Nat) (o1 o2 o3 : Bool) (c : Int) : runA Try.prog 35 #[wv a, wv b, wv m] [t, n, n, n] [(28, rt (tp [wv p, bb (o1)])), (30, rt (tp [wv d, bb (o2)])), (81, rt (wv sb)), (81, rt (wv sd)), (30, rt (tp [wv le, bb (o3)])), (81, rt (wv sd)), (33, rt (.int .i64 (c)))] =
    some (rt (bb (true)), [PureX Try.prog 28 #[wv m, wv b] (rt (tp [wv p, bb (o1)])), PureX Try.prog 30 #[wv a, wv p] (rt (tp [wv d, bb (o2)])), PureX Try.prog 81 #[wv b] (rt (wv sb)), PureX Try.prog 81 #[wv d] (rt (wv sd)), PureX Try.prog 30 #[wv sb, wv sd] (rt (tp [wv le, bb (o3)])), PureX Try.prog 81 #[wv d] (rt (wv sd)), PureX Try.prog 33 #[wv sd, wv le] (rt (.int .i64 (c))), (decide (c < 0)) = true]) := by kernel_rfl
theorem near35b (a b m p d sb sd le : Nat) (o1 o2 o3 : Bool) (c s1 s2 : Int) : runA Try.prog 35 #[wv a, wv b, wv m] [f, n, n, t, n, n, n, n, n, n] [(28, rt (tp [wv p, bb (o1)])), (30, rt (tp [wv d, bb (o2)])), (81, rt (wv sb)), (81, rt (wv sd)), (30, rt (tp [wv le, bb (o3)])), (81, rt (wv sd)), (33, rt (.int .i64 (c))), (32, rt (.int .i64 (s1))), (32, rt (.int .i64 (s2)))] =
    some (rt (bb (s1 == IntKind.i64.wrap (0 - s2))), [PureX Try.prog 28 #[wv m, wv b] (rt (tp [wv p, bb (o1)])), PureX Try.prog 30 #[wv a, wv p] (rt (tp [wv d, bb (o2)])), PureX Try.prog 81 #[wv b] (rt (wv sb)), PureX Try.prog 81 #[wv d] (rt (wv sd)), PureX Try.prog 30 #[wv sb, wv sd] (rt (tp [wv le, bb (o3)])), PureX Try.prog 81 #[wv d] (rt (wv sd)), PureX Try.prog 33 #[wv sd, wv le] (rt (.int .i64 (c))), (decide (c < 0)) = false, (c == 0) = true, PureX Try.prog 32 #[wv d] (rt (.int .i64 (s1))), PureX Try.prog 32 #[wv a] (rt (.int .i64 (s2)))]) := by kernel_rfl
theorem l5_zero (a b : Nat) : runA Try.prog 5 #[wv a, wv b] [n, n, n, n, n, n, n, n, n, n, t] [(16, rt (tp [wv 0, .int .i64 (30)])), (12, rt (tp [wv 0, .int .i64 (30)])), (14, rt (tp [wv 0, .int .i64 (30)])), (26, rt (bb (true)))] =
    some (rt (bb (true)), [PureX Try.prog 16 #[wv a, wv b] (rt (tp [wv 0, .int .i64 (30)])), PureX Try.prog 12 #[wv a, wv b] (rt (tp [wv 0, .int .i64 (30)])), PureX Try.prog 14 #[wv a, wv b] (rt (tp [wv 0, .int .i64 (30)])), (eqv b 0 == ((30 : Int) == 30)) = true, PureX Try.prog 26 #[] (rt (bb (true)))]) := by kernel_rfl
theorem l5_over (a b : Nat) : runA Try.prog 5 #[wv a, wv b] [n, n, n, n, n, n, n, n, n, n, t] [(16, rt (tp [wv 0, .int .i64 (20)])), (12, rt (tp [wv 0, .int .i64 (20)])), (14, rt (tp [wv 0, .int .i64 (20)])), (26, rt (bb (true)))] =
    some (rt (bb (true)), [PureX Try.prog 16 #[wv a, wv b] (rt (tp [wv 0, .int .i64 (20)])), PureX Try.prog 12 #[wv a, wv b] (rt (tp [wv 0, .int .i64 (20)])), PureX Try.prog 14 #[wv a, wv b] (rt (tp [wv 0, .int .i64 (20)])), (eqv b 0 == ((20 : Int) == 30)) = true, PureX Try.prog 26 #[] (rt (bb (true)))]) := by kernel_rfl
theorem l5_mainq (a b nn q c x y m o p s : Nat) (o1 o2 o3 : Bool) : runA Try.prog 5 #[wv a, wv b] [n, n, n, n, n, t, n, n, n, n, n, n, n, n, n, n, n, n, n, n, n, n, t, n, n, t, n, n, t] [(16, rt (tp [wv nn, .int .i64 (0)])), (12, rt (tp [wv q, .int .i64 (0)])), (14, rt (tp [wv c, .int .i64 (0)])), (34, rt (tp [wv x, bb (o1)])), (34, rt (tp [wv y, bb (o2)])), (34, rt (tp [wv m, bb (o3)])), (16, rt (tp [wv o, .int .i64 (0)])), (16, rt (tp [wv p, .int .i64 (0)])), (16, rt (tp [wv s, .int .i64 (0)])), (35, rt (bb (true))), (26, rt (bb (true)))] =
    some (rt (bb (true)), [PureX Try.prog 16 #[wv a, wv b] (rt (tp [wv nn, .int .i64 (0)])), PureX Try.prog 12 #[wv a, wv b] (rt (tp [wv q, .int .i64 (0)])), PureX Try.prog 14 #[wv a, wv b] (rt (tp [wv c, .int .i64 (0)])), PureX Try.prog 34 #[wv a] (rt (tp [wv x, bb (o1)])), PureX Try.prog 34 #[wv b] (rt (tp [wv y, bb (o2)])), PureX Try.prog 34 #[wv nn] (rt (tp [wv m, bb (o3)])), PureX Try.prog 16 #[wv x, wv b] (rt (tp [wv o, .int .i64 (0)])), PureX Try.prog 16 #[wv a, wv y] (rt (tp [wv p, .int .i64 (0)])), PureX Try.prog 16 #[wv x, wv y] (rt (tp [wv s, .int .i64 (0)])), (eqv nn q) = true, PureX Try.prog 35 #[wv a, wv b, wv nn] (rt (bb (true))), (eqv o m) = true, (eqv p m) = true, (eqv s nn) = true, PureX Try.prog 26 #[] (rt (bb (true)))]) := by kernel_rfl
theorem l5_mainc (a b nn q c x y m o p s : Nat) (o1 o2 o3 : Bool) : runA Try.prog 5 #[wv a, wv b] [n, n, n, n, n, f, n, n, n, t, n, n, n, n, n, n, n, n, n, n, n, n, t, n, n, t, n, n, t] [(16, rt (tp [wv nn, .int .i64 (0)])), (12, rt (tp [wv q, .int .i64 (0)])), (14, rt (tp [wv c, .int .i64 (0)])), (34, rt (tp [wv x, bb (o1)])), (34, rt (tp [wv y, bb (o2)])), (34, rt (tp [wv m, bb (o3)])), (16, rt (tp [wv o, .int .i64 (0)])), (16, rt (tp [wv p, .int .i64 (0)])), (16, rt (tp [wv s, .int .i64 (0)])), (35, rt (bb (true))), (26, rt (bb (true)))] =
    some (rt (bb (true)), [PureX Try.prog 16 #[wv a, wv b] (rt (tp [wv nn, .int .i64 (0)])), PureX Try.prog 12 #[wv a, wv b] (rt (tp [wv q, .int .i64 (0)])), PureX Try.prog 14 #[wv a, wv b] (rt (tp [wv c, .int .i64 (0)])), PureX Try.prog 34 #[wv a] (rt (tp [wv x, bb (o1)])), PureX Try.prog 34 #[wv b] (rt (tp [wv y, bb (o2)])), PureX Try.prog 34 #[wv nn] (rt (tp [wv m, bb (o3)])), PureX Try.prog 16 #[wv x, wv b] (rt (tp [wv o, .int .i64 (0)])), PureX Try.prog 16 #[wv a, wv y] (rt (tp [wv p, .int .i64 (0)])), PureX Try.prog 16 #[wv x, wv y] (rt (tp [wv s, .int .i64 (0)])), (eqv nn q) = false, (eqv nn c) = true, PureX Try.prog 35 #[wv a, wv b, wv nn] (rt (bb (true))), (eqv o m) = true, (eqv p m) = true, (eqv s nn) = true, PureX Try.prog 26 #[] (rt (bb (true)))]) := by kernel_rfl

theorem lsize_z {x : Int} (hx : inR x) (h : x ≠ least) : PureX Try.prog 81 #[wz x] (rt (wz (x.natAbs : Int))) := by
  have hs := rsign_z hx
  by_cases h0 : x < 0
  · rw [Int.sign_eq_neg_one_of_neg h0] at hs
    have hn := rneg_z hx
    rw [show (x.natAbs : Int) = -x by omega]
    exact runA_pure mix (size81n (nz x) (nz (-x)) _) ⟨hs, hn, trivial⟩ rfl rfl
  · have hk : decide (x.sign < 0) = false := by
      rcases (show x = 0 ∨ 0 < x by omega) with h | h
      · rw [h]; rfl
      · rw [Int.sign_eq_one_of_pos h]; rfl
    rw [show (x.natAbs : Int) = x by omega]
    exact runA_pure mix (size81p (nz x) x.sign) ⟨hs, hk, trivial⟩ rfl rfl
theorem rsub_any (x p : Int) : ∃ o, PureX Try.prog 30 #[wz x, wz p] (rt (tp [wz (x - p), bb o])) := by
  have h := rsub_x (nz x) (nz p)
  rw [(dif_wv x p).1] at h
  exact ⟨_, h⟩
theorem mul_big (y d : Int) : y * d = 0 ∨ y.natAbs ≤ (y * d).natAbs := by
  by_cases h : d = 0
  · left; rw [h, Int.mul_zero]
  · right
    rw [Int.natAbs_mul]
    exact Nat.le_mul_of_pos_right _ (by omega)
theorem sign_sw {a B D b : Int} (hD : D = a - B) (h1 : 2 * D.natAbs = b.natAbs) (h2 : a.natAbs < B.natAbs) (h3 : B = 0 ∨ b.natAbs ≤ B.natAbs) (h0 : b ≠ 0) : (D.sign == IntKind.i64.wrap (0 - a.sign)) = true := by
  rw [beq_iff_eq]
  rcases Int.lt_trichotomy a 0 with h | h | h
  · rw [Int.sign_eq_neg_one_of_neg h, Int.sign_eq_one_of_pos (show 0 < D by omega)]; rfl
  · omega
  · rw [Int.sign_eq_one_of_pos h, Int.sign_eq_neg_one_of_neg (show D < 0 by omega)]; rfl
/-- The law's own test of the nearest. -/
theorem lnear_z {a b p : Int} (ha : inR a) (hb : inR b) (hp : inR p) (h0 : b ≠ 0) (hb1 : b ≠ least) (hn : Nearest a b p) : PureX Try.prog 35 #[wz a, wz b, wz p] (rt (bb true)) := by
  have hb2 : b ≠ -57896044618658097711785492504343953926634992332820282019728792003956564819968 := hb1
  have m1 := rmul_z hp hb
  obtain ⟨o, m2⟩ := rsub_any a (p * b)
  have hB := mul_big b p
  unfold Nearest at hn
  rw [Int.mul_comm b p] at hn hB
  generalize p * b = B at *
  obtain ⟨D, hD⟩ : ∃ D, a - B = D := ⟨_, rfl⟩
  rw [hD] at hn m2
  have iD : inR D := by unfold inR at hb ⊢; omega
  have nD2 : D ≠ -57896044618658097711785492504343953926634992332820282019728792003956564819968 := by unfold inR at hb; omega
  have nD : D ≠ least := nD2
  have m3 := lsize_z hb hb1
  have m4 := lsize_z iD nD
  have iL : inR ((b.natAbs : Int) - (D.natAbs : Int)) := by unfold inR at hb ⊢; omega
  have iB : inR (b.natAbs : Int) := by unfold inR at hb ⊢; clear hb1 nD; omega
  have iDa : inR (D.natAbs : Int) := by unfold inR at iD ⊢; clear hb1 nD; omega
  have m5 := rsub_z iB iDa
  have m6 := rcmp_z iDa iL
  rcases (show 2 * D.natAbs < b.natAbs ∨ 2 * D.natAbs = b.natAbs by omega) with h | h
  · rw [Int.sign_eq_neg_one_of_neg (show (D.natAbs : Int) - ((b.natAbs : Int) - (D.natAbs : Int)) < 0 by omega)] at m6
    exact runA_pure mix (near35a (nz a) (nz b) (nz p) (nz B) (nz D) (nz (b.natAbs : Int)) (nz (D.natAbs : Int)) (nz ((b.natAbs : Int) - (D.natAbs : Int))) _ _ _ (-1)) ⟨m1, m2, m3, m4, m5, m4, m6, rfl, trivial⟩ rfl rfl
  · rw [show (D.natAbs : Int) - ((b.natAbs : Int) - (D.natAbs : Int)) = 0 by omega] at m6
    have r := runA_pure mix (near35b (nz a) (nz b) (nz p) (nz B) (nz D) (nz (b.natAbs : Int)) (nz (D.natAbs : Int)) (nz ((b.natAbs : Int) - (D.natAbs : Int))) _ _ _ 0 D.sign a.sign) ⟨m1, m2, m3, m4, m5, m4, m6, rfl, rfl, rsign_z iD, rsign_z ha, trivial⟩ rfl rfl
    rw [sign_sw hD.symm h (hn.2 h) hB h0] at r
    exact r

theorem near_uniq {A B p q : Int} (hp : Nearest A B p) (hq : Nearest A B q) (h0 : B ≠ 0) : p = q := by
  unfold Nearest at hp hq
  have e : B * p - B * q = B * (p - q) := by rw [Int.mul_sub]
  have k := mul_big B (p - q)
  have kp := mul_big B p
  have kq := mul_big B q
  rw [← e] at k
  rcases k with k | k
  · have h1 : B * (p - q) = 0 := by rw [← e]; exact k
    rcases Int.mul_eq_zero.1 h1 with h | h
    · exact absurd h h0
    · omega
  · exfalso
    generalize B * p = P at *
    generalize B * q = Q at *
    clear e
    omega
theorem near_ne {A B p : Int} : (Nearest (-A) B (-p) ↔ Nearest A B p) ∧ (Nearest A (-B) (-p) ↔ Nearest A B p) ∧ (Nearest (-A) (-B) p ↔ Nearest A B p) := by
  unfold Nearest
  rw [Int.mul_neg, Int.neg_mul_neg, Int.neg_mul]
  generalize B * p = P
  omega
theorem neI_neg {x y : Int} (h0 : y ≠ 0) : neI (-x) y = -neI x y ∧ neI x (-y) = -neI x y ∧ neI (-x) (-y) = neI x y := by
  have h := neI_near (x := x) (y := y) h0
  refine ⟨?_, ?_, ?_⟩
  · exact near_uniq (neI_near h0) (near_ne.1.2 h) h0
  · exact near_uniq (neI_near (by omega)) (near_ne.2.1.2 h) (by omega)
  · exact near_uniq (neI_near (by omega)) (near_ne.2.2.2 h) (by omega)
theorem neI_or {x y : Int} (h0 : y ≠ 0) : neI x y = flI x y ∨ neI x y = ceI x y := by
  have hr := Nat.mod_lt x.natAbs (show 0 < y.natAbs by omega)
  unfold neI flI ceI
  by_cases hb : belowI x y
  · rw [decide_eq_true hb, Bool.true_and, Bool.not_true, Bool.false_and]
    by_cases h : y.natAbs - x.natAbs % y.natAbs ≤ x.natAbs % y.natAbs
    · left
      rw [decide_eq_true h, decide_eq_false (show ¬ x.natAbs % y.natAbs = 0 by omega)]
      rfl
    · right
      rw [decide_eq_false h]
  · rw [decide_eq_false hb, Bool.false_and, Bool.not_false, Bool.true_and]
    by_cases h : y.natAbs - x.natAbs % y.natAbs ≤ x.natAbs % y.natAbs
    · right
      rw [decide_eq_true h, decide_eq_false (show ¬ x.natAbs % y.natAbs = 0 by omega)]
      rfl
    · left
      rw [decide_eq_false h]

theorem near_walk {a b : Int} (ha : inR a) (hb : inR b) : PureX Try.prog 5 #[wz a, wz b] (rt (bb true)) := by
  by_cases c3 : b = 0
  · subst c3
    exact runA_pure mix (l5_zero (nz a) (nz 0)) ⟨nea_zero ha, flo_zero ha, cei_zero ha, rfl, wakes_c, trivial⟩ rfl rfl
  have e0 := eqv_false hb (y := 0) (by decide) c3
  by_cases c12 : a = least ∨ b = least
  · refine runA_pure mix (l5_over (nz a) (nz b)) ⟨nea_over ha hb c3 c12, flo_over ha hb c3 c12, cei_over ha hb c3 c12, ?_, wakes_c, trivial⟩ rfl rfl
    rw [show (0 : Nat) = nz 0 from rfl, e0]
    rfl
  have c1 : a ≠ least := fun h => c12 (.inl h)
  have c2 : b ≠ least := fun h => c12 (.inr h)
  obtain ⟨na, na1⟩ := in_neg ha c1
  obtain ⟨nb, nb1⟩ := in_neg hb c2
  have h1 := nea_z div_ok ha hb c3 c1 c2
  have h2 := flo_z div_ok ha hb c3 c1 c2
  have h3 := cei_z div_ok ha hb c3 c1 c2
  have h4 := rneg_z ha
  have h5 := rneg_z hb
  have iN := neI_in ha c1 c3
  have h6 := rneg_z iN
  have h7 := nea_z div_ok na hb c3 na1 c2
  have h8 := nea_z div_ok ha nb (by omega) c1 nb1
  have h9 := nea_z div_ok na nb (by omega) na1 nb1
  obtain ⟨z1, z2, z3⟩ := neI_neg (x := a) (y := b) c3
  rw [z1] at h7
  rw [z2] at h8
  rw [z3] at h9
  have h10 := lnear_z ha hb iN c3 c2 (neI_near c3)
  have iM : inR (-neI a b) := by rw [← z1]; exact neI_in na na1 c3
  have q1 := eqv_true iM iM rfl
  have q2 := eqv_true iN iN rfl
  by_cases hq : neI a b = flI a b
  · exact runA_pure mix (l5_mainq (nz a) (nz b) (nz (neI a b)) (nz (flI a b)) (nz (ceI a b)) (nz (-a)) (nz (-b)) (nz (-neI a b)) (nz (-neI a b)) (nz (-neI a b)) (nz (neI a b)) _ _ _) ⟨h1, h2, h3, h4, h5, h6, h7, h8, h9, eqv_true iN (flI_in ha c1 c3) hq, h10, q1, q1, q2, wakes_c, trivial⟩ rfl rfl
  · have hc := (neI_or (x := a) (y := b) c3).resolve_left hq
    exact runA_pure mix (l5_mainc (nz a) (nz b) (nz (neI a b)) (nz (flI a b)) (nz (ceI a b)) (nz (-a)) (nz (-b)) (nz (-neI a b)) (nz (-neI a b)) (nz (-neI a b)) (nz (neI a b)) _ _ _) ⟨h1, h2, h3, h4, h5, h6, h7, h8, h9, eqv_false iN (flI_in ha c1 c3) hq, eqv_true iN (ceI_in ha c1 c3) hc, h10, q1, q1, q2, wakes_c, trivial⟩ rfl rfl

end Go.Proofs.Ytpbhoamojocbpaa
