/- QuotTurns, walked. -/
import Derived.Test.YtpbhoamojocbpaaF16
namespace Go.Proofs.Ytpbhoamojocbpaa
open Go Go.RowKit
set_option linter.unusedSimpArgs false
set_option linter.unusedVariables false

theorem l6_skip (a b : Nat) : runA Try.prog 6 #[wv a, wv b] [] [(27, rt (bb (true))), (26, rt (bb (true)))] =
    some (rt (bb (true)), [PureX Try.prog 27 #[wv a] (rt (bb (true))), PureX Try.prog 26 #[] (rt (bb (true)))]) := by kernel_rfl
theorem l6_skip2 (a b : Nat) : runA Try.prog 6 #[wv a, wv b] [] [(27, rt (bb (false))), (27, rt (bb (true))), (26, rt (bb (true)))] =
    some (rt (bb (true)), [PureX Try.prog 27 #[wv a] (rt (bb (false))), PureX Try.prog 27 #[wv b] (rt (bb (true))), PureX Try.prog 26 #[] (rt (bb (true)))]) := by kernel_rfl
theorem l6_skip3 (a b : Nat) : runA Try.prog 6 #[wv a, wv b] [n, n, n, n, n, t] [(27, rt (bb (false))), (27, rt (bb (false))), (26, rt (bb (true)))] =
    some (rt (bb (true)), [PureX Try.prog 27 #[wv a] (rt (bb (false))), PureX Try.prog 27 #[wv b] (rt (bb (false))), (eqv b 0) = true, PureX Try.prog 26 #[] (rt (bb (true)))]) := by kernel_rfl
theorem l6_main (a b x y q r c s ss i one m z : Nat) (o1 o2 o3 : Bool) : runA Try.prog 6 #[wv a, wv b] [n, n, n, n, n, f, n, n, n, n, n, n, n, n, n, n, n, n, n, n, n, t, n, n, t, n, n, t, n, n, t, n, n, t] [(27, rt (bb (false))), (27, rt (bb (false))), (34, rt (tp [wv x, bb (o1)])), (34, rt (tp [wv y, bb (o2)])), (12, rt (tp [wv q, .int .i64 (0)])), (12, rt (tp [wv r, .int .i64 (0)])), (14, rt (tp [wv c, .int .i64 (0)])), (12, rt (tp [wv s, .int .i64 (0)])), (34, rt (tp [wv ss, bb (o3)])), (31, rt (wv one)), (12, rt (tp [wv i, .int .i64 (0)])), (16, rt (tp [wv m, .int .i64 (0)])), (18, rt (tp [wv z, .int .i64 (0)])), (31, rt (wv one)), (26, rt (bb (true)))] =
    some (rt (bb (true)), [PureX Try.prog 27 #[wv a] (rt (bb (false))), PureX Try.prog 27 #[wv b] (rt (bb (false))), (eqv b 0) = false, PureX Try.prog 34 #[wv a] (rt (tp [wv x, bb (o1)])), PureX Try.prog 34 #[wv b] (rt (tp [wv y, bb (o2)])), PureX Try.prog 12 #[wv a, wv b] (rt (tp [wv q, .int .i64 (0)])), PureX Try.prog 12 #[wv x, wv y] (rt (tp [wv r, .int .i64 (0)])), PureX Try.prog 14 #[wv a, wv b] (rt (tp [wv c, .int .i64 (0)])), PureX Try.prog 12 #[wv x, wv b] (rt (tp [wv s, .int .i64 (0)])), PureX Try.prog 34 #[wv s] (rt (tp [wv ss, bb (o3)])), PureX Try.prog 31 #[.int .i64 (1)] (rt (wv one)), PureX Try.prog 12 #[wv a, wv one] (rt (tp [wv i, .int .i64 (0)])), PureX Try.prog 16 #[wv b, wv b] (rt (tp [wv m, .int .i64 (0)])), PureX Try.prog 18 #[wv b, wv b] (rt (tp [wv z, .int .i64 (0)])), (eqv q r) = true, (eqv c ss) = true, (eqv i a) = true, PureX Try.prog 31 #[.int .i64 (1)] (rt (wv one)), (eqv m one) = true, (eqv z 0) = true, PureX Try.prog 26 #[] (rt (bb (true)))]) := by kernel_rfl

theorem in_neg {x : Int} (hx : inR x) (h : x ≠ least) : inR (-x) ∧ -x ≠ least := by
  have h1 : x ≠ -57896044618658097711785492504343953926634992332820282019728792003956564819968 := h
  have h2 : -x ≠ -57896044618658097711785492504343953926634992332820282019728792003956564819968 := by unfold inR at hx; omega
  exact ⟨by unfold inR at hx ⊢; omega, h2⟩
theorem eqv_true {x y : Int} (hx : inR x) (hy : inR y) (h : x = y) : eqv (nz x) (nz y) = true := by rw [eqv_z hx hy, decide_eq_true h]
theorem eqv_false {x y : Int} (hx : inR x) (hy : inR y) (h : x ≠ y) : eqv (nz x) (nz y) = false := by rw [eqv_z hx hy, decide_eq_false h]
/-- A floor is told by the side. -/
theorem side_uniq {x y p q : Int} (hp : OnSide (x - y * p) y) (hq : OnSide (x - y * q) y) (h0 : y ≠ 0) : p = q := by
  have key : ∀ d : Int, 1 ≤ d → y.natAbs ≤ (y * d).natAbs := fun d hd => by
    rw [Int.natAbs_mul]
    exact Nat.le_mul_of_pos_right _ (by omega)
  have e : (x - y * p) - (x - y * q) = y * (q - p) := by rw [Int.mul_sub]; omega
  rcases Int.lt_trichotomy p q with h | h | h
  · have k := key (q - p) (by omega)
    rw [← e] at k
    unfold OnSide at hp hq
    omega
  · exact h
  · have k := key (p - q) (by omega)
    have e2 : y * (p - q) = -((x - y * p) - (x - y * q)) := by rw [e, ← Int.mul_neg]; congr 1; omega
    rw [e2] at k
    unfold OnSide at hp hq
    omega
theorem side_neg {r y : Int} : OnSide (-r) (-y) ↔ OnSide r y := by unfold OnSide; omega
theorem flI_neg {x y : Int} (h0 : y ≠ 0) : flI (-x) (-y) = flI x y := by
  have h1 := flI_side (x := -x) (y := -y) (by omega)
  have h2 := flI_side (x := x) (y := y) h0
  refine side_uniq (x := x) (y := y) ?_ h2 h0
  rw [show -x - -y * flI (-x) (-y) = -(x - y * flI (-x) (-y)) by rw [Int.neg_mul]; omega, side_neg] at h1
  exact h1
theorem ceI_neg {x y : Int} (h0 : y ≠ 0) : ceI x y = -flI (-x) y := by
  have h1 := flI_side (x := -x) (y := y) h0
  have h2 := ceI_side (x := x) (y := y) h0
  have := side_uniq (x := -x) (y := y) (p := flI (-x) y) (q := -ceI x y) h1 (by
    rw [Int.mul_neg, show -x - -(y * ceI x y) = y * ceI x y - x by omega]; exact h2) h0
  omega
theorem flI_one {x : Int} : flI x 1 = x := by
  have h1 := flI_side (x := x) (y := 1) (by decide)
  unfold OnSide at h1
  omega
theorem neI_self {y : Int} (h0 : y ≠ 0) : neI y y = 1 := by
  unfold neI wholeI
  have hb : ¬ belowI y y := by unfold belowI; omega
  rw [Nat.div_self (by omega), Nat.mod_self, if_neg hb, show decide (y.natAbs - 0 ≤ 0) = false from decide_eq_false (by omega)]
  rfl
theorem flI_self {y : Int} (h0 : y ≠ 0) : y - y * flI y y = 0 := by
  have h1 := flI_side (x := y) (y := y) h0
  have := side_uniq (x := y) (y := y) (p := flI y y) (q := 1) h1 (by unfold OnSide; omega) h0
  rw [this]; omega
theorem turns_walk {a b : Int} (ha : inR a) (hb : inR b) : PureX Try.prog 6 #[wz a, wz b] (rt (bb true)) := by
  have la := least_z ha
  have lb := least_z hb
  by_cases c1 : a = least
  · rw [decide_eq_true c1] at la
    exact runA_pure mix (l6_skip (nz a) (nz b)) ⟨la, wakes_c, trivial⟩ rfl rfl
  rw [decide_eq_false c1] at la
  by_cases c2 : b = least
  · rw [decide_eq_true c2] at lb
    exact runA_pure mix (l6_skip2 (nz a) (nz b)) ⟨la, lb, wakes_c, trivial⟩ rfl rfl
  rw [decide_eq_false c2] at lb
  by_cases c3 : b = 0
  · have e := eqv_true hb (y := 0) (by decide) c3
    exact runA_pure mix (l6_skip3 (nz a) (nz b)) ⟨la, lb, e, wakes_c, trivial⟩ rfl rfl
  have e0 := eqv_false hb (y := 0) (by decide) c3
  obtain ⟨na, na1⟩ := in_neg ha c1
  obtain ⟨nb, nb1⟩ := in_neg hb c2
  have n1 := rneg_z ha
  have n2 := rneg_z hb
  have f1 := flo_z div_ok ha hb c3 c1 c2
  have f2 := flo_z div_ok na nb (by omega) na1 nb1
  have f3 := cei_z div_ok ha hb c3 c1 c2
  have f4 := flo_z div_ok na hb c3 na1 c2
  have i4 := flI_in na na1 c3
  have n3 := rneg_z i4
  have o1 := lof_z (x := 1) (by decide)
  have f5 := flo_z div_ok ha (y := 1) (by decide) (by decide) c1 (by decide)
  have f6 := nea_z div_ok hb hb c3 c2 c2
  have f7 := rst_z hb hb c3 c2 c2
  have z1 := flI_neg (x := a) (y := b) c3
  have z2 := ceI_neg (x := a) (y := b) c3
  have q1 := eqv_true (flI_in ha c1 c3) (flI_in na na1 (y := -b) (by omega)) z1.symm
  have q2 := eqv_true (ceI_in ha c1 c3) (y := -flI (-a) b) (by rw [← z2]; exact ceI_in ha c1 c3) z2
  have q3 := eqv_true (flI_in ha c1 (y := 1) (by decide)) ha flI_one
  have q4 := eqv_true (neI_in hb c2 c3) (y := 1) (by decide) (neI_self c3)
  have q5 := eqv_true (x := b - b * flI b b) (y := 0) (by rw [flI_self c3]; decide) (by decide) (flI_self c3)
  exact runA_pure mix (l6_main (nz a) (nz b) (nz (-a)) (nz (-b)) (nz (flI a b)) (nz (flI (-a) (-b))) (nz (ceI a b)) (nz (flI (-a) b)) (nz (-flI (-a) b)) (nz (flI a 1)) (nz 1) (nz (neI b b)) (nz (b - b * flI b b)) _ _ _) ⟨la, lb, e0, n1, n2, f1, f2, f3, f4, n3, o1, f5, f6, f7, q1, q2, q3, o1, q4, q5, wakes_c, trivial⟩ rfl rfl

end Go.Proofs.Ytpbhoamojocbpaa
