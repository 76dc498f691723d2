/- The document's own Mul, as integers. -/
import Derived.Test.YtpbhoamojocbpaaF9
namespace Go.Proofs.Ytpbhoamojocbpaa
open Go Go.RowKit
set_option linter.unusedSimpArgs false
set_option linter.unusedVariables false

theorem rsize_z {x : Int} (h : inR x) : ∃ e0 e1 e2 e3 e4 e5 e6 e7, e0 < 4294967296 ∧ e1 < 4294967296 ∧ e2 < 4294967296 ∧ e3 < 4294967296 ∧ e4 < 4294967296 ∧ e5 < 4294967296 ∧ e6 < 4294967296 ∧ e7 < 4294967296 ∧ e8 e0 e1 e2 e3 e4 e5 e6 e7 = x.natAbs ∧ PureX Try.prog 75 #[wz x] (rt (D8 e0 e1 e2 e3 e4 e5 e6 e7)) := by
  obtain ⟨e0, e1, e2, e3, e4, e5, e6, e7, h0, h1, h2, h3, h4, h5, h6, h7, he, hp⟩ := digits_x (siz (nz x))
  refine ⟨e0, e1, e2, e3, e4, e5, e6, e7, h0, h1, h2, h3, h4, h5, h6, h7, by rw [he, siz_z h], ?_⟩
  have l := low_x (nz x)
  unfold siz at hp
  generalize ng (nz x) = b at l hp
  cases b
  · exact runA_pure mix (rsize_raw2 (nz x) e0 e1 e2 e3 e4 e5 e6 e7 false) ⟨l, rfl, hp, trivial⟩ rfl rfl
  · exact runA_pure mix (rsize_raw1 (nz x) (dif 0 (nz x)) e0 e1 e2 e3 e4 e5 e6 e7 true (subO 0 (nz x))) ⟨l, rfl, rneg_x (nz x), hp, trivial⟩ rfl rfl
def fn8 (e0 e1 e2 e3 e4 e5 e6 e7 : Nat) : Nat → Nat
  | 0 => e0
  | 1 => e1
  | 2 => e2
  | 3 => e3
  | 4 => e4
  | 5 => e5
  | 6 => e6
  | 7 => e7
  | _ => 0
theorem fn8_digs {e0 e1 e2 e3 e4 e5 e6 e7 : Nat} (h0 : e0 < 4294967296) (h1 : e1 < 4294967296) (h2 : e2 < 4294967296) (h3 : e3 < 4294967296) (h4 : e4 < 4294967296) (h5 : e5 < 4294967296) (h6 : e6 < 4294967296) (h7 : e7 < 4294967296) : Digs (fn8 e0 e1 e2 e3 e4 e5 e6 e7) := by
  intro i
  unfold fn8
  split <;> first | assumption | decide
theorem times_c {e0 e1 e2 e3 e4 e5 e6 e7 f0 f1 f2 f3 f4 f5 f6 f7 : Nat} (h0 : e0 < 4294967296) (h1 : e1 < 4294967296) (h2 : e2 < 4294967296) (h3 : e3 < 4294967296) (h4 : e4 < 4294967296) (h5 : e5 < 4294967296) (h6 : e6 < 4294967296) (h7 : e7 < 4294967296) (g0 : f0 < 4294967296) (g1 : f1 < 4294967296) (g2 : f2 < 4294967296) (g3 : f3 < 4294967296) (g4 : f4 < 4294967296) (g5 : f5 < 4294967296) (g6 : f6 < 4294967296) (g7 : f7 < 4294967296) :
    ∃ d0 d1 d2 d3 d4 d5 d6 d7 d8 d9 d10 d11 d12 d13 d14 d15, d0 < 4294967296 ∧ d1 < 4294967296 ∧ d2 < 4294967296 ∧ d3 < 4294967296 ∧ d4 < 4294967296 ∧ d5 < 4294967296 ∧ d6 < 4294967296 ∧ d7 < 4294967296 ∧ d8 < 4294967296 ∧ d9 < 4294967296 ∧ d10 < 4294967296 ∧ d11 < 4294967296 ∧ d12 < 4294967296 ∧ d13 < 4294967296 ∧ d14 < 4294967296 ∧ d15 < 4294967296 ∧ e8 d0 d1 d2 d3 d4 d5 d6 d7 + Mw * e8 d8 d9 d10 d11 d12 d13 d14 d15 = e8 e0 e1 e2 e3 e4 e5 e6 e7 * e8 f0 f1 f2 f3 f4 f5 f6 f7 ∧ PureX Try.prog 74 #[D8 e0 e1 e2 e3 e4 e5 e6 e7, D8 f0 f1 f2 f3 f4 f5 f6 f7] (rt (D16 d0 d1 d2 d3 d4 d5 d6 d7 d8 d9 d10 d11 d12 d13 d14 d15)) := by
  have ha := fn8_digs h0 h1 h2 h3 h4 h5 h6 h7
  have hb := fn8_digs g0 g1 g2 g3 g4 g5 g6 g7
  have hv := timesR_val (fn8 e0 e1 e2 e3 e4 e5 e6 e7) (fn8 f0 f1 f2 f3 f4 f5 f6 f7)
  have hd := timesR_digs ha hb
  have hr : PureX Try.prog 74 #[D8 e0 e1 e2 e3 e4 e5 e6 e7, D8 f0 f1 f2 f3 f4 f5 f6 f7] (rt (D16 (timesR (fn8 e0 e1 e2 e3 e4 e5 e6 e7) (fn8 f0 f1 f2 f3 f4 f5 f6 f7) 0) (timesR (fn8 e0 e1 e2 e3 e4 e5 e6 e7) (fn8 f0 f1 f2 f3 f4 f5 f6 f7) 1) (timesR (fn8 e0 e1 e2 e3 e4 e5 e6 e7) (fn8 f0 f1 f2 f3 f4 f5 f6 f7) 2) (timesR (fn8 e0 e1 e2 e3 e4 e5 e6 e7) (fn8 f0 f1 f2 f3 f4 f5 f6 f7) 3) (timesR (fn8 e0 e1 e2 e3 e4 e5 e6 e7) (fn8 f0 f1 f2 f3 f4 f5 f6 f7) 4) (timesR (fn8 e0 e1 e2 e3 e4 e5 e6 e7) (fn8 f0 f1 f2 f3 f4 f5 f6 f7) 5) (timesR (fn8 e0 e1 e2 e3 e4 e5 e6 e7) (fn8 f0 f1 f2 f3 f4 f5 f6 f7) 6) (timesR (fn8 e0 e1 e2 e3 e4 e5 e6 e7) (fn8 f0 f1 f2 f3 f4 f5 f6 f7) 7) (timesR (fn8 e0 e1 e2 e3 e4 e5 e6 e7) (fn8 f0 f1 f2 f3 f4 f5 f6 f7) 8) (timesR (fn8 e0 e1 e2 e3 e4 e5 e6 e7) (fn8 f0 f1 f2 f3 f4 f5 f6 f7) 9) (timesR (fn8 e0 e1 e2 e3 e4 e5 e6 e7) (fn8 f0 f1 f2 f3 f4 f5 f6 f7) 10) (timesR (fn8 e0 e1 e2 e3 e4 e5 e6 e7) (fn8 f0 f1 f2 f3 f4 f5 f6 f7) 11) (timesR (fn8 e0 e1 e2 e3 e4 e5 e6 e7) (fn8 f0 f1 f2 f3 f4 f5 f6 f7) 12) (timesR (fn8 e0 e1 e2 e3 e4 e5 e6 e7) (fn8 f0 f1 f2 f3 f4 f5 f6 f7) 13) (timesR (fn8 e0 e1 e2 e3 e4 e5 e6 e7) (fn8 f0 f1 f2 f3 f4 f5 f6 f7) 14) (timesR (fn8 e0 e1 e2 e3 e4 e5 e6 e7) (fn8 f0 f1 f2 f3 f4 f5 f6 f7) 15))) := fun w => (times_r _ _ ha hb w).mono (fun e w' h => h)
  have k : ∀ a : Nat → Nat, dval a = e8 (a 0) (a 1) (a 2) (a 3) (a 4) (a 5) (a 6) (a 7) := by
    intro a
    unfold dval e8
    simp only [nm]
    generalize a 0 = a0, a 1 = a1, a 2 = a2, a 3 = a3, a 4 = a4, a 5 = a5, a 6 = a6, a 7 = a7
    omega
  have k2 : ∀ a : Nat → Nat, nm 4294967296 a 16 = e8 (a 0) (a 1) (a 2) (a 3) (a 4) (a 5) (a 6) (a 7) + Mw * e8 (a 8) (a 9) (a 10) (a 11) (a 12) (a 13) (a 14) (a 15) := by
    intro a
    rw [← k]
    unfold dval e8
    simp only [nm]
    generalize a 0 + a 1 = zz
    generalize a 8 = a8, a 9 = a9, a 10 = a10, a 11 = a11, a 12 = a12, a 13 = a13, a 14 = a14, a 15 = a15
    simp only [Nat.mul_add, ← Nat.mul_assoc, Mw]
    omega
  rw [k2, k, k] at hv
  exact ⟨_, _, _, _, _, _, _, _, _, _, _, _, _, _, _, _, hd 0, hd 1, hd 2, hd 3, hd 4, hd 5, hd 6, hd 7, hd 8, hd 9, hd 10, hd 11, hd 12, hd 13, hd 14, hd 15, hv, hr⟩

theorem e8_lt {d0 d1 d2 d3 d4 d5 d6 d7 : Nat} (h0 : d0 < 4294967296) (h1 : d1 < 4294967296) (h2 : d2 < 4294967296) (h3 : d3 < 4294967296) (h4 : d4 < 4294967296) (h5 : d5 < 4294967296) (h6 : d6 < 4294967296) (h7 : d7 < 4294967296) : e8 d0 d1 d2 d3 d4 d5 d6 d7 < Mw := by
  unfold e8
  simp only [Mw]
  omega
theorem rmul_z {x y : Int} (hx : inR x) (hy : inR y) : PureX Try.prog 28 #[wz x, wz y] (rt (tp [wz (x * y), bb (decide (¬ inR (x * y)))])) := by
  obtain ⟨e0, e1, e2, e3, e4, e5, e6, e7, he0, he1, he2, he3, he4, he5, he6, he7, ee, pe⟩ := rsize_z hx
  obtain ⟨f0, f1, f2, f3, f4, f5, f6, f7, hf0, hf1, hf2, hf3, hf4, hf5, hf6, hf7, ef, pf⟩ := rsize_z hy
  obtain ⟨d0, d1, d2, d3, d4, d5, d6, d7, d8, d9, d10, d11, d12, d13, d14, d15, hd0, hd1, hd2, hd3, hd4, hd5, hd6, hd7, hd8, hd9, hd10, hd11, hd12, hd13, hd14, hd15, ed, pd⟩ := times_c he0 he1 he2 he3 he4 he5 he6 he7 hf0 hf1 hf2 hf3 hf4 hf5 hf6 hf7
  rw [ee, ef] at ed
  obtain ⟨P, hP⟩ : ∃ P, P = x.natAbs * y.natAbs := ⟨_, rfl⟩
  rw [← hP] at ed
  have hc := mul_case hP
  have pw := wide_c hd0 hd1 hd2 hd3 hd4 hd5 hd6 hd7
  have hlo : e8 d0 d1 d2 d3 d4 d5 d6 d7 < Mw := e8_lt hd0 hd1 hd2 hd3 hd4 hd5 hd6 hd7
  have hhi : e8 d8 d9 d10 d11 d12 d13 d14 d15 = 0 ↔ d8 = 0 ∧ d9 = 0 ∧ d10 = 0 ∧ d11 = 0 ∧ d12 = 0 ∧ d13 = 0 ∧ d14 = 0 ∧ d15 = 0 := by
    unfold e8
    omega
  generalize e8 d8 d9 d10 d11 d12 d13 d14 d15 = hi at ed hhi
  generalize e8 d0 d1 d2 d3 d4 d5 d6 d7 = lo at ed hlo pw
  have hz : wv lo = wv P := wv_mod (by rw [← ed, Nat.add_mul_mod_self_left])
  rw [hz] at pw
  have hbig : hi = 0 ↔ P < Mw := by
    constructor
    · rintro rfl
      omega
    · intro h
      rcases Nat.eq_zero_or_pos hi with h0 | h0
      · exact h0
      · have := Nat.mul_le_mul_left Mw h0
        omega
  have l1 := low_x (nz x)
  have l2 := low_x (nz y)
  have l3 := low_x P
  have he := eqv_dec P 0
  rw [Nat.zero_mod] at he
  have n3 := rneg_x P
  have w3 := (dif_neg P).1
  rw [w3] at n3
  have l4 := low_x (nz (-(P : Int)))
  rw [ng_z hx] at l1
  rw [ng_z hy] at l2
  clear ed ee ef hP hx hy hz w3 he0 hf0 he1 hf1 he2 hf2 he3 hf3 he4 hf4 he5 hf5 he6 hf6 he7 hf7
  generalize decide (x < 0) = A at l1 hc
  generalize decide (y < 0) = B at l2 hc
  by_cases hAB : A = B
  · have hv := hc.1 hAB
    rw [hv, ← wz_nat]
    have hq : (A == B) = true := by rw [hAB]; exact beq_self_eq_true B
    have big : hi ≠ 0 → decide (¬ inR (P : Int)) = true := by
      intro hn
      have : ¬ P < Mw := fun c => hn (hbig.2 c)
      rw [decide_eq_true_eq]
      unfold inR
      simp only [Mw] at this
      omega
    by_cases c8 : 0 < d8
    · rw [big (fun c => by have := (hhi.1 c); omega)]
      exact runA_pure mix (rmul_raws0 (nz x) (nz y) P e0 e1 e2 e3 e4 e5 e6 e7 f0 f1 f2 f3 f4 f5 f6 f7 d0 d1 d2 d3 d4 d5 d6 d7 d8 d9 d10 d11 d12 d13 d14 d15 A B) ⟨pe, pf, pd, lt_t c8, pw, l1, l2, hq, trivial⟩ rfl rfl
    by_cases c9 : 0 < d9
    · rw [big (fun c => by have := (hhi.1 c); omega)]
      exact runA_pure mix (rmul_raws1 (nz x) (nz y) P e0 e1 e2 e3 e4 e5 e6 e7 f0 f1 f2 f3 f4 f5 f6 f7 d0 d1 d2 d3 d4 d5 d6 d7 d8 d9 d10 d11 d12 d13 d14 d15 A B) ⟨pe, pf, pd, lt_f c8, lt_t c9, pw, l1, l2, hq, trivial⟩ rfl rfl
    by_cases c10 : 0 < d10
    · rw [big (fun c => by have := (hhi.1 c); omega)]
      exact runA_pure mix (rmul_raws2 (nz x) (nz y) P e0 e1 e2 e3 e4 e5 e6 e7 f0 f1 f2 f3 f4 f5 f6 f7 d0 d1 d2 d3 d4 d5 d6 d7 d8 d9 d10 d11 d12 d13 d14 d15 A B) ⟨pe, pf, pd, lt_f c8, lt_f c9, lt_t c10, pw, l1, l2, hq, trivial⟩ rfl rfl
    by_cases c11 : 0 < d11
    · rw [big (fun c => by have := (hhi.1 c); omega)]
      exact runA_pure mix (rmul_raws3 (nz x) (nz y) P e0 e1 e2 e3 e4 e5 e6 e7 f0 f1 f2 f3 f4 f5 f6 f7 d0 d1 d2 d3 d4 d5 d6 d7 d8 d9 d10 d11 d12 d13 d14 d15 A B) ⟨pe, pf, pd, lt_f c8, lt_f c9, lt_f c10, lt_t c11, pw, l1, l2, hq, trivial⟩ rfl rfl
    by_cases c12 : 0 < d12
    · rw [big (fun c => by have := (hhi.1 c); omega)]
      exact runA_pure mix (rmul_raws4 (nz x) (nz y) P e0 e1 e2 e3 e4 e5 e6 e7 f0 f1 f2 f3 f4 f5 f6 f7 d0 d1 d2 d3 d4 d5 d6 d7 d8 d9 d10 d11 d12 d13 d14 d15 A B) ⟨pe, pf, pd, lt_f c8, lt_f c9, lt_f c10, lt_f c11, lt_t c12, pw, l1, l2, hq, trivial⟩ rfl rfl
    by_cases c13 : 0 < d13
    · rw [big (fun c => by have := (hhi.1 c); omega)]
      exact runA_pure mix (rmul_raws5 (nz x) (nz y) P e0 e1 e2 e3 e4 e5 e6 e7 f0 f1 f2 f3 f4 f5 f6 f7 d0 d1 d2 d3 d4 d5 d6 d7 d8 d9 d10 d11 d12 d13 d14 d15 A B) ⟨pe, pf, pd, lt_f c8, lt_f c9, lt_f c10, lt_f c11, lt_f c12, lt_t c13, pw, l1, l2, hq, trivial⟩ rfl rfl
    by_cases c14 : 0 < d14
    · rw [big (fun c => by have := (hhi.1 c); omega)]
      exact runA_pure mix (rmul_raws6 (nz x) (nz y) P e0 e1 e2 e3 e4 e5 e6 e7 f0 f1 f2 f3 f4 f5 f6 f7 d0 d1 d2 d3 d4 d5 d6 d7 d8 d9 d10 d11 d12 d13 d14 d15 A B) ⟨pe, pf, pd, lt_f c8, lt_f c9, lt_f c10, lt_f c11, lt_f c12, lt_f c13, lt_t c14, pw, l1, l2, hq, trivial⟩ rfl rfl
    by_cases c15 : 0 < d15
    · rw [big (fun c => by have := (hhi.1 c); omega)]
      exact runA_pure mix (rmul_raws7 (nz x) (nz y) P e0 e1 e2 e3 e4 e5 e6 e7 f0 f1 f2 f3 f4 f5 f6 f7 d0 d1 d2 d3 d4 d5 d6 d7 d8 d9 d10 d11 d12 d13 d14 d15 A B) ⟨pe, pf, pd, lt_f c8, lt_f c9, lt_f c10, lt_f c11, lt_f c12, lt_f c13, lt_f c14, pw, l1, l2, hq, lt_t c15, trivial⟩ rfl rfl
    have hz : hi = 0 := hhi.2 (by omega)
    have hlt := hbig.1 hz
    have hr : decide (¬ inR (P : Int)) = ng P := by
      unfold ng
      rw [Nat.mod_eq_of_lt hlt, decide_eq_decide]
      unfold inR
      simp only [Mw] at hlt
      omega
    rw [hr]
    exact runA_pure mix (rmul_raws8 (nz x) (nz y) P e0 e1 e2 e3 e4 e5 e6 e7 f0 f1 f2 f3 f4 f5 f6 f7 d0 d1 d2 d3 d4 d5 d6 d7 d8 d9 d10 d11 d12 d13 d14 d15 A B (ng P)) ⟨pe, pf, pd, lt_f c8, lt_f c9, lt_f c10, lt_f c11, lt_f c12, lt_f c13, lt_f c14, pw, l1, l2, hq, lt_f c15, l3, trivial⟩ rfl rfl
  · have hv := hc.2 hAB
    rw [hv]
    have hq : (A == B) = false := by simpa using hAB
    have big : hi ≠ 0 → decide (¬ inR (-(P : Int))) = true := by
      intro hn
      have : ¬ P < Mw := fun c => hn (hbig.2 c)
      rw [decide_eq_true_eq]
      unfold inR
      simp only [Mw] at this
      omega
    by_cases c8 : 0 < d8
    · rw [big (fun c => by have := (hhi.1 c); omega)]
      exact runA_pure mix (rmul_rawd0 (nz x) (nz y) P (nz (-(P : Int))) e0 e1 e2 e3 e4 e5 e6 e7 f0 f1 f2 f3 f4 f5 f6 f7 d0 d1 d2 d3 d4 d5 d6 d7 d8 d9 d10 d11 d12 d13 d14 d15 A B (subO 0 P)) ⟨pe, pf, pd, lt_t c8, pw, l1, l2, hq, n3, trivial⟩ rfl rfl
    by_cases c9 : 0 < d9
    · rw [big (fun c => by have := (hhi.1 c); omega)]
      exact runA_pure mix (rmul_rawd1 (nz x) (nz y) P (nz (-(P : Int))) e0 e1 e2 e3 e4 e5 e6 e7 f0 f1 f2 f3 f4 f5 f6 f7 d0 d1 d2 d3 d4 d5 d6 d7 d8 d9 d10 d11 d12 d13 d14 d15 A B (subO 0 P)) ⟨pe, pf, pd, lt_f c8, lt_t c9, pw, l1, l2, hq, n3, trivial⟩ rfl rfl
    by_cases c10 : 0 < d10
    · rw [big (fun c => by have := (hhi.1 c); omega)]
      exact runA_pure mix (rmul_rawd2 (nz x) (nz y) P (nz (-(P : Int))) e0 e1 e2 e3 e4 e5 e6 e7 f0 f1 f2 f3 f4 f5 f6 f7 d0 d1 d2 d3 d4 d5 d6 d7 d8 d9 d10 d11 d12 d13 d14 d15 A B (subO 0 P)) ⟨pe, pf, pd, lt_f c8, lt_f c9, lt_t c10, pw, l1, l2, hq, n3, trivial⟩ rfl rfl
    by_cases c11 : 0 < d11
    · rw [big (fun c => by have := (hhi.1 c); omega)]
      exact runA_pure mix (rmul_rawd3 (nz x) (nz y) P (nz (-(P : Int))) e0 e1 e2 e3 e4 e5 e6 e7 f0 f1 f2 f3 f4 f5 f6 f7 d0 d1 d2 d3 d4 d5 d6 d7 d8 d9 d10 d11 d12 d13 d14 d15 A B (subO 0 P)) ⟨pe, pf, pd, lt_f c8, lt_f c9, lt_f c10, lt_t c11, pw, l1, l2, hq, n3, trivial⟩ rfl rfl
    by_cases c12 : 0 < d12
    · rw [big (fun c => by have := (hhi.1 c); omega)]
      exact runA_pure mix (rmul_rawd4 (nz x) (nz y) P (nz (-(P : Int))) e0 e1 e2 e3 e4 e5 e6 e7 f0 f1 f2 f3 f4 f5 f6 f7 d0 d1 d2 d3 d4 d5 d6 d7 d8 d9 d10 d11 d12 d13 d14 d15 A B (subO 0 P)) ⟨pe, pf, pd, lt_f c8, lt_f c9, lt_f c10, lt_f c11, lt_t c12, pw, l1, l2, hq, n3, trivial⟩ rfl rfl
    by_cases c13 : 0 < d13
    · rw [big (fun c => by have := (hhi.1 c); omega)]
      exact runA_pure mix (rmul_rawd5 (nz x) (nz y) P (nz (-(P : Int))) e0 e1 e2 e3 e4 e5 e6 e7 f0 f1 f2 f3 f4 f5 f6 f7 d0 d1 d2 d3 d4 d5 d6 d7 d8 d9 d10 d11 d12 d13 d14 d15 A B (subO 0 P)) ⟨pe, pf, pd, lt_f c8, lt_f c9, lt_f c10, lt_f c11, lt_f c12, lt_t c13, pw, l1, l2, hq, n3, trivial⟩ rfl rfl
    by_cases c14 : 0 < d14
    · rw [big (fun c => by have := (hhi.1 c); omega)]
      exact runA_pure mix (rmul_rawd6 (nz x) (nz y) P (nz (-(P : Int))) e0 e1 e2 e3 e4 e5 e6 e7 f0 f1 f2 f3 f4 f5 f6 f7 d0 d1 d2 d3 d4 d5 d6 d7 d8 d9 d10 d11 d12 d13 d14 d15 A B (subO 0 P)) ⟨pe, pf, pd, lt_f c8, lt_f c9, lt_f c10, lt_f c11, lt_f c12, lt_f c13, lt_t c14, pw, l1, l2, hq, n3, trivial⟩ rfl rfl
    by_cases c15 : 0 < d15
    · rw [big (fun c => by have := (hhi.1 c); omega)]
      exact runA_pure mix (rmul_rawd7 (nz x) (nz y) P (nz (-(P : Int))) e0 e1 e2 e3 e4 e5 e6 e7 f0 f1 f2 f3 f4 f5 f6 f7 d0 d1 d2 d3 d4 d5 d6 d7 d8 d9 d10 d11 d12 d13 d14 d15 A B (subO 0 P)) ⟨pe, pf, pd, lt_f c8, lt_f c9, lt_f c10, lt_f c11, lt_f c12, lt_f c13, lt_f c14, pw, l1, l2, hq, n3, lt_t c15, trivial⟩ rfl rfl
    have hz : hi = 0 := hhi.2 (by omega)
    have hlt := hbig.1 hz
    rw [Nat.mod_eq_of_lt hlt] at he
    by_cases hP0 : P = 0
    · have hr : decide (¬ inR (-(P : Int))) = false := by rw [hP0]; decide
      rw [hr]
      rw [decide_eq_true hP0] at he
      exact runA_pure mix (rmul_rawz (nz x) (nz y) P (nz (-(P : Int))) e0 e1 e2 e3 e4 e5 e6 e7 f0 f1 f2 f3 f4 f5 f6 f7 d0 d1 d2 d3 d4 d5 d6 d7 d8 d9 d10 d11 d12 d13 d14 d15 A B (subO 0 P) false) ⟨pe, pf, pd, lt_f c8, lt_f c9, lt_f c10, lt_f c11, lt_f c12, lt_f c13, lt_f c14, pw, l1, l2, hq, n3, lt_f c15, by rw [he]; rfl, trivial⟩ rfl rfl
    · have hr : decide (¬ inR (-(P : Int))) = !(ng (nz (-(P : Int)))) := by
        rw [ng_mz, ← decide_not, decide_eq_decide]
        unfold inR
        simp only [Mw] at hlt ⊢
        omega
      rw [hr]
      rw [decide_eq_false hP0] at he
      exact runA_pure mix (rmul_rawd8 (nz x) (nz y) P (nz (-(P : Int))) e0 e1 e2 e3 e4 e5 e6 e7 f0 f1 f2 f3 f4 f5 f6 f7 d0 d1 d2 d3 d4 d5 d6 d7 d8 d9 d10 d11 d12 d13 d14 d15 A B (subO 0 P) (ng (nz (-(P : Int))))) ⟨pe, pf, pd, lt_f c8, lt_f c9, lt_f c10, lt_f c11, lt_f c12, lt_f c13, lt_f c14, pw, l1, l2, hq, n3, lt_f c15, by rw [he]; rfl, l4, trivial⟩ rfl rfl

end Go.Proofs.Ytpbhoamojocbpaa
