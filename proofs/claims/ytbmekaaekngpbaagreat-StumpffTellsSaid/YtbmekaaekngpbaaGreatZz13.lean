/- Texts of the seat, joined. -/
import Derived.Test.YtbmekaaekngpbaaGreatZz12
import Derived.Test.YtbmekaaekngpbaaGreatZz10
/- The least and the greatest of two and of four wide numbers. -/
namespace Go.Proofs.YtbmekaaekngpbaaGreat
open Go Go.RowKit
set_option linter.unusedSimpArgs false
set_option linter.unusedVariables false

def wl (l : List Nat) : Obj := .cells ⟨l.flatMap fun x => (wv x).cells.toList⟩ 59 (1, 4)
abbrev slU' (B n : Nat) : Value := .slice (some ⟨B, 0, none⟩) n capU
abbrev fv (f : Nat) : Value := .func (.func f) #[] #[]
/-- The lesser one, the greater one. -/
def mnI (x y : Int) : Int := if y < x then y else x
def mxI (x y : Int) : Int := if x < y then y else x
theorem sg_lt {x y : Int} : decide ((x - y).sign < 0) = decide (x < y) := by
  rw [decide_eq_decide]
  constructor
  · intro h
    rcases Int.lt_trichotomy (x - y) 0 with h1 | h1 | h1
    · omega
    · rw [h1] at h; exact absurd h (by decide)
    · rw [Int.sign_eq_one_of_pos h1] at h; omega
  · intro h
    rw [Int.sign_eq_neg_one_of_neg (by omega)]; decide
theorem sg_gt {x y : Int} : decide (0 < (x - y).sign) = decide (y < x) := by
  rw [decide_eq_decide]
  constructor
  · intro h
    rcases Int.lt_trichotomy (x - y) 0 with h1 | h1 | h1
    · rw [Int.sign_eq_neg_one_of_neg h1] at h; omega
    · rw [h1] at h; exact absurd h (by decide)
    · omega
  · intro h
    rw [Int.sign_eq_one_of_pos (by omega)]; decide

theorem mn2_t (a b : Nat) (s1 : Int) : runB Tryz.prog 112 #[slU' 0 2, fv 113] [(0, wl [a, b])] [n, n, t, n] [(113, rt (ii (s1)))] [] =
    some (rt (wv b), [(0, wl [a, b])], [PureX Tryz.prog 113 #[wv b, wv a] (rt (ii s1)), decide (s1 < 0) = true]) := by kernel_rfl
theorem mn2_f (a b : Nat) (s1 : Int) : runB Tryz.prog 112 #[slU' 0 2, fv 113] [(0, wl [a, b])] [n, n, f, n] [(113, rt (ii (s1)))] [] =
    some (rt (wv a), [(0, wl [a, b])], [PureX Tryz.prog 113 #[wv b, wv a] (rt (ii s1)), decide (s1 < 0) = false]) := by kernel_rfl
theorem mn4_ttt (a b c d : Nat) (s1 s2 s3 : Int) : runB Tryz.prog 112 #[slU' 0 4, fv 113] [(0, wl [a, b, c, d])] [n, n, t, n, t, n, t, n] [(113, rt (ii (s1))), (113, rt (ii (s2))), (113, rt (ii (s3)))] [] =
    some (rt (wv d), [(0, wl [a, b, c, d])], [PureX Tryz.prog 113 #[wv b, wv a] (rt (ii s1)), decide (s1 < 0) = true, PureX Tryz.prog 113 #[wv c, wv b] (rt (ii s2)), decide (s2 < 0) = true, PureX Tryz.prog 113 #[wv d, wv c] (rt (ii s3)), decide (s3 < 0) = true]) := by kernel_rfl
theorem mn4_ttf (a b c d : Nat) (s1 s2 s3 : Int) : runB Tryz.prog 112 #[slU' 0 4, fv 113] [(0, wl [a, b, c, d])] [n, n, t, n, t, n, f, n] [(113, rt (ii (s1))), (113, rt (ii (s2))), (113, rt (ii (s3)))] [] =
    some (rt (wv c), [(0, wl [a, b, c, d])], [PureX Tryz.prog 113 #[wv b, wv a] (rt (ii s1)), decide (s1 < 0) = true, PureX Tryz.prog 113 #[wv c, wv b] (rt (ii s2)), decide (s2 < 0) = true, PureX Tryz.prog 113 #[wv d, wv c] (rt (ii s3)), decide (s3 < 0) = false]) := by kernel_rfl
theorem mn4_tft (a b c d : Nat) (s1 s2 s3 : Int) : runB Tryz.prog 112 #[slU' 0 4, fv 113] [(0, wl [a, b, c, d])] [n, n, t, n, f, n, t, n] [(113, rt (ii (s1))), (113, rt (ii (s2))), (113, rt (ii (s3)))] [] =
    some (rt (wv d), [(0, wl [a, b, c, d])], [PureX Tryz.prog 113 #[wv b, wv a] (rt (ii s1)), decide (s1 < 0) = true, PureX Tryz.prog 113 #[wv c, wv b] (rt (ii s2)), decide (s2 < 0) = false, PureX Tryz.prog 113 #[wv d, wv b] (rt (ii s3)), decide (s3 < 0) = true]) := by kernel_rfl
theorem mn4_tff (a b c d : Nat) (s1 s2 s3 : Int) : runB Tryz.prog 112 #[slU' 0 4, fv 113] [(0, wl [a, b, c, d])] [n, n, t, n, f, n, f, n] [(113, rt (ii (s1))), (113, rt (ii (s2))), (113, rt (ii (s3)))] [] =
    some (rt (wv b), [(0, wl [a, b, c, d])], [PureX Tryz.prog 113 #[wv b, wv a] (rt (ii s1)), decide (s1 < 0) = true, PureX Tryz.prog 113 #[wv c, wv b] (rt (ii s2)), decide (s2 < 0) = false, PureX Tryz.prog 113 #[wv d, wv b] (rt (ii s3)), decide (s3 < 0) = false]) := by kernel_rfl
theorem mn4_ftt (a b c d : Nat) (s1 s2 s3 : Int) : runB Tryz.prog 112 #[slU' 0 4, fv 113] [(0, wl [a, b, c, d])] [n, n, f, n, t, n, t, n] [(113, rt (ii (s1))), (113, rt (ii (s2))), (113, rt (ii (s3)))] [] =
    some (rt (wv d), [(0, wl [a, b, c, d])], [PureX Tryz.prog 113 #[wv b, wv a] (rt (ii s1)), decide (s1 < 0) = false, PureX Tryz.prog 113 #[wv c, wv a] (rt (ii s2)), decide (s2 < 0) = true, PureX Tryz.prog 113 #[wv d, wv c] (rt (ii s3)), decide (s3 < 0) = true]) := by kernel_rfl
theorem mn4_ftf (a b c d : Nat) (s1 s2 s3 : Int) : runB Tryz.prog 112 #[slU' 0 4, fv 113] [(0, wl [a, b, c, d])] [n, n, f, n, t, n, f, n] [(113, rt (ii (s1))), (113, rt (ii (s2))), (113, rt (ii (s3)))] [] =
    some (rt (wv c), [(0, wl [a, b, c, d])], [PureX Tryz.prog 113 #[wv b, wv a] (rt (ii s1)), decide (s1 < 0) = false, PureX Tryz.prog 113 #[wv c, wv a] (rt (ii s2)), decide (s2 < 0) = true, PureX Tryz.prog 113 #[wv d, wv c] (rt (ii s3)), decide (s3 < 0) = false]) := by kernel_rfl
theorem mn4_fft (a b c d : Nat) (s1 s2 s3 : Int) : runB Tryz.prog 112 #[slU' 0 4, fv 113] [(0, wl [a, b, c, d])] [n, n, f, n, f, n, t, n] [(113, rt (ii (s1))), (113, rt (ii (s2))), (113, rt (ii (s3)))] [] =
    some (rt (wv d), [(0, wl [a, b, c, d])], [PureX Tryz.prog 113 #[wv b, wv a] (rt (ii s1)), decide (s1 < 0) = false, PureX Tryz.prog 113 #[wv c, wv a] (rt (ii s2)), decide (s2 < 0) = false, PureX Tryz.prog 113 #[wv d, wv a] (rt (ii s3)), decide (s3 < 0) = true]) := by kernel_rfl
theorem mn4_fff (a b c d : Nat) (s1 s2 s3 : Int) : runB Tryz.prog 112 #[slU' 0 4, fv 113] [(0, wl [a, b, c, d])] [n, n, f, n, f, n, f, n] [(113, rt (ii (s1))), (113, rt (ii (s2))), (113, rt (ii (s3)))] [] =
    some (rt (wv a), [(0, wl [a, b, c, d])], [PureX Tryz.prog 113 #[wv b, wv a] (rt (ii s1)), decide (s1 < 0) = false, PureX Tryz.prog 113 #[wv c, wv a] (rt (ii s2)), decide (s2 < 0) = false, PureX Tryz.prog 113 #[wv d, wv a] (rt (ii s3)), decide (s3 < 0) = false]) := by kernel_rfl
theorem mx2_t (a b : Nat) (s1 : Int) : runB Tryz.prog 115 #[slU' 0 2, fv 113] [(0, wl [a, b])] [n, n, t, n] [(113, rt (ii (s1)))] [] =
    some (rt (wv b), [(0, wl [a, b])], [PureX Tryz.prog 113 #[wv b, wv a] (rt (ii s1)), decide (0 < s1) = true]) := by kernel_rfl
theorem mx2_f (a b : Nat) (s1 : Int) : runB Tryz.prog 115 #[slU' 0 2, fv 113] [(0, wl [a, b])] [n, n, f, n] [(113, rt (ii (s1)))] [] =
    some (rt (wv a), [(0, wl [a, b])], [PureX Tryz.prog 113 #[wv b, wv a] (rt (ii s1)), decide (0 < s1) = false]) := by kernel_rfl
theorem mx4_ttt (a b c d : Nat) (s1 s2 s3 : Int) : runB Tryz.prog 115 #[slU' 0 4, fv 113] [(0, wl [a, b, c, d])] [n, n, t, n, t, n, t, n] [(113, rt (ii (s1))), (113, rt (ii (s2))), (113, rt (ii (s3)))] [] =
    some (rt (wv d), [(0, wl [a, b, c, d])], [PureX Tryz.prog 113 #[wv b, wv a] (rt (ii s1)), decide (0 < s1) = true, PureX Tryz.prog 113 #[wv c, wv b] (rt (ii s2)), decide (0 < s2) = true, PureX Tryz.prog 113 #[wv d, wv c] (rt (ii s3)), decide (0 < s3) = true]) := by kernel_rfl
theorem mx4_ttf (a b c d : Nat) (s1 s2 s3 : Int) : runB Tryz.prog 115 #[slU' 0 4, fv 113] [(0, wl [a, b, c, d])] [n, n, t, n, t, n, f, n] [(113, rt (ii (s1))), (113, rt (ii (s2))), (113, rt (ii (s3)))] [] =
    some (rt (wv c), [(0, wl [a, b, c, d])], [PureX Tryz.prog 113 #[wv b, wv a] (rt (ii s1)), decide (0 < s1) = true, PureX Tryz.prog 113 #[wv c, wv b] (rt (ii s2)), decide (0 < s2) = true, PureX Tryz.prog 113 #[wv d, wv c] (rt (ii s3)), decide (0 < s3) = false]) := by kernel_rfl
theorem mx4_tft (a b c d : Nat) (s1 s2 s3 : Int) : runB Tryz.prog 115 #[slU' 0 4, fv 113] [(0, wl [a, b, c, d])] [n, n, t, n, f, n, t, n] [(113, rt (ii (s1))), (113, rt (ii (s2))), (113, rt (ii (s3)))] [] =
    some (rt (wv d), [(0, wl [a, b, c, d])], [PureX Tryz.prog 113 #[wv b, wv a] (rt (ii s1)), decide (0 < s1) = true, PureX Tryz.prog 113 #[wv c, wv b] (rt (ii s2)), decide (0 < s2) = false, PureX Tryz.prog 113 #[wv d, wv b] (rt (ii s3)), decide (0 < s3) = true]) := by kernel_rfl
theorem mx4_tff (a b c d : Nat) (s1 s2 s3 : Int) : runB Tryz.prog 115 #[slU' 0 4, fv 113] [(0, wl [a, b, c, d])] [n, n, t, n, f, n, f, n] [(113, rt (ii (s1))), (113, rt (ii (s2))), (113, rt (ii (s3)))] [] =
    some (rt (wv b), [(0, wl [a, b, c, d])], [PureX Tryz.prog 113 #[wv b, wv a] (rt (ii s1)), decide (0 < s1) = true, PureX Tryz.prog 113 #[wv c, wv b] (rt (ii s2)), decide (0 < s2) = false, PureX Tryz.prog 113 #[wv d, wv b] (rt (ii s3)), decide (0 < s3) = false]) := by kernel_rfl
theorem mx4_ftt (a b c d : Nat) (s1 s2 s3 : Int) : runB Tryz.prog 115 #[slU' 0 4, fv 113] [(0, wl [a, b, c, d])] [n, n, f, n, t, n, t, n] [(113, rt (ii (s1))), (113, rt (ii (s2))), (113, rt (ii (s3)))] [] =
    some (rt (wv d), [(0, wl [a, b, c, d])], [PureX Tryz.prog 113 #[wv b, wv a] (rt (ii s1)), decide (0 < s1) = false, PureX Tryz.prog 113 #[wv c, wv a] (rt (ii s2)), decide (0 < s2) = true, PureX Tryz.prog 113 #[wv d, wv c] (rt (ii s3)), decide (0 < s3) = true]) := by kernel_rfl
theorem mx4_ftf (a b c d : Nat) (s1 s2 s3 : Int) : runB Tryz.prog 115 #[slU' 0 4, fv 113] [(0, wl [a, b, c, d])] [n, n, f, n, t, n, f, n] [(113, rt (ii (s1))), (113, rt (ii (s2))), (113, rt (ii (s3)))] [] =
    some (rt (wv c), [(0, wl [a, b, c, d])], [PureX Tryz.prog 113 #[wv b, wv a] (rt (ii s1)), decide (0 < s1) = false, PureX Tryz.prog 113 #[wv c, wv a] (rt (ii s2)), decide (0 < s2) = true, PureX Tryz.prog 113 #[wv d, wv c] (rt (ii s3)), decide (0 < s3) = false]) := by kernel_rfl
theorem mx4_fft (a b c d : Nat) (s1 s2 s3 : Int) : runB Tryz.prog 115 #[slU' 0 4, fv 113] [(0, wl [a, b, c, d])] [n, n, f, n, f, n, t, n] [(113, rt (ii (s1))), (113, rt (ii (s2))), (113, rt (ii (s3)))] [] =
    some (rt (wv d), [(0, wl [a, b, c, d])], [PureX Tryz.prog 113 #[wv b, wv a] (rt (ii s1)), decide (0 < s1) = false, PureX Tryz.prog 113 #[wv c, wv a] (rt (ii s2)), decide (0 < s2) = false, PureX Tryz.prog 113 #[wv d, wv a] (rt (ii s3)), decide (0 < s3) = true]) := by kernel_rfl
theorem mx4_fff (a b c d : Nat) (s1 s2 s3 : Int) : runB Tryz.prog 115 #[slU' 0 4, fv 113] [(0, wl [a, b, c, d])] [n, n, f, n, f, n, f, n] [(113, rt (ii (s1))), (113, rt (ii (s2))), (113, rt (ii (s3)))] [] =
    some (rt (wv a), [(0, wl [a, b, c, d])], [PureX Tryz.prog 113 #[wv b, wv a] (rt (ii s1)), decide (0 < s1) = false, PureX Tryz.prog 113 #[wv c, wv a] (rt (ii s2)), decide (0 < s2) = false, PureX Tryz.prog 113 #[wv d, wv a] (rt (ii s3)), decide (0 < s3) = false]) := by kernel_rfl
theorem mn2_0 {x1 x2 : Int} (h1 : inR x1) (h2 : inR x2) : CallsV Tryz.prog (.func 112) #[slU' 0 2, fv 113] [(0, wl [nz x1, nz x2])] (rt (wz (mnI x1 x2))) [(0, wl [nz x1, nz x2])] := by
  by_cases c1 : x2 < x1
  · refine (runB_calls mix (mn2_t (nz x1) (nz x2) ((x2 - x1).sign)) ⟨cmp_z h2 h1, sg_lt.trans (decide_eq_true c1), trivial⟩ rfl rfl rfl).to ?_ rfl
    simp only [mnI, if_pos c1]; rfl
  · refine (runB_calls mix (mn2_f (nz x1) (nz x2) ((x2 - x1).sign)) ⟨cmp_z h2 h1, sg_lt.trans (decide_eq_false c1), trivial⟩ rfl rfl rfl).to ?_ rfl
    simp only [mnI, if_neg c1]; rfl
theorem mn2 (B : Nat) {x1 x2 : Int} (h1 : inR x1) (h2 : inR x2) : CallsV Tryz.prog (.func 112) #[slU' B 2, fv 113] [(B, wl [nz x1, nz x2])] (rt (wz (mnI x1 x2))) [(B, wl [nz x1, nz x2])] :=
  (mn2_0 h1 h2).num (fun _ => B) (one_inj _) (fun _ h => h) rfl rfl rfl
theorem mn4_0 {x1 x2 x3 x4 : Int} (h1 : inR x1) (h2 : inR x2) (h3 : inR x3) (h4 : inR x4) : CallsV Tryz.prog (.func 112) #[slU' 0 4, fv 113] [(0, wl [nz x1, nz x2, nz x3, nz x4])] (rt (wz (mnI (mnI (mnI x1 x2) x3) x4))) [(0, wl [nz x1, nz x2, nz x3, nz x4])] := by
  by_cases c1 : x2 < x1
  · by_cases c2 : x3 < x2
    · by_cases c3 : x4 < x3
      · refine (runB_calls mix (mn4_ttt (nz x1) (nz x2) (nz x3) (nz x4) ((x2 - x1).sign) ((x3 - x2).sign) ((x4 - x3).sign)) ⟨cmp_z h2 h1, sg_lt.trans (decide_eq_true c1), cmp_z h3 h2, sg_lt.trans (decide_eq_true c2), cmp_z h4 h3, sg_lt.trans (decide_eq_true c3), trivial⟩ rfl rfl rfl).to ?_ rfl
        simp only [mnI, if_pos c1, if_pos c2, if_pos c3]; rfl
      · refine (runB_calls mix (mn4_ttf (nz x1) (nz x2) (nz x3) (nz x4) ((x2 - x1).sign) ((x3 - x2).sign) ((x4 - x3).sign)) ⟨cmp_z h2 h1, sg_lt.trans (decide_eq_true c1), cmp_z h3 h2, sg_lt.trans (decide_eq_true c2), cmp_z h4 h3, sg_lt.trans (decide_eq_false c3), trivial⟩ rfl rfl rfl).to ?_ rfl
        simp only [mnI, if_pos c1, if_pos c2, if_neg c3]; rfl
    · by_cases c3 : x4 < x2
      · refine (runB_calls mix (mn4_tft (nz x1) (nz x2) (nz x3) (nz x4) ((x2 - x1).sign) ((x3 - x2).sign) ((x4 - x2).sign)) ⟨cmp_z h2 h1, sg_lt.trans (decide_eq_true c1), cmp_z h3 h2, sg_lt.trans (decide_eq_false c2), cmp_z h4 h2, sg_lt.trans (decide_eq_true c3), trivial⟩ rfl rfl rfl).to ?_ rfl
        simp only [mnI, if_pos c1, if_neg c2, if_pos c3]; rfl
      · refine (runB_calls mix (mn4_tff (nz x1) (nz x2) (nz x3) (nz x4) ((x2 - x1).sign) ((x3 - x2).sign) ((x4 - x2).sign)) ⟨cmp_z h2 h1, sg_lt.trans (decide_eq_true c1), cmp_z h3 h2, sg_lt.trans (decide_eq_false c2), cmp_z h4 h2, sg_lt.trans (decide_eq_false c3), trivial⟩ rfl rfl rfl).to ?_ rfl
        simp only [mnI, if_pos c1, if_neg c2, if_neg c3]; rfl
  · by_cases c2 : x3 < x1
    · by_cases c3 : x4 < x3
      · refine (runB_calls mix (mn4_ftt (nz x1) (nz x2) (nz x3) (nz x4) ((x2 - x1).sign) ((x3 - x1).sign) ((x4 - x3).sign)) ⟨cmp_z h2 h1, sg_lt.trans (decide_eq_false c1), cmp_z h3 h1, sg_lt.trans (decide_eq_true c2), cmp_z h4 h3, sg_lt.trans (decide_eq_true c3), trivial⟩ rfl rfl rfl).to ?_ rfl
        simp only [mnI, if_neg c1, if_pos c2, if_pos c3]; rfl
      · refine (runB_calls mix (mn4_ftf (nz x1) (nz x2) (nz x3) (nz x4) ((x2 - x1).sign) ((x3 - x1).sign) ((x4 - x3).sign)) ⟨cmp_z h2 h1, sg_lt.trans (decide_eq_false c1), cmp_z h3 h1, sg_lt.trans (decide_eq_true c2), cmp_z h4 h3, sg_lt.trans (decide_eq_false c3), trivial⟩ rfl rfl rfl).to ?_ rfl
        simp only [mnI, if_neg c1, if_pos c2, if_neg c3]; rfl
    · by_cases c3 : x4 < x1
      · refine (runB_calls mix (mn4_fft (nz x1) (nz x2) (nz x3) (nz x4) ((x2 - x1).sign) ((x3 - x1).sign) ((x4 - x1).sign)) ⟨cmp_z h2 h1, sg_lt.trans (decide_eq_false c1), cmp_z h3 h1, sg_lt.trans (decide_eq_false c2), cmp_z h4 h1, sg_lt.trans (decide_eq_true c3), trivial⟩ rfl rfl rfl).to ?_ rfl
        simp only [mnI, if_neg c1, if_neg c2, if_pos c3]; rfl
      · refine (runB_calls mix (mn4_fff (nz x1) (nz x2) (nz x3) (nz x4) ((x2 - x1).sign) ((x3 - x1).sign) ((x4 - x1).sign)) ⟨cmp_z h2 h1, sg_lt.trans (decide_eq_false c1), cmp_z h3 h1, sg_lt.trans (decide_eq_false c2), cmp_z h4 h1, sg_lt.trans (decide_eq_false c3), trivial⟩ rfl rfl rfl).to ?_ rfl
        simp only [mnI, if_neg c1, if_neg c2, if_neg c3]; rfl
theorem mn4 (B : Nat) {x1 x2 x3 x4 : Int} (h1 : inR x1) (h2 : inR x2) (h3 : inR x3) (h4 : inR x4) : CallsV Tryz.prog (.func 112) #[slU' B 4, fv 113] [(B, wl [nz x1, nz x2, nz x3, nz x4])] (rt (wz (mnI (mnI (mnI x1 x2) x3) x4))) [(B, wl [nz x1, nz x2, nz x3, nz x4])] :=
  (mn4_0 h1 h2 h3 h4).num (fun _ => B) (one_inj _) (fun _ h => h) rfl rfl rfl
theorem mx2_0 {x1 x2 : Int} (h1 : inR x1) (h2 : inR x2) : CallsV Tryz.prog (.func 115) #[slU' 0 2, fv 113] [(0, wl [nz x1, nz x2])] (rt (wz (mxI x1 x2))) [(0, wl [nz x1, nz x2])] := by
  by_cases c1 : x1 < x2
  · refine (runB_calls mix (mx2_t (nz x1) (nz x2) ((x2 - x1).sign)) ⟨cmp_z h2 h1, sg_gt.trans (decide_eq_true c1), trivial⟩ rfl rfl rfl).to ?_ rfl
    simp only [mxI, if_pos c1]; rfl
  · refine (runB_calls mix (mx2_f (nz x1) (nz x2) ((x2 - x1).sign)) ⟨cmp_z h2 h1, sg_gt.trans (decide_eq_false c1), trivial⟩ rfl rfl rfl).to ?_ rfl
    simp only [mxI, if_neg c1]; rfl
theorem mx2 (B : Nat) {x1 x2 : Int} (h1 : inR x1) (h2 : inR x2) : CallsV Tryz.prog (.func 115) #[slU' B 2, fv 113] [(B, wl [nz x1, nz x2])] (rt (wz (mxI x1 x2))) [(B, wl [nz x1, nz x2])] :=
  (mx2_0 h1 h2).num (fun _ => B) (one_inj _) (fun _ h => h) rfl rfl rfl
theorem mx4_0 {x1 x2 x3 x4 : Int} (h1 : inR x1) (h2 : inR x2) (h3 : inR x3) (h4 : inR x4) : CallsV Tryz.prog (.func 115) #[slU' 0 4, fv 113] [(0, wl [nz x1, nz x2, nz x3, nz x4])] (rt (wz (mxI (mxI (mxI x1 x2) x3) x4))) [(0, wl [nz x1, nz x2, nz x3, nz x4])] := by
  by_cases c1 : x1 < x2
  · by_cases c2 : x2 < x3
    · by_cases c3 : x3 < x4
      · refine (runB_calls mix (mx4_ttt (nz x1) (nz x2) (nz x3) (nz x4) ((x2 - x1).sign) ((x3 - x2).sign) ((x4 - x3).sign)) ⟨cmp_z h2 h1, sg_gt.trans (decide_eq_true c1), cmp_z h3 h2, sg_gt.trans (decide_eq_true c2), cmp_z h4 h3, sg_gt.trans (decide_eq_true c3), trivial⟩ rfl rfl rfl).to ?_ rfl
        simp only [mxI, if_pos c1, if_pos c2, if_pos c3]; rfl
      · refine (runB_calls mix (mx4_ttf (nz x1) (nz x2) (nz x3) (nz x4) ((x2 - x1).sign) ((x3 - x2).sign) ((x4 - x3).sign)) ⟨cmp_z h2 h1, sg_gt.trans (decide_eq_true c1), cmp_z h3 h2, sg_gt.trans (decide_eq_true c2), cmp_z h4 h3, sg_gt.trans (decide_eq_false c3), trivial⟩ rfl rfl rfl).to ?_ rfl
        simp only [mxI, if_pos c1, if_pos c2, if_neg c3]; rfl
    · by_cases c3 : x2 < x4
      · refine (runB_calls mix (mx4_tft (nz x1) (nz x2) (nz x3) (nz x4) ((x2 - x1).sign) ((x3 - x2).sign) ((x4 - x2).sign)) ⟨cmp_z h2 h1, sg_gt.trans (decide_eq_true c1), cmp_z h3 h2, sg_gt.trans (decide_eq_false c2), cmp_z h4 h2, sg_gt.trans (decide_eq_true c3), trivial⟩ rfl rfl rfl).to ?_ rfl
        simp only [mxI, if_pos c1, if_neg c2, if_pos c3]; rfl
      · refine (runB_calls mix (mx4_tff (nz x1) (nz x2) (nz x3) (nz x4) ((x2 - x1).sign) ((x3 - x2).sign) ((x4 - x2).sign)) ⟨cmp_z h2 h1, sg_gt.trans (decide_eq_true c1), cmp_z h3 h2, sg_gt.trans (decide_eq_false c2), cmp_z h4 h2, sg_gt.trans (decide_eq_false c3), trivial⟩ rfl rfl rfl).to ?_ rfl
        simp only [mxI, if_pos c1, if_neg c2, if_neg c3]; rfl
  · by_cases c2 : x1 < x3
    · by_cases c3 : x3 < x4
      · refine (runB_calls mix (mx4_ftt (nz x1) (nz x2) (nz x3) (nz x4) ((x2 - x1).sign) ((x3 - x1).sign) ((x4 - x3).sign)) ⟨cmp_z h2 h1, sg_gt.trans (decide_eq_false c1), cmp_z h3 h1, sg_gt.trans (decide_eq_true c2), cmp_z h4 h3, sg_gt.trans (decide_eq_true c3), trivial⟩ rfl rfl rfl).to ?_ rfl
        simp only [mxI, if_neg c1, if_pos c2, if_pos c3]; rfl
      · refine (runB_calls mix (mx4_ftf (nz x1) (nz x2) (nz x3) (nz x4) ((x2 - x1).sign) ((x3 - x1).sign) ((x4 - x3).sign)) ⟨cmp_z h2 h1, sg_gt.trans (decide_eq_false c1), cmp_z h3 h1, sg_gt.trans (decide_eq_true c2), cmp_z h4 h3, sg_gt.trans (decide_eq_false c3), trivial⟩ rfl rfl rfl).to ?_ rfl
        simp only [mxI, if_neg c1, if_pos c2, if_neg c3]; rfl
    · by_cases c3 : x1 < x4
      · refine (runB_calls mix (mx4_fft (nz x1) (nz x2) (nz x3) (nz x4) ((x2 - x1).sign) ((x3 - x1).sign) ((x4 - x1).sign)) ⟨cmp_z h2 h1, sg_gt.trans (decide_eq_false c1), cmp_z h3 h1, sg_gt.trans (decide_eq_false c2), cmp_z h4 h1, sg_gt.trans (decide_eq_true c3), trivial⟩ rfl rfl rfl).to ?_ rfl
        simp only [mxI, if_neg c1, if_neg c2, if_pos c3]; rfl
      · refine (runB_calls mix (mx4_fff (nz x1) (nz x2) (nz x3) (nz x4) ((x2 - x1).sign) ((x3 - x1).sign) ((x4 - x1).sign)) ⟨cmp_z h2 h1, sg_gt.trans (decide_eq_false c1), cmp_z h3 h1, sg_gt.trans (decide_eq_false c2), cmp_z h4 h1, sg_gt.trans (decide_eq_false c3), trivial⟩ rfl rfl rfl).to ?_ rfl
        simp only [mxI, if_neg c1, if_neg c2, if_neg c3]; rfl
theorem mx4 (B : Nat) {x1 x2 x3 x4 : Int} (h1 : inR x1) (h2 : inR x2) (h3 : inR x3) (h4 : inR x4) : CallsV Tryz.prog (.func 115) #[slU' B 4, fv 113] [(B, wl [nz x1, nz x2, nz x3, nz x4])] (rt (wz (mxI (mxI (mxI x1 x2) x3) x4))) [(B, wl [nz x1, nz x2, nz x3, nz x4])] :=
  (mx4_0 h1 h2 h3 h4).num (fun _ => B) (one_inj _) (fun _ h => h) rfl rfl rfl

end Go.Proofs.YtbmekaaekngpbaaGreat

/- The contracts of package ival: ends, sums, products, parts, hulls of two and three, meets, what is held, widths. -/
namespace Go.Proofs.YtbmekaaekngpbaaGreat
open Go Go.RowKit
set_option linter.unusedSimpArgs false
set_option linter.unusedVariables false

abbrev IV := Int × Int × Bool
def ivv (x : IV) : Value := iv x.1 x.2.1 x.2.2
def okV (x : IV) : Bool := okI x.1 x.2.1 x.2.2
def bdV : IV := (0, 0, true)
def mkV (lo hi : Int) : IV := if okI lo hi false = true then (lo, hi, false) else bdV
theorem okI_iff {l h : Int} {b : Bool} : okI l h b = true ↔ b = false ∧ -1152921504606846976 ≤ l ∧ l ≤ h ∧ h ≤ 1152921504606846976 := by
  cases b <;> simp [okI, and_assoc]
theorem okV_iff {x : IV} : okV x = true ↔ x.2.2 = false ∧ -1152921504606846976 ≤ x.1 ∧ x.1 ≤ x.2.1 ∧ x.2.1 ≤ 1152921504606846976 := okI_iff
theorem wrapI {z : Int} (h : -9223372036854775808 ≤ z ∧ z < 9223372036854775808) : IntKind.i64.wrap z = z := by
  rw [IntKind.wrap_i64]
  omega

theorem btw_t (x y : Int) : runB Tryz.prog 57 #[ii x, ii y] [] [] [] [(55, rt (bb true), [(1002, oiv [(x, y, false)])])] =
    some (rt (iv x y false), [], [CallsV Tryz.prog (.func 55) #[sl 1002 1] [(1002, oiv [(x, y, false)])] (rt (bb true)) [(1002, oiv [(x, y, false)])]]) := by kernel_rfl
theorem btw_f (x y : Int) : runB Tryz.prog 57 #[ii x, ii y] [] [] [] [(55, rt (bb false), [(1002, oiv [(x, y, false)])])] =
    some (rt (iv 0 0 true), [], [CallsV Tryz.prog (.func 55) #[sl 1002 1] [(1002, oiv [(x, y, false)])] (rt (bb false)) [(1002, oiv [(x, y, false)])]]) := by kernel_rfl
theorem btw (x y : Int) : PureX Tryz.prog 57 #[ii x, ii y] (rt (ivv (mkV x y))) := by
  have h := fine1 1002 x y false
  unfold mkV
  cases hk : okI x y false
  · rw [hk] at h
    exact runB_pure mix (btw_f x y) ⟨h, trivial⟩ rfl rfl
  · rw [hk] at h
    exact runB_pure mix (btw_t x y) ⟨h, trivial⟩ rfl rfl
theorem pt_raw (x a b : Int) (c : Bool) : runB Tryz.prog 35 #[ii x] [] [] [(57, rt (iv a b c))] [] = some (rt (iv a b c), [], [PureX Tryz.prog 57 #[ii x, ii x] (rt (iv a b c))]) := by kernel_rfl
theorem point_v (x : Int) : PureX Tryz.prog 35 #[ii x] (rt (ivv (mkV x x))) := runB_pure mix (pt_raw x _ _ _) ⟨btw x x, trivial⟩ rfl rfl
theorem make_raw (x y a b : Int) (c : Bool) : runB Tryz.prog 56 #[ii x, ii y] [] [] [(57, rt (iv a b c))] [] = some (rt (iv a b c), [], [PureX Tryz.prog 57 #[ii (mnI x y), ii (mxI x y)] (rt (iv a b c))]) := by kernel_rfl
theorem make_v (x y : Int) : PureX Tryz.prog 56 #[ii x, ii y] (rt (ivv (mkV (mnI x y) (mxI x y)))) := runB_pure mix (make_raw x y _ _ _) ⟨btw _ _, trivial⟩ rfl rfl
/-- An end, or what is beyond all ends. -/
def endI (z : Int) : Int := if isI z then z else 9223372036854775807
theorem end_t (x : Nat) (m : Int) : runB Tryz.prog 116 #[wv x] [] [] [(92, rt (tp [ii m, bb true]))] [] = some (rt (ii m), [], [PureX Tryz.prog 92 #[wv x] (rt (tp [ii m, bb true]))]) := by kernel_rfl
theorem end_f (x : Nat) (m : Int) : runB Tryz.prog 116 #[wv x] [] [] [(92, rt (tp [ii m, bb false]))] [] = some (rt (ii 9223372036854775807), [], [PureX Tryz.prog 92 #[wv x] (rt (tp [ii m, bb false]))]) := by kernel_rfl
theorem end_v {x : Int} (h : inR x) : PureX Tryz.prog 116 #[wz x] (rt (ii (endI x))) := by
  have k := int_z h
  unfold endI
  by_cases hi : isI x
  · rw [decide_eq_true hi, if_pos hi] at k
    rw [if_pos hi]
    exact runB_pure mix (end_t (nz x) x) ⟨k, trivial⟩ rfl rfl
  · rw [decide_eq_false hi, if_neg hi] at k
    rw [if_neg hi]
    exact runB_pure mix (end_f (nz x) 0) ⟨k, trivial⟩ rfl rfl

section
variable (l h : Int) (p : Bool) (m k : Int) (q : Bool)
theorem add_t (a b : Int) (c : Bool) : runB Tryz.prog 65 #[iv l h p, iv m k q] [] [] [(57, rt (iv a b c))] [(55, rt (bb true), [(1003, oiv [(l, h, p), (m, k, q)])])] =
    some (rt (iv a b c), [], [CallsV Tryz.prog (.func 55) #[sl 1003 2] [(1003, oiv [(l, h, p), (m, k, q)])] (rt (bb true)) [(1003, oiv [(l, h, p), (m, k, q)])], PureX Tryz.prog 57 #[ii (IntKind.i64.wrap (l + m)), ii (IntKind.i64.wrap (h + k))] (rt (iv a b c))]) := by kernel_rfl
theorem add_f : runB Tryz.prog 65 #[iv l h p, iv m k q] [] [] [] [(55, rt (bb false), [(1003, oiv [(l, h, p), (m, k, q)])])] =
    some (rt (iv 0 0 true), [], [CallsV Tryz.prog (.func 55) #[sl 1003 2] [(1003, oiv [(l, h, p), (m, k, q)])] (rt (bb false)) [(1003, oiv [(l, h, p), (m, k, q)])]]) := by kernel_rfl
theorem ineg_t (a b : Int) (c : Bool) : runB Tryz.prog 82 #[iv l h p] [] [] [(57, rt (iv a b c))] [(55, rt (bb true), [(1002, oiv [(l, h, p)])])] =
    some (rt (iv a b c), [], [CallsV Tryz.prog (.func 55) #[sl 1002 1] [(1002, oiv [(l, h, p)])] (rt (bb true)) [(1002, oiv [(l, h, p)])], PureX Tryz.prog 57 #[ii (IntKind.i64.wrap (0 - h)), ii (IntKind.i64.wrap (0 - l))] (rt (iv a b c))]) := by kernel_rfl
theorem ineg_f : runB Tryz.prog 82 #[iv l h p] [] [] [] [(55, rt (bb false), [(1002, oiv [(l, h, p)])])] =
    some (rt (iv 0 0 true), [], [CallsV Tryz.prog (.func 55) #[sl 1002 1] [(1002, oiv [(l, h, p)])] (rt (bb false)) [(1002, oiv [(l, h, p)])]]) := by kernel_rfl
theorem holds_tt : runB Tryz.prog 33 #[iv l h p, iv m k q] [] [n, n, n, n, n, t, n, n, n, n] [] [(55, rt (bb true), [(1002, oiv [(l, h, p), (m, k, q)])])] =
    some (rt (bb (decide (k ≤ h))), [], [CallsV Tryz.prog (.func 55) #[sl 1002 2] [(1002, oiv [(l, h, p), (m, k, q)])] (rt (bb true)) [(1002, oiv [(l, h, p), (m, k, q)])], decide (l ≤ m) = true]) := by kernel_rfl
theorem holds_tf : runB Tryz.prog 33 #[iv l h p, iv m k q] [] [n, n, n, n, n, f, n, n, n, n] [] [(55, rt (bb true), [(1002, oiv [(l, h, p), (m, k, q)])])] =
    some (rt (bb false), [], [CallsV Tryz.prog (.func 55) #[sl 1002 2] [(1002, oiv [(l, h, p), (m, k, q)])] (rt (bb true)) [(1002, oiv [(l, h, p), (m, k, q)])], decide (l ≤ m) = false]) := by kernel_rfl
theorem holds_f : runB Tryz.prog 33 #[iv l h p, iv m k q] [] [] [] [(55, rt (bb false), [(1002, oiv [(l, h, p), (m, k, q)])])] =
    some (rt (bb false), [], [CallsV Tryz.prog (.func 55) #[sl 1002 2] [(1002, oiv [(l, h, p), (m, k, q)])] (rt (bb false)) [(1002, oiv [(l, h, p), (m, k, q)])]]) := by kernel_rfl
end

def addV (x y : IV) : IV := if (okV x && okV y) = true then mkV (x.1 + y.1) (x.2.1 + y.2.1) else bdV
def subV (x y : IV) : IV := if (okV x && okV y) = true then mkV (x.1 - y.2.1) (x.2.1 - y.1) else bdV
def negV (x : IV) : IV := if okV x = true then mkV (-x.2.1) (-x.1) else bdV
def meetV (x y : IV) : IV := if (okV x && okV y) = true then mkV (mxI x.1 y.1) (mnI x.2.1 y.2.1) else bdV
def holdsV (x y : IV) : Bool := okV x && okV y && decide (x.1 ≤ y.1) && decide (y.2.1 ≤ x.2.1)
def widthV (x : IV) : Int := if okV x = true then x.2.1 - x.1 else -1
theorem ok2 {x y : IV} (h : (okV x && okV y) = true) : (x.2.2 = false ∧ -1152921504606846976 ≤ x.1 ∧ x.1 ≤ x.2.1 ∧ x.2.1 ≤ 1152921504606846976) ∧ (y.2.2 = false ∧ -1152921504606846976 ≤ y.1 ∧ y.1 ≤ y.2.1 ∧ y.2.1 ≤ 1152921504606846976) := by
  rw [Bool.and_eq_true] at h
  exact ⟨okV_iff.1 h.1, okV_iff.1 h.2⟩
theorem add_v (x y : IV) : PureX Tryz.prog 65 #[ivv x, ivv y] (rt (ivv (addV x y))) := by
  have hf := fine2 1003 x.1 x.2.1 x.2.2 y.1 y.2.1 y.2.2
  unfold addV
  cases hk : okV x && okV y
  · rw [show (okI x.1 x.2.1 x.2.2 && okI y.1 y.2.1 y.2.2) = false from hk] at hf
    exact runB_pure mix (add_f _ _ _ _ _ _) ⟨hf, trivial⟩ rfl rfl
  · rw [show (okI x.1 x.2.1 x.2.2 && okI y.1 y.2.1 y.2.2) = true from hk] at hf
    obtain ⟨h1, h2⟩ := ok2 hk
    have e := btw (IntKind.i64.wrap (x.1 + y.1)) (IntKind.i64.wrap (x.2.1 + y.2.1))
    have r := runB_pure mix (add_t _ _ _ _ _ _ _ _ _) ⟨hf, e, trivial⟩ rfl rfl
    rw [wrapI (by omega), wrapI (by omega)] at r
    exact r
theorem ineg_v (x : IV) : PureX Tryz.prog 82 #[ivv x] (rt (ivv (negV x))) := by
  have hf := fine1 1002 x.1 x.2.1 x.2.2
  unfold negV
  cases hk : okV x
  · rw [show okI x.1 x.2.1 x.2.2 = false from hk] at hf
    exact runB_pure mix (ineg_f _ _ _) ⟨hf, trivial⟩ rfl rfl
  · rw [show okI x.1 x.2.1 x.2.2 = true from hk] at hf
    have h1 := okV_iff.1 hk
    have e := btw (IntKind.i64.wrap (0 - x.2.1)) (IntKind.i64.wrap (0 - x.1))
    have r := runB_pure mix (ineg_t _ _ _ _ _ _) ⟨hf, e, trivial⟩ rfl rfl
    rw [wrapI (by omega), wrapI (by omega), Int.zero_sub, Int.zero_sub] at r
    exact r
theorem holds_v (x y : IV) : PureX Tryz.prog 33 #[ivv x, ivv y] (rt (bb (holdsV x y))) := by
  have hf := fine2 1002 x.1 x.2.1 x.2.2 y.1 y.2.1 y.2.2
  unfold holdsV
  cases hk : okV x && okV y
  · rw [show (okI x.1 x.2.1 x.2.2 && okI y.1 y.2.1 y.2.2) = false from hk] at hf
    exact runB_pure mix (holds_f _ _ _ _ _ _) ⟨hf, trivial⟩ rfl rfl
  · rw [show (okI x.1 x.2.1 x.2.2 && okI y.1 y.2.1 y.2.2) = true from hk] at hf
    by_cases hc : x.1 ≤ y.1
    · rw [decide_eq_true hc]
      exact runB_pure mix (holds_tt _ _ _ _ _ _) ⟨hf, decide_eq_true hc, trivial⟩ rfl rfl
    · rw [decide_eq_false hc]
      exact runB_pure mix (holds_tf _ _ _ _ _ _) ⟨hf, decide_eq_false hc, trivial⟩ rfl rfl
/-! Products and parts. -/
section
variable (l h : Int) (p : Bool) (m k : Int) (q : Bool) (o : Nat) (a1 b1 p1 a2 b2 p2 a3 b3 p3 a4 b4 p4 mn mx g e : Nat) (q1 q2 q3 q4 : Bool) (e1 e2 y z a b : Int) (c : Bool)
theorem imul_t : runB Tryz.prog 61 #[iv l h p, iv m k q] [] [] [(80, rt (wv o)), (80, rt (wv a1)), (80, rt (wv b1)), (91, rt (tp [wv p1, bb q1])), (80, rt (wv a2)), (80, rt (wv b2)), (91, rt (tp [wv p2, bb q2])), (80, rt (wv a3)), (80, rt (wv b3)), (91, rt (tp [wv p3, bb q3])), (80, rt (wv a4)), (80, rt (wv b4)), (91, rt (tp [wv p4, bb q4])), (111, rt (tp [wv g, ii e1])), (114, rt (tp [wv e, ii e2])), (116, rt (ii y)), (116, rt (ii z)), (57, rt (iv a b c))]
      [(55, rt (bb true), [(1003, oiv [(l, h, p), (m, k, q)])]), (112, rt (wv mn), [(1027, wl [p1, p2, p3, p4])]), (115, rt (wv mx), [(1027, wl [p1, p2, p3, p4])])] =
    some (rt (iv a b c), [], [CallsV Tryz.prog (.func 55) #[sl 1003 2] [(1003, oiv [(l, h, p), (m, k, q)])] (rt (bb true)) [(1003, oiv [(l, h, p), (m, k, q)])],
      PureX Tryz.prog 80 #[ii 1073741824] (rt (wv o)),
      PureX Tryz.prog 80 #[ii l] (rt (wv a1)), PureX Tryz.prog 80 #[ii m] (rt (wv b1)), PureX Tryz.prog 91 #[wv a1, wv b1] (rt (tp [wv p1, bb q1])),
      PureX Tryz.prog 80 #[ii h] (rt (wv a2)), PureX Tryz.prog 80 #[ii m] (rt (wv b2)), PureX Tryz.prog 91 #[wv a2, wv b2] (rt (tp [wv p2, bb q2])),
      PureX Tryz.prog 80 #[ii l] (rt (wv a3)), PureX Tryz.prog 80 #[ii k] (rt (wv b3)), PureX Tryz.prog 91 #[wv a3, wv b3] (rt (tp [wv p3, bb q3])),
      PureX Tryz.prog 80 #[ii h] (rt (wv a4)), PureX Tryz.prog 80 #[ii k] (rt (wv b4)), PureX Tryz.prog 91 #[wv a4, wv b4] (rt (tp [wv p4, bb q4])),
      CallsV Tryz.prog (.func 112) #[slU' 1027 4, fv 113] [(1027, wl [p1, p2, p3, p4])] (rt (wv mn)) [(1027, wl [p1, p2, p3, p4])],
      PureX Tryz.prog 111 #[wv mn, wv o] (rt (tp [wv g, ii e1])),
      CallsV Tryz.prog (.func 115) #[slU' 1027 4, fv 113] [(1027, wl [p1, p2, p3, p4])] (rt (wv mx)) [(1027, wl [p1, p2, p3, p4])],
      PureX Tryz.prog 114 #[wv mx, wv o] (rt (tp [wv e, ii e2])),
      PureX Tryz.prog 116 #[wv g] (rt (ii y)), PureX Tryz.prog 116 #[wv e] (rt (ii z)), PureX Tryz.prog 57 #[ii y, ii z] (rt (iv a b c))]) := by kernel_rfl
theorem imul_f : runB Tryz.prog 61 #[iv l h p, iv m k q] [] [] [] [(55, rt (bb false), [(1003, oiv [(l, h, p), (m, k, q)])])] =
    some (rt (iv 0 0 true), [], [CallsV Tryz.prog (.func 55) #[sl 1003 2] [(1003, oiv [(l, h, p), (m, k, q)])] (rt (bb false)) [(1003, oiv [(l, h, p), (m, k, q)])]]) := by kernel_rfl
variable (d x : Int) (oo : Nat) (qo : Bool) (l3 h3 : Int) (c3 : Bool)
theorem part_0 : runB Tryz.prog 60 #[iv l h p, ii x, ii d] [] [t] [] [] = some (rt (iv 0 0 true), [], [(d == 0) = true]) := by kernel_rfl
theorem part_pf : runB Tryz.prog 60 #[iv l h p, ii x, ii d] [] [f, f, n] [(80, rt (wv o))] [(55, rt (bb false), [(1004, oiv [(l, h, p)])])] =
    some (rt (iv 0 0 true), [], [(d == 0) = false, PureX Tryz.prog 80 #[ii d] (rt (wv o)), decide (d < 0) = false, CallsV Tryz.prog (.func 55) #[sl 1004 1] [(1004, oiv [(l, h, p)])] (rt (bb false)) [(1004, oiv [(l, h, p)])]]) := by kernel_rfl
theorem part_pt : runB Tryz.prog 60 #[iv l h p, ii x, ii d] [] [f, f, n, n, n, n, n, n, n, n] [(80, rt (wv o)), (80, rt (wv a1)), (80, rt (wv b1)), (91, rt (tp [wv p1, bb q1])), (80, rt (wv a2)), (80, rt (wv b2)), (91, rt (tp [wv p2, bb q2])), (111, rt (tp [wv g, ii e1])), (114, rt (tp [wv e, ii e2])), (116, rt (ii y)), (116, rt (ii z)), (57, rt (iv a b c))]
      [(55, rt (bb true), [(1004, oiv [(l, h, p)])]), (112, rt (wv mn), [(1020, wl [p1, p2])]), (115, rt (wv mx), [(1020, wl [p1, p2])])] =
    some (rt (iv a b c), [], [(d == 0) = false, PureX Tryz.prog 80 #[ii d] (rt (wv o)), decide (d < 0) = false, CallsV Tryz.prog (.func 55) #[sl 1004 1] [(1004, oiv [(l, h, p)])] (rt (bb true)) [(1004, oiv [(l, h, p)])],
      PureX Tryz.prog 80 #[ii l] (rt (wv a1)), PureX Tryz.prog 80 #[ii x] (rt (wv b1)), PureX Tryz.prog 91 #[wv a1, wv b1] (rt (tp [wv p1, bb q1])),
      PureX Tryz.prog 80 #[ii h] (rt (wv a2)), PureX Tryz.prog 80 #[ii x] (rt (wv b2)), PureX Tryz.prog 91 #[wv a2, wv b2] (rt (tp [wv p2, bb q2])),
      CallsV Tryz.prog (.func 112) #[slU' 1020 2, fv 113] [(1020, wl [p1, p2])] (rt (wv mn)) [(1020, wl [p1, p2])],
      PureX Tryz.prog 111 #[wv mn, wv o] (rt (tp [wv g, ii e1])),
      CallsV Tryz.prog (.func 115) #[slU' 1020 2, fv 113] [(1020, wl [p1, p2])] (rt (wv mx)) [(1020, wl [p1, p2])],
      PureX Tryz.prog 114 #[wv mx, wv o] (rt (tp [wv e, ii e2])),
      PureX Tryz.prog 116 #[wv g] (rt (ii y)), PureX Tryz.prog 116 #[wv e] (rt (ii z)), PureX Tryz.prog 57 #[ii y, ii z] (rt (iv a b c))]) := by kernel_rfl
theorem part_nf : runB Tryz.prog 60 #[iv l h p, ii x, ii d] [] [f, t, n] [(80, rt (wv o)), (81, rt (tp [wv oo, bb qo])), (82, rt (iv l3 h3 c3))] [(55, rt (bb false), [(1004, oiv [(l3, h3, c3)])])] =
    some (rt (iv 0 0 true), [], [(d == 0) = false, PureX Tryz.prog 80 #[ii d] (rt (wv o)), decide (d < 0) = true, PureX Tryz.prog 81 #[wv o] (rt (tp [wv oo, bb qo])), PureX Tryz.prog 82 #[iv l h p] (rt (iv l3 h3 c3)), CallsV Tryz.prog (.func 55) #[sl 1004 1] [(1004, oiv [(l3, h3, c3)])] (rt (bb false)) [(1004, oiv [(l3, h3, c3)])]]) := by kernel_rfl
theorem part_nt : runB Tryz.prog 60 #[iv l h p, ii x, ii d] [] [f, t, n, n, n, n, n, n, n, n] [(80, rt (wv o)), (81, rt (tp [wv oo, bb qo])), (82, rt (iv l3 h3 c3)), (80, rt (wv a1)), (80, rt (wv b1)), (91, rt (tp [wv p1, bb q1])), (80, rt (wv a2)), (80, rt (wv b2)), (91, rt (tp [wv p2, bb q2])), (111, rt (tp [wv g, ii e1])), (114, rt (tp [wv e, ii e2])), (116, rt (ii y)), (116, rt (ii z)), (57, rt (iv a b c))]
      [(55, rt (bb true), [(1004, oiv [(l3, h3, c3)])]), (112, rt (wv mn), [(1020, wl [p1, p2])]), (115, rt (wv mx), [(1020, wl [p1, p2])])] =
    some (rt (iv a b c), [], [(d == 0) = false, PureX Tryz.prog 80 #[ii d] (rt (wv o)), decide (d < 0) = true, PureX Tryz.prog 81 #[wv o] (rt (tp [wv oo, bb qo])), PureX Tryz.prog 82 #[iv l h p] (rt (iv l3 h3 c3)), CallsV Tryz.prog (.func 55) #[sl 1004 1] [(1004, oiv [(l3, h3, c3)])] (rt (bb true)) [(1004, oiv [(l3, h3, c3)])],
      PureX Tryz.prog 80 #[ii l3] (rt (wv a1)), PureX Tryz.prog 80 #[ii x] (rt (wv b1)), PureX Tryz.prog 91 #[wv a1, wv b1] (rt (tp [wv p1, bb q1])),
      PureX Tryz.prog 80 #[ii h3] (rt (wv a2)), PureX Tryz.prog 80 #[ii x] (rt (wv b2)), PureX Tryz.prog 91 #[wv a2, wv b2] (rt (tp [wv p2, bb q2])),
      CallsV Tryz.prog (.func 112) #[slU' 1020 2, fv 113] [(1020, wl [p1, p2])] (rt (wv mn)) [(1020, wl [p1, p2])],
      PureX Tryz.prog 111 #[wv mn, wv oo] (rt (tp [wv g, ii e1])),
      CallsV Tryz.prog (.func 115) #[slU' 1020 2, fv 113] [(1020, wl [p1, p2])] (rt (wv mx)) [(1020, wl [p1, p2])],
      PureX Tryz.prog 114 #[wv mx, wv oo] (rt (tp [wv e, ii e2])),
      PureX Tryz.prog 116 #[wv g] (rt (ii y)), PureX Tryz.prog 116 #[wv e] (rt (ii z)), PureX Tryz.prog 57 #[ii y, ii z] (rt (iv a b c))]) := by kernel_rfl
end
theorem iof_raw (x l h : Int) (b : Bool) (m k : Int) (c : Bool) : runB Tryz.prog 63 #[ii x] [] [] [(35, rt (iv l h b)), (60, rt (iv m k c))] [] =
    some (rt (iv m k c), [], [PureX Tryz.prog 35 #[ii x] (rt (iv l h b)), PureX Tryz.prog 60 #[iv l h b, ii 1073741824, ii 1] (rt (iv m k c))]) := by kernel_rfl

/-- Outward, by a number above 0. -/
def outV (mn mx by_ : Int) : IV := mkV (endI (flI mn by_)) (endI (ceI mx by_))
def mn4I (a b c d : Int) : Int := mnI (mnI (mnI a b) c) d
def mx4I (a b c d : Int) : Int := mxI (mxI (mxI a b) c) d
def mulV (x y : IV) : IV := if (okV x && okV y) = true then outV (mn4I (x.1 * y.1) (x.2.1 * y.1) (x.1 * y.2.1) (x.2.1 * y.2.1)) (mx4I (x.1 * y.1) (x.2.1 * y.1) (x.1 * y.2.1) (x.2.1 * y.2.1)) 1073741824 else bdV
def partP (x : IV) (n d : Int) : IV := if okV x = true then outV (mnI (x.1 * n) (x.2.1 * n)) (mxI (x.1 * n) (x.2.1 * n)) d else bdV
def partV (x : IV) (n d : Int) : IV := if d = 0 then bdV else if d < 0 then partP (negV x) n (-d) else partP x n d
theorem mnI_p {Q : Int → Prop} {x y : Int} (h1 : Q x) (h2 : Q y) : Q (mnI x y) := by unfold mnI; split <;> assumption
theorem mxI_p {Q : Int → Prop} {x y : Int} (h1 : Q x) (h2 : Q y) : Q (mxI x y) := by unfold mxI; split <;> assumption
theorem imul_v (x y : IV) : PureX Tryz.prog 61 #[ivv x, ivv y] (rt (ivv (mulV x y))) := by
  have hf := fine2 1003 x.1 x.2.1 x.2.2 y.1 y.2.1 y.2.2
  unfold mulV
  cases hk : okV x && okV y
  · rw [show (okI x.1 x.2.1 x.2.2 && okI y.1 y.2.1 y.2.2) = false from hk] at hf
    exact runB_pure mix (imul_f _ _ _ _ _ _) ⟨hf, trivial⟩ rfl rfl
  · rw [show (okI x.1 x.2.1 x.2.2 && okI y.1 y.2.1 y.2.2) = true from hk] at hf
    obtain ⟨h1, h2⟩ := ok2 hk
    have i1 : isI x.1 := by unfold isI; omega
    have i2 : isI x.2.1 := by unfold isI; omega
    have j1 : isI y.1 := by unfold isI; omega
    have j2 : isI y.2.1 := by unfold isI; omega
    obtain ⟨r1, s1⟩ := ii_in i1 j1
    obtain ⟨r2, s2⟩ := ii_in i2 j1
    obtain ⟨r3, s3⟩ := ii_in i1 j2
    obtain ⟨r4, s4⟩ := ii_in i2 j2
    have rn : inR (mn4I (x.1 * y.1) (x.2.1 * y.1) (x.1 * y.2.1) (x.2.1 * y.2.1)) := mnI_p (mnI_p (mnI_p r1 r2) r3) r4
    have rx : inR (mx4I (x.1 * y.1) (x.2.1 * y.1) (x.1 * y.2.1) (x.2.1 * y.2.1)) := mxI_p (mxI_p (mxI_p r1 r2) r3) r4
    have sn : mn4I (x.1 * y.1) (x.2.1 * y.1) (x.1 * y.2.1) (x.2.1 * y.2.1) ≠ least := mnI_p (Q := fun z => z ≠ least) (mnI_p (Q := fun z => z ≠ least) (mnI_p (Q := fun z => z ≠ least) s1 s2) s3) s4
    have sx : mx4I (x.1 * y.1) (x.2.1 * y.1) (x.1 * y.2.1) (x.2.1 * y.2.1) ≠ least := mxI_p (Q := fun z => z ≠ least) (mxI_p (Q := fun z => z ≠ least) (mxI_p (Q := fun z => z ≠ least) s1 s2) s3) s4
    have ho : inR 1073741824 := by decide
    have ho1 : (1073741824 : Int) ≠ least := by decide
    exact runB_pure mix (imul_t _ _ _ _ _ _ (nz 1073741824) (nz x.1) (nz y.1) (nz (x.1 * y.1)) (nz x.2.1) (nz y.1) (nz (x.2.1 * y.1)) (nz x.1) (nz y.2.1) (nz (x.1 * y.2.1)) (nz x.2.1) (nz y.2.1) (nz (x.2.1 * y.2.1)) (nz (mn4I _ _ _ _)) (nz (mx4I _ _ _ _)) (nz (flI (mn4I _ _ _ _) 1073741824)) (nz (ceI (mx4I _ _ _ _) 1073741824)) _ _ _ _ _ _ _ _ _ _ _)
      ⟨hf, of_z (by decide), of_z i1, of_z j1, mul_z (isI_in i1) (isI_in j1), of_z i2, of_z j1, mul_z (isI_in i2) (isI_in j1), of_z i1, of_z j2, mul_z (isI_in i1) (isI_in j2), of_z i2, of_z j2, mul_z (isI_in i2) (isI_in j2),
       mn4 1027 r1 r2 r3 r4, flo_z div_ok rn ho (by decide) sn ho1, mx4 1027 r1 r2 r3 r4, cei_z div_ok rx ho (by decide) sx ho1, end_v (flI_in rn sn (by decide)), end_v (ceI_in rx sx (by decide)), btw _ _, trivial⟩ rfl rfl
theorem part_v (x : IV) {n d : Int} (hn : isI n) (hd : isI d) : PureX Tryz.prog 60 #[ivv x, ii n, ii d] (rt (ivv (partV x n d))) := by
  unfold partV
  by_cases h0 : d = 0
  · rw [if_pos h0]
    exact runB_pure mix (part_0 _ _ _ _ _) ⟨beq_iff_eq.2 h0, trivial⟩ rfl rfl
  have z0 : (d == 0) = false := beq_eq_false_iff_ne.2 h0
  have hdi : -9223372036854775808 ≤ d ∧ d < 9223372036854775808 := hd
  rw [if_neg h0]
  by_cases hs : d < 0
  · rw [if_pos hs]
    have hf := fine1 1004 (negV x).1 (negV x).2.1 (negV x).2.2
    have hng := ineg_v x
    have hdn := neg_z (isI_in hd)
    unfold partP
    cases hk : okV (negV x)
    · rw [show okI (negV x).1 (negV x).2.1 (negV x).2.2 = false from hk] at hf
      exact runB_pure mix (part_nf _ _ _ (nz d) _ _ (nz (-d)) _ _ _ _) ⟨z0, of_z hd, decide_eq_true hs, hdn, hng, hf, trivial⟩ rfl rfl
    · rw [show okI (negV x).1 (negV x).2.1 (negV x).2.2 = true from hk] at hf
      have h1 := okV_iff.1 hk
      have i1 : isI (negV x).1 := by unfold isI; omega
      have i2 : isI (negV x).2.1 := by unfold isI; omega
      obtain ⟨r1, s1⟩ := ii_in i1 hn
      obtain ⟨r2, s2⟩ := ii_in i2 hn
      have rn : inR (mnI ((negV x).1 * n) ((negV x).2.1 * n)) := mnI_p r1 r2
      have rx : inR (mxI ((negV x).1 * n) ((negV x).2.1 * n)) := mxI_p r1 r2
      have sn : mnI ((negV x).1 * n) ((negV x).2.1 * n) ≠ least := mnI_p (Q := fun z => z ≠ least) s1 s2
      have sx : mxI ((negV x).1 * n) ((negV x).2.1 * n) ≠ least := mxI_p (Q := fun z => z ≠ least) s1 s2
      have ho : inR (-d) := by unfold inR; omega
      have ho0 : -d ≠ 0 := by omega
      have ho1 : -d ≠ least := by unfold least; omega
      exact runB_pure mix (part_nt _ _ _ (nz d) (nz (negV x).1) (nz n) (nz ((negV x).1 * n)) (nz (negV x).2.1) (nz n) (nz ((negV x).2.1 * n)) (nz (mnI _ _)) (nz (mxI _ _)) (nz (flI (mnI _ _) (-d))) (nz (ceI (mxI _ _) (-d))) _ _ _ _ _ _ _ _ _ _ _ (nz (-d)) _ _ _ _)
        ⟨z0, of_z hd, decide_eq_true hs, hdn, hng, hf, of_z i1, of_z hn, mul_z (isI_in i1) (isI_in hn), of_z i2, of_z hn, mul_z (isI_in i2) (isI_in hn),
         mn2 1020 r1 r2, flo_z div_ok rn ho ho0 sn ho1, mx2 1020 r1 r2, cei_z div_ok rx ho ho0 sx ho1, end_v (flI_in rn sn ho0), end_v (ceI_in rx sx ho0), btw _ _, trivial⟩ rfl rfl
  · rw [if_neg hs]
    have hf := fine1 1004 x.1 x.2.1 x.2.2
    unfold partP
    cases hk : okV x
    · rw [show okI x.1 x.2.1 x.2.2 = false from hk] at hf
      exact runB_pure mix (part_pf _ _ _ (nz d) _ _) ⟨z0, of_z hd, decide_eq_false hs, hf, trivial⟩ rfl rfl
    · rw [show okI x.1 x.2.1 x.2.2 = true from hk] at hf
      have h1 := okV_iff.1 hk
      have i1 : isI x.1 := by unfold isI; omega
      have i2 : isI x.2.1 := by unfold isI; omega
      obtain ⟨r1, s1⟩ := ii_in i1 hn
      obtain ⟨r2, s2⟩ := ii_in i2 hn
      have rn : inR (mnI (x.1 * n) (x.2.1 * n)) := mnI_p r1 r2
      have rx : inR (mxI (x.1 * n) (x.2.1 * n)) := mxI_p r1 r2
      have sn : mnI (x.1 * n) (x.2.1 * n) ≠ least := mnI_p (Q := fun z => z ≠ least) s1 s2
      have sx : mxI (x.1 * n) (x.2.1 * n) ≠ least := mxI_p (Q := fun z => z ≠ least) s1 s2
      have ho1 : d ≠ least := by unfold least; omega
      exact runB_pure mix (part_pt _ _ _ (nz d) (nz x.1) (nz n) (nz (x.1 * n)) (nz x.2.1) (nz n) (nz (x.2.1 * n)) (nz (mnI _ _)) (nz (mxI _ _)) (nz (flI (mnI _ _) d)) (nz (ceI (mxI _ _) d)) _ _ _ _ _ _ _ _ _ _ _)
        ⟨z0, of_z hd, decide_eq_false hs, hf, of_z i1, of_z hn, mul_z (isI_in i1) (isI_in hn), of_z i2, of_z hn, mul_z (isI_in i2) (isI_in hn),
         mn2 1020 r1 r2, flo_z div_ok rn (isI_in hd) h0 sn ho1, mx2 1020 r1 r2, cei_z div_ok rx (isI_in hd) h0 sx ho1, end_v (flI_in rn sn h0), end_v (ceI_in rx sx h0), btw _ _, trivial⟩ rfl rfl
theorem iof_v (x : Int) : PureX Tryz.prog 63 #[ii x] (rt (ivv (partV (mkV x x) 1073741824 1))) :=
  runB_pure mix (iof_raw x _ _ _ _ _ _) ⟨point_v x, part_v _ (by decide) (by decide), trivial⟩ rfl rfl

end Go.Proofs.YtbmekaaekngpbaaGreat

/- Hulls of none, two and three; the wakes of the law of intervals; laws of numbers. -/
namespace Go.Proofs.YtbmekaaekngpbaaGreat
open Go Go.RowKit
set_option linter.unusedSimpArgs false
set_option linter.unusedVariables false

abbrev sl0 : Value := .slice none 0 0
theorem fine0_raw : runB Tryz.prog 55 #[sl0] [] [] [] [] = some (rt (bb true), [], []) := by kernel_rfl
theorem fine0 : PureX Tryz.prog 55 #[sl0] (rt (bb true)) := runB_pure mix fine0_raw trivial rfl rfl
section
variable (l h : Int) (p : Bool) (m k : Int) (q : Bool) (i j : Int) (o : Bool)
end
def hullV (x y : IV) : IV := if (okV x && okV y) = true then (mnI x.1 y.1, mxI x.2.1 y.2.1, x.2.2) else bdV
def hullV3 (x y z : IV) : IV := if (okV x && okV y && okV z) = true then (mnI (mnI x.1 y.1) z.1, mxI (mxI x.2.1 y.2.1) z.2.1, x.2.2) else bdV
theorem mnI_self (x : Int) : mnI x x = x := by unfold mnI; split <;> rfl
theorem mxI_self (x : Int) : mxI x x = x := by unfold mxI; split <;> rfl
theorem fine_v1 (B : Nat) (x : IV) : CallsV Tryz.prog (.func 55) #[sl B 1] [(B, oiv [x])] (rt (bb (okV x))) [(B, oiv [x])] := fine1 B x.1 x.2.1 x.2.2
theorem rfine_v1 (B : Nat) (x : IV) : CallsV Tryz.prog (.func 22) #[sl B 1] [(B, oiv [x])] (rt (bb (okV x))) [(B, oiv [x])] := rfine1 B x.1 x.2.1 x.2.2
theorem rfine_v2 (B : Nat) (x y : IV) : CallsV Tryz.prog (.func 22) #[sl B 2] [(B, oiv [x, y])] (rt (bb (okV x && okV y))) [(B, oiv [x, y])] := rfine2 B x.1 x.2.1 x.2.2 y.1 y.2.1 y.2.2
theorem rfine_v3 (B : Nat) (x y z : IV) : CallsV Tryz.prog (.func 22) #[sl B 3] [(B, oiv [x, y, z])] (rt (bb (okV x && okV y && okV z))) [(B, oiv [x, y, z])] := rfine3 B x.1 x.2.1 x.2.2 y.1 y.2.1 y.2.2 z.1 z.2.1 z.2.2
theorem rfine_v4 (B : Nat) (x y z v : IV) : CallsV Tryz.prog (.func 22) #[sl B 4] [(B, oiv [x, y, z, v])] (rt (bb (okV x && okV y && okV z && okV v))) [(B, oiv [x, y, z, v])] := rfine4 B x.1 x.2.1 x.2.2 y.1 y.2.1 y.2.2 z.1 z.2.1 z.2.2 v.1 v.2.1 v.2.2

end Go.Proofs.YtbmekaaekngpbaaGreat

/- Plain mathematics of intervals. -/
namespace Go.Proofs.YtbmekaaekngpbaaGreat
open Go Go.RowKit
set_option linter.unusedSimpArgs false
set_option linter.unusedVariables false

theorem flI_b {x y : Int} (hy : 0 < y) : y * flI x y ≤ x ∧ x < y * flI x y + y := by
  have h := flI_side (x := x) (y := y) (by omega)
  unfold OnSide at h
  omega
theorem ceI_b {x y : Int} (hy : 0 < y) : x ≤ y * ceI x y ∧ y * ceI x y < x + y := by
  have h := ceI_side (x := x) (y := y) (by omega)
  unfold OnSide at h
  omega
theorem le_fl {x y z : Int} (hy : 0 < y) : z ≤ flI x y ↔ y * z ≤ x := by
  obtain ⟨h1, h2⟩ := flI_b (x := x) hy
  constructor
  · intro h
    exact Int.le_trans (Int.mul_le_mul_of_nonneg_left h (by omega)) h1
  · intro h
    have h3 : y * z < y * (flI x y + 1) := by rw [Int.mul_add]; omega
    have := Int.lt_of_mul_lt_mul_left h3 (by omega)
    omega
theorem ce_le {x y z : Int} (hy : 0 < y) : ceI x y ≤ z ↔ x ≤ y * z := by
  obtain ⟨h1, h2⟩ := ceI_b (x := x) hy
  constructor
  · intro h
    exact Int.le_trans h1 (Int.mul_le_mul_of_nonneg_left h (by omega))
  · intro h
    have h3 : y * ceI x y < y * (z + 1) := by rw [Int.mul_add]; omega
    have := Int.lt_of_mul_lt_mul_left h3 (by omega)
    omega
theorem fl_mono {x z y : Int} (hy : 0 < y) (h : x ≤ z) : flI x y ≤ flI z y := (le_fl hy).2 (Int.le_trans (flI_b hy).1 h)
theorem ce_mono {x z y : Int} (hy : 0 < y) (h : x ≤ z) : ceI x y ≤ ceI z y := (ce_le hy).2 (Int.le_trans h (ceI_b hy).1)
theorem fl_ce {x z y : Int} (hy : 0 < y) (h : x ≤ z) : flI x y ≤ ceI z y := by
  have h1 := (flI_b (x := x) hy).1
  have h2 := (ceI_b (x := z) hy).1
  have h3 : y * flI x y ≤ y * ceI z y := by omega
  exact Int.le_of_mul_le_mul_left h3 hy
theorem fl_mul {x y : Int} (hy : 0 < y) : flI (y * x) y = x := by
  refine Int.le_antisymm ?_ ((le_fl hy).2 (Int.le_refl _))
  have h3 := (flI_b (x := y * x) hy).1
  exact Int.le_of_mul_le_mul_left h3 hy
theorem ce_mul {x y : Int} (hy : 0 < y) : ceI (y * x) y = x := by
  refine Int.le_antisymm ((ce_le hy).2 (Int.le_refl _)) ?_
  have h3 := (ceI_b (x := y * x) hy).1
  exact Int.le_of_mul_le_mul_left h3 hy

theorem mnI_le {x y : Int} : mnI x y ≤ x ∧ mnI x y ≤ y := by unfold mnI; split <;> omega
theorem le_mnI {x y z : Int} (h1 : z ≤ x) (h2 : z ≤ y) : z ≤ mnI x y := by unfold mnI; split <;> omega
theorem le_mxI {x y : Int} : x ≤ mxI x y ∧ y ≤ mxI x y := by unfold mxI; split <;> omega
theorem mxI_le {x y z : Int} (h1 : x ≤ z) (h2 : y ≤ z) : mxI x y ≤ z := by unfold mxI; split <;> omega
theorem mn4_le {a b c d : Int} : mn4I a b c d ≤ a ∧ mn4I a b c d ≤ b ∧ mn4I a b c d ≤ c ∧ mn4I a b c d ≤ d := by
  unfold mn4I
  have h1 := mnI_le (x := a) (y := b)
  have h2 := mnI_le (x := mnI a b) (y := c)
  have h3 := mnI_le (x := mnI (mnI a b) c) (y := d)
  omega
theorem le_mn4 {a b c d z : Int} (h1 : z ≤ a) (h2 : z ≤ b) (h3 : z ≤ c) (h4 : z ≤ d) : z ≤ mn4I a b c d := le_mnI (le_mnI (le_mnI h1 h2) h3) h4
theorem le_mx4 {a b c d : Int} : a ≤ mx4I a b c d ∧ b ≤ mx4I a b c d ∧ c ≤ mx4I a b c d ∧ d ≤ mx4I a b c d := by
  unfold mx4I
  have h1 := le_mxI (x := a) (y := b)
  have h2 := le_mxI (x := mxI a b) (y := c)
  have h3 := le_mxI (x := mxI (mxI a b) c) (y := d)
  omega
theorem mx4_le {a b c d z : Int} (h1 : a ≤ z) (h2 : b ≤ z) (h3 : c ≤ z) (h4 : d ≤ z) : mx4I a b c d ≤ z := mxI_le (mxI_le (mxI_le h1 h2) h3) h4
theorem mn4_mx4 {a b c d : Int} : mn4I a b c d ≤ mx4I a b c d := Int.le_trans mn4_le.1 le_mx4.1
theorem mn_mx {a b : Int} : mnI a b ≤ mxI a b := Int.le_trans mnI_le.1 le_mxI.1

theorem mkV_ok {l h : Int} (h1 : -1152921504606846976 ≤ l) (h2 : l ≤ h) (h3 : h ≤ 1152921504606846976) : mkV l h = (l, h, false) := if_pos (okI_iff.2 ⟨rfl, h1, h2, h3⟩)
theorem mkV_no {l h : Int} (hn : ¬ (-1152921504606846976 ≤ l ∧ l ≤ h ∧ h ≤ 1152921504606846976)) : mkV l h = bdV := if_neg (fun h => hn (okI_iff.1 h).2)
theorem mkV_bad {l h : Int} (hb : (mkV l h).2.2 = false) : -1152921504606846976 ≤ l ∧ l ≤ h ∧ h ≤ 1152921504606846976 ∧ mkV l h = (l, h, false) := by
  by_cases hn : -1152921504606846976 ≤ l ∧ l ≤ h ∧ h ≤ 1152921504606846976
  · exact ⟨hn.1, hn.2.1, hn.2.2, mkV_ok hn.1 hn.2.1 hn.2.2⟩
  · rw [mkV_no hn] at hb; cases hb
theorem outV_ok {mn mx d : Int} (hd : 0 < d) (h : mn ≤ mx) (h1 : -1152921504606846976 ≤ flI mn d) (h2 : ceI mx d ≤ 1152921504606846976) : outV mn mx d = (flI mn d, ceI mx d, false) := by
  have h3 := fl_ce hd h
  unfold outV endI
  rw [if_pos (show isI (flI mn d) by unfold isI; omega), if_pos (show isI (ceI mx d) by unfold isI; omega)]
  exact mkV_ok h1 h3 h2
theorem outV_bad {mn mx d : Int} (hb : (outV mn mx d).2.2 = false) : -1152921504606846976 ≤ flI mn d ∧ ceI mx d ≤ 1152921504606846976 ∧ outV mn mx d = (flI mn d, ceI mx d, false) := by
  unfold outV at hb ⊢
  obtain ⟨h1, h2, h3, h4⟩ := mkV_bad hb
  rw [h4]
  unfold endI at *
  split at h1 <;> split at h3
  · rename_i i1 i2
    rw [if_pos i1, if_pos i2]
    exact ⟨h1, h3, rfl⟩
  · omega
  · rename_i i1 i2
    rw [if_neg i1] at h2
    rw [if_pos i2] at h2
    omega
  · omega
theorem mulV_ok {x y : IV} (hx : okV x = true) (hy : okV y = true) : mulV x y = outV (mn4I (x.1 * y.1) (x.2.1 * y.1) (x.1 * y.2.1) (x.2.1 * y.2.1)) (mx4I (x.1 * y.1) (x.2.1 * y.1) (x.1 * y.2.1) (x.2.1 * y.2.1)) 1073741824 := if_pos (by rw [hx, hy]; rfl)
theorem addV_ok {x y : IV} (hx : okV x = true) (hy : okV y = true) : addV x y = mkV (x.1 + y.1) (x.2.1 + y.2.1) := if_pos (by rw [hx, hy]; rfl)
theorem subV_ok {x y : IV} (hx : okV x = true) (hy : okV y = true) : subV x y = mkV (x.1 - y.2.1) (x.2.1 - y.1) := if_pos (by rw [hx, hy]; rfl)
theorem negV_ok {x : IV} (hx : okV x = true) : negV x = (-x.2.1, -x.1, false) := by
  have h := okV_iff.1 hx
  exact (if_pos hx).trans (mkV_ok (by omega) (by omega) (by omega))
theorem okV_mk {l h : Int} (h1 : -1152921504606846976 ≤ l) (h2 : l ≤ h) (h3 : h ≤ 1152921504606846976) : okV (l, h, false) = true := okV_iff.2 ⟨rfl, h1, h2, h3⟩
theorem holdsV_iff {x y : IV} : holdsV x y = true ↔ okV x = true ∧ okV y = true ∧ x.1 ≤ y.1 ∧ y.2.1 ≤ x.2.1 := by
  unfold holdsV
  simp [and_assoc]
theorem okV_no {x y : IV} (hx : okV x = false) : addV x y = bdV ∧ addV y x = bdV ∧ subV x y = bdV ∧ subV y x = bdV ∧ negV x = bdV ∧ mulV x y = bdV ∧ mulV y x = bdV ∧ meetV x y = bdV ∧ meetV y x = bdV ∧ hullV x y = bdV ∧ hullV y x = bdV ∧ holdsV x y = false ∧ holdsV y x = false ∧ widthV x = -1 := by
  refine ⟨?_, ?_, ?_, ?_, ?_, ?_, ?_, ?_, ?_, ?_, ?_, ?_, ?_, ?_⟩ <;> simp [addV, subV, negV, mulV, meetV, hullV, holdsV, widthV, hx]
theorem ext3 {x : IV} {a b : Int} (h1 : x.1 = a) (h2 : x.2.1 = b) (h3 : x.2.2 = false) : x = (a, b, false) := by
  obtain ⟨l, h, c⟩ := x
  simp only at h1 h2 h3
  rw [h1, h2, h3]

/-! ### Of the ring -/
theorem addV_comm (x y : IV) : addV x y = addV y x := by
  unfold addV
  rw [Bool.and_comm, Int.add_comm x.1, Int.add_comm x.2.1]
theorem mulV_comm (x y : IV) : mulV x y = mulV y x := by
  unfold mulV
  rw [Bool.and_comm, Int.mul_comm x.1 y.1, Int.mul_comm x.2.1 y.1, Int.mul_comm x.1 y.2.1, Int.mul_comm x.2.1 y.2.1]
  have e1 : ∀ a b c d : Int, mn4I a b c d = mn4I a c b d := fun a b c d => by
    have h1 := mn4_le (a := a) (b := b) (c := c) (d := d)
    have h2 := mn4_le (a := a) (b := c) (c := b) (d := d)
    exact Int.le_antisymm (le_mn4 h1.1 h1.2.2.1 h1.2.1 h1.2.2.2) (le_mn4 h2.1 h2.2.2.1 h2.2.1 h2.2.2.2)
  have e2 : ∀ a b c d : Int, mx4I a b c d = mx4I a c b d := fun a b c d => by
    have h1 := le_mx4 (a := a) (b := b) (c := c) (d := d)
    have h2 := le_mx4 (a := a) (b := c) (c := b) (d := d)
    exact Int.le_antisymm (mx4_le h2.1 h2.2.2.1 h2.2.1 h2.2.2.2) (mx4_le h1.1 h1.2.2.1 h1.2.1 h1.2.2.2)
  rw [e1, e2]
theorem mulV_one {x : IV} (hx : okV x = true) : mulV (1073741824, 1073741824, false) x = x := by
  have h := okV_iff.1 hx
  rw [mulV_ok (by decide) hx]
  have e1 : mn4I (1073741824 * x.1) (1073741824 * x.1) (1073741824 * x.2.1) (1073741824 * x.2.1) = 1073741824 * x.1 := by
    have := mn4_le (a := 1073741824 * x.1) (b := 1073741824 * x.1) (c := 1073741824 * x.2.1) (d := 1073741824 * x.2.1)
    exact Int.le_antisymm this.1 (le_mn4 (Int.le_refl _) (Int.le_refl _) (by omega) (by omega))
  have e2 : mx4I (1073741824 * x.1) (1073741824 * x.1) (1073741824 * x.2.1) (1073741824 * x.2.1) = 1073741824 * x.2.1 := by
    have := le_mx4 (a := 1073741824 * x.1) (b := 1073741824 * x.1) (c := 1073741824 * x.2.1) (d := 1073741824 * x.2.1)
    exact Int.le_antisymm (mx4_le (by omega) (by omega) (Int.le_refl _) (Int.le_refl _)) this.2.2.2
  simp only [e1, e2]
  rw [outV_ok (by decide) (by omega) (by rw [fl_mul (by decide)]; omega) (by rw [ce_mul (by decide)]; omega), fl_mul (by decide), ce_mul (by decide)]
  exact (ext3 rfl rfl h.1).symm
theorem mulV_nought {x : IV} (hx : okV x = true) : mulV (0, 0, false) x = (0, 0, false) := by
  rw [mulV_ok (by decide) hx]
  simp only [Int.zero_mul]
  decide
theorem negV_negV {x : IV} (hx : okV x = true) : negV (negV x) = x := by
  have h := okV_iff.1 hx
  rw [negV_ok hx, negV_ok (okV_mk (by omega) (by omega) (by omega))]
  simp only [Int.neg_neg]
  exact (ext3 rfl rfl h.1).symm
theorem subV_neg {x y : IV} (hx : okV x = true) (hy : okV y = true) : subV x y = addV x (negV y) := by
  have h := okV_iff.1 hy
  rw [negV_ok hy, subV_ok hx hy, addV_ok hx (okV_mk (by omega) (by omega) (by omega))]
  rfl
theorem add_sub_holds {x y : IV} (hx : okV x = true) (hy : okV y = true) (hb : (subV (addV x y) y).2.2 = false) : holdsV (subV (addV x y) y) x = true := by
  have h := okV_iff.1 hx
  have k := okV_iff.1 hy
  have hs : okV (addV x y) = true := by
    cases hk : okV (addV x y)
    · rw [(okV_no (y := y) hk).2.2.1] at hb; cases hb
    · rfl
  have hab : (addV x y).2.2 = false := (okV_iff.1 hs).1
  rw [addV_ok hx hy] at hab hs hb ⊢
  obtain ⟨a1, a2, a3, a4⟩ := mkV_bad hab
  rw [a4] at hs hb ⊢
  rw [subV_ok hs hy] at hb ⊢
  obtain ⟨b1, b2, b3, b4⟩ := mkV_bad hb
  rw [b4]
  exact holdsV_iff.2 ⟨okV_mk b1 b2 b3, hx, by simp only at b1 b2 b3 ⊢; omega, by simp only at b1 b2 b3 ⊢; omega⟩
/-- A product by a sum is held by the sum of the products. -/
theorem ring_holds {x y z : IV} (hx : okV x = true) (hy : okV y = true) (hz : okV z = true)
    (hr : (addV (mulV x y) (mulV x z)).2.2 = false) (hl : (mulV x (addV y z)).2.2 = false) : holdsV (addV (mulV x y) (mulV x z)) (mulV x (addV y z)) = true := by
  have okof : ∀ {u v : IV}, (addV u v).2.2 = false → okV u = true ∧ okV v = true := fun {u v} h => by
    constructor
    · cases hk : okV u
      · rw [(okV_no (y := v) hk).1] at h; cases h
      · rfl
    · cases hk : okV v
      · rw [(okV_no (y := u) hk).2.1] at h; cases h
      · rfl
  have oy : okV (addV y z) = true := by
    cases hk : okV (addV y z)
    · rw [(okV_no (y := x) hk).2.2.2.2.2.2.1] at hl; cases hl
    · rfl
  obtain ⟨o1, o2⟩ := okof hr
  have q1 := (okV_iff.1 o1).1
  have q2 := (okV_iff.1 o2).1
  have q3 := (okV_iff.1 oy).1
  rw [addV_ok hy hz] at oy q3 hl ⊢
  obtain ⟨s1, s2, s3, s4⟩ := mkV_bad q3
  rw [s4] at oy hl ⊢
  rw [mulV_ok hx hy] at o1 q1 hr ⊢
  rw [mulV_ok hx hz] at o2 q2 hr ⊢
  rw [mulV_ok hx oy] at hl ⊢
  obtain ⟨t1, t2, t3⟩ := outV_bad q1
  obtain ⟨u1, u2, u3⟩ := outV_bad q2
  obtain ⟨v1, v2, v3⟩ := outV_bad hl
  rw [t3] at o1 hr ⊢
  rw [u3] at o2 hr ⊢
  rw [v3]
  rw [addV_ok o1 o2] at hr ⊢
  obtain ⟨w1, w2, w3, w4⟩ := mkV_bad hr
  rw [w4]
  have hD : (0 : Int) < 1073741824 := by decide
  have cor : ∀ a b c : Int, a * (b + c) = a * b + a * c := fun a b c => Int.mul_add a b c
  have m1 := mn4_le (a := x.1 * y.1) (b := x.2.1 * y.1) (c := x.1 * y.2.1) (d := x.2.1 * y.2.1)
  have m2 := mn4_le (a := x.1 * z.1) (b := x.2.1 * z.1) (c := x.1 * z.2.1) (d := x.2.1 * z.2.1)
  have M1 := le_mx4 (a := x.1 * y.1) (b := x.2.1 * y.1) (c := x.1 * y.2.1) (d := x.2.1 * y.2.1)
  have M2 := le_mx4 (a := x.1 * z.1) (b := x.2.1 * z.1) (c := x.1 * z.2.1) (d := x.2.1 * z.2.1)
  have f1 := (flI_b (x := mn4I (x.1 * y.1) (x.2.1 * y.1) (x.1 * y.2.1) (x.2.1 * y.2.1)) hD).1
  have f2 := (flI_b (x := mn4I (x.1 * z.1) (x.2.1 * z.1) (x.1 * z.2.1) (x.2.1 * z.2.1)) hD).1
  have g1 := (ceI_b (x := mx4I (x.1 * y.1) (x.2.1 * y.1) (x.1 * y.2.1) (x.2.1 * y.2.1)) hD).1
  have g2 := (ceI_b (x := mx4I (x.1 * z.1) (x.2.1 * z.1) (x.1 * z.2.1) (x.2.1 * z.2.1)) hD).1
  refine holdsV_iff.2 ⟨okV_mk w1 w2 w3, okV_mk v1 (fl_ce hD mn4_mx4) v2, ?_, ?_⟩
  · refine (le_fl hD).2 (le_mn4 ?_ ?_ ?_ ?_) <;> (simp only [cor]; omega)
  · refine (ce_le hD).2 (mx4_le ?_ ?_ ?_ ?_) <;> (simp only [cor]; omega)

/-! ### Of parts -/
theorem mul_between {l x h d : Int} (h1 : l ≤ x) (h2 : x ≤ h) : mnI (l * d) (h * d) ≤ x * d ∧ x * d ≤ mxI (l * d) (h * d) := by
  have a := mnI_le (x := l * d) (y := h * d)
  have b := le_mxI (x := l * d) (y := h * d)
  rcases Int.le_total 0 d with hd | hd
  · have c1 := Int.mul_le_mul_of_nonneg_right h1 hd
    have c2 := Int.mul_le_mul_of_nonneg_right h2 hd
    omega
  · have c1 := Int.mul_le_mul_of_nonpos_right h1 hd
    have c2 := Int.mul_le_mul_of_nonpos_right h2 hd
    omega
/-- Between the corners. -/
theorem corners {x1 x2 y1 y2 x y : Int} (h1 : x1 ≤ x) (h2 : x ≤ x2) (k1 : y1 ≤ y) (k2 : y ≤ y2) :
    mn4I (x1 * y1) (x2 * y1) (x1 * y2) (x2 * y2) ≤ x * y ∧ x * y ≤ mx4I (x1 * y1) (x2 * y1) (x1 * y2) (x2 * y2) := by
  have a := mul_between (d := y) h1 h2
  have m := mn4_le (a := x1 * y1) (b := x2 * y1) (c := x1 * y2) (d := x2 * y2)
  have M := le_mx4 (a := x1 * y1) (b := x2 * y1) (c := x1 * y2) (d := x2 * y2)
  have b1 := mul_between (d := x1) k1 k2
  have b2 := mul_between (d := x2) k1 k2
  rw [Int.mul_comm y1 x1, Int.mul_comm y2 x1, Int.mul_comm y x1] at b1
  rw [Int.mul_comm y1 x2, Int.mul_comm y2 x2, Int.mul_comm y x2] at b2
  have c1 := le_mnI (x := x1 * y1) (y := x1 * y2) m.1 m.2.2.1
  have c2 := le_mnI (x := x2 * y1) (y := x2 * y2) m.2.1 m.2.2.2
  have d1 := mxI_le (x := x1 * y1) (y := x1 * y2) M.1 M.2.2.1
  have d2 := mxI_le (x := x2 * y1) (y := x2 * y2) M.2.1 M.2.2.2
  have e1 := le_mnI (x := x1 * y) (y := x2 * y) (z := mn4I (x1 * y1) (x2 * y1) (x1 * y2) (x2 * y2)) (by omega) (by omega)
  have e2 := mxI_le (x := x1 * y) (y := x2 * y) (z := mx4I (x1 * y1) (x2 * y1) (x1 * y2) (x2 * y2)) (by omega) (by omega)
  omega
theorem mul_part {h a d : IV} (hh : okV h = true) (ha : okV a = true) (hd : okV d = true) (h1 : h.1 ≤ a.1) (h2 : a.2.1 ≤ h.2.1) (hb : (mulV h d).2.2 = false) : holdsV (mulV h d) (mulV a d) = true := by
  have k := okV_iff.1 ha
  have kd := okV_iff.1 hd
  rw [mulV_ok hh hd] at hb ⊢
  rw [mulV_ok ha hd]
  obtain ⟨t1, t2, t3⟩ := outV_bad hb
  have hD : (0 : Int) < 1073741824 := by decide
  have c1 := corners (x1 := h.1) (x2 := h.2.1) (y1 := d.1) (y2 := d.2.1) (x := a.1) (y := d.1) h1 (by omega) (Int.le_refl _) (by omega)
  have c2 := corners (x1 := h.1) (x2 := h.2.1) (y1 := d.1) (y2 := d.2.1) (x := a.2.1) (y := d.1) (by omega) h2 (Int.le_refl _) (by omega)
  have c3 := corners (x1 := h.1) (x2 := h.2.1) (y1 := d.1) (y2 := d.2.1) (x := a.1) (y := d.2.1) h1 (by omega) (by omega) (Int.le_refl _)
  have c4 := corners (x1 := h.1) (x2 := h.2.1) (y1 := d.1) (y2 := d.2.1) (x := a.2.1) (y := d.2.1) (by omega) h2 (by omega) (Int.le_refl _)
  have n1 := fl_mono hD (le_mn4 c1.1 c2.1 c3.1 c4.1)
  have n2 := ce_mono hD (mx4_le c1.2 c2.2 c3.2 c4.2)
  rw [t3, outV_ok hD mn4_mx4 (by omega) (by omega)]
  exact holdsV_iff.2 ⟨okV_mk t1 (fl_ce hD mn4_mx4) t2, okV_mk (by omega) (fl_ce hD mn4_mx4) (by omega), n1, n2⟩
theorem add_part {h a d : IV} (hh : okV h = true) (ha : okV a = true) (hd : okV d = true) (h1 : h.1 ≤ a.1) (h2 : a.2.1 ≤ h.2.1) (hb : (addV h d).2.2 = false) : holdsV (addV h d) (addV a d) = true := by
  have k := okV_iff.1 ha
  have kd := okV_iff.1 hd
  rw [addV_ok hh hd] at hb ⊢
  rw [addV_ok ha hd]
  obtain ⟨t1, t2, t3, t4⟩ := mkV_bad hb
  rw [t4, mkV_ok (by omega) (by omega) (by omega)]
  exact holdsV_iff.2 ⟨okV_mk t1 t2 t3, okV_mk (by omega) (by omega) (by omega), by simp only; omega, by simp only; omega⟩
theorem sub_part {h a d : IV} (hh : okV h = true) (ha : okV a = true) (hd : okV d = true) (h1 : h.1 ≤ a.1) (h2 : a.2.1 ≤ h.2.1) (hb : (subV d h).2.2 = false) : holdsV (subV d h) (subV d a) = true := by
  have k := okV_iff.1 ha
  have kd := okV_iff.1 hd
  rw [subV_ok hd hh] at hb ⊢
  rw [subV_ok hd ha]
  obtain ⟨t1, t2, t3, t4⟩ := mkV_bad hb
  rw [t4, mkV_ok (by omega) (by omega) (by omega)]
  exact holdsV_iff.2 ⟨okV_mk t1 t2 t3, okV_mk (by omega) (by omega) (by omega), by simp only; omega, by simp only; omega⟩

end Go.Proofs.YtbmekaaekngpbaaGreat
