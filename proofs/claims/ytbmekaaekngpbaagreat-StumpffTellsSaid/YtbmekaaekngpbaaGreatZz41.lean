/- Texts of the seat, joined. -/
import Derived.Test.YtbmekaaekngpbaaGreatZz13
/- Sine and cosine, nearly: sums of many terms, as polynomials in whole numbers, and what is so of them. -/
namespace Go.Proofs.YtbmekaaekngpbaaGreat
set_option linter.unusedSimpArgs false
set_option linter.unusedVariables false
set_option maxRecDepth 100000

def ev1 : List Int → Int → Int
  | [], _ => 0
  | a :: l, y => a + y * ev1 l y
def add1 : List Int → List Int → List Int
  | [], l => l
  | l, [] => l
  | a :: l, b :: m => (a + b) :: add1 l m
def sc1 (c : Int) : List Int → List Int
  | [] => []
  | a :: l => c * a :: sc1 c l
def mul1 : List Int → List Int → List Int
  | [], _ => []
  | a :: l, m => add1 (sc1 a m) (0 :: mul1 l m)
def ev2 : List (List Int) → Int → Int → Int
  | [], _, _ => 0
  | p :: l, x, y => ev1 p y + x * ev2 l x y
def add2 : List (List Int) → List (List Int) → List (List Int)
  | [], l => l
  | l, [] => l
  | a :: l, b :: m => add1 a b :: add2 l m
def sc2 (c : Int) : List (List Int) → List (List Int)
  | [] => []
  | a :: l => sc1 c a :: sc2 c l
/-- by a polynomial in y alone -/
def my2 (p : List Int) : List (List Int) → List (List Int)
  | [] => []
  | a :: l => mul1 p a :: my2 p l
def mul2 : List (List Int) → List (List Int) → List (List Int)
  | [], _ => []
  | p :: l, m => add2 (my2 p m) ([] :: mul2 l m)
/-- p(x), p(y), p(x + y) -/
def inX : List Int → List (List Int)
  | [] => []
  | a :: l => [a] :: inX l
def shX (q : List (List Int)) : List (List Int) := add2 ([] :: q) (my2 [0, 1] q)
def inS : List Int → List (List Int)
  | [] => []
  | a :: l => add2 [[a]] (shX (inS l))
def abs1 : List Int → Int → Int
  | [], _ => 0
  | a :: l, y => (a.natAbs : Int) + y * abs1 l y
def abs2 : List (List Int) → Int → Int → Int
  | [], _, _ => 0
  | p :: l, x, y => abs1 p y + x * abs2 l x y
theorem ev1_add : ∀ (l m : List Int) (y : Int), ev1 (add1 l m) y = ev1 l y + ev1 m y
  | [], l, y => by simp [add1, ev1]
  | a :: l, [], y => by simp [add1, ev1]
  | a :: l, b :: m, y => by simp only [add1, ev1, ev1_add l m y]; grind
theorem ev1_sc (c : Int) : ∀ (l : List Int) (y : Int), ev1 (sc1 c l) y = c * ev1 l y
  | [], y => by simp [sc1, ev1]
  | a :: l, y => by simp only [sc1, ev1, ev1_sc c l y]; grind
theorem ev1_mul : ∀ (l m : List Int) (y : Int), ev1 (mul1 l m) y = ev1 l y * ev1 m y
  | [], m, y => by simp [mul1, ev1]
  | a :: l, m, y => by simp only [mul1, ev1, ev1_add, ev1_sc, ev1_mul l m y]; grind
theorem ev2_add : ∀ (l m : List (List Int)) (x y : Int), ev2 (add2 l m) x y = ev2 l x y + ev2 m x y
  | [], l, x, y => by simp [add2, ev2]
  | a :: l, [], x, y => by simp [add2, ev2]
  | a :: l, b :: m, x, y => by simp only [add2, ev2, ev1_add, ev2_add l m x y]; grind
theorem ev2_sc (c : Int) : ∀ (l : List (List Int)) (x y : Int), ev2 (sc2 c l) x y = c * ev2 l x y
  | [], x, y => by simp [sc2, ev2]
  | a :: l, x, y => by simp only [sc2, ev2, ev1_sc, ev2_sc c l x y]; grind
theorem ev2_my (p : List Int) : ∀ (l : List (List Int)) (x y : Int), ev2 (my2 p l) x y = ev1 p y * ev2 l x y
  | [], x, y => by simp [my2, ev2]
  | a :: l, x, y => by simp only [my2, ev2, ev1_mul, ev2_my p l x y]; grind
theorem ev2_mul : ∀ (l m : List (List Int)) (x y : Int), ev2 (mul2 l m) x y = ev2 l x y * ev2 m x y
  | [], m, x, y => by simp [mul2, ev2]
  | p :: l, m, x, y => by simp only [mul2, ev2, ev1, ev2_add, ev2_my, ev2_mul l m x y]; grind
theorem ev2_inX : ∀ (l : List Int) (x y : Int), ev2 (inX l) x y = ev1 l x
  | [], x, y => rfl
  | a :: l, x, y => by simp only [inX, ev2, ev1, ev2_inX l x y]; grind
theorem ev2_shX (q : List (List Int)) (x y : Int) : ev2 (shX q) x y = (x + y) * ev2 q x y := by
  simp only [shX, ev2_add, ev2_my, ev2, ev1]; grind
theorem ev2_inS : ∀ (l : List Int) (x y : Int), ev2 (inS l) x y = ev1 l (x + y)
  | [], x, y => rfl
  | a :: l, x, y => by simp only [inS, ev2_add, ev2_shX, ev2, ev1, ev2_inS l x y]; grind
theorem mul_abs {a b A B : Int} (h1 : -A ≤ a) (h2 : a ≤ A) (h3 : -B ≤ b) (h4 : b ≤ B) : -(A * B) ≤ a * b ∧ a * b ≤ A * B := by
  have e1 : 0 ≤ (A - a) * (B - b) := Int.mul_nonneg (by omega) (by omega)
  have e2 : 0 ≤ (A + a) * (B + b) := Int.mul_nonneg (by omega) (by omega)
  have e3 : 0 ≤ (A - a) * (B + b) := Int.mul_nonneg (by omega) (by omega)
  have e4 : 0 ≤ (A + a) * (B - b) := Int.mul_nonneg (by omega) (by omega)
  grind
theorem ev1_abs : ∀ (l : List Int) {y Y : Int}, -Y ≤ y → y ≤ Y → -(abs1 l Y) ≤ ev1 l y ∧ ev1 l y ≤ abs1 l Y
  | [], _, _, _, _ => by simp [ev1, abs1]
  | a :: l, y, Y, h1, h2 => by
    have h := ev1_abs l h1 h2
    have k := mul_abs h1 h2 h.1 h.2
    simp only [ev1, abs1]
    omega
theorem ev2_abs : ∀ (l : List (List Int)) {x X y Y : Int}, -X ≤ x → x ≤ X → -Y ≤ y → y ≤ Y → -(abs2 l X Y) ≤ ev2 l x y ∧ ev2 l x y ≤ abs2 l X Y
  | [], _, _, _, _, _, _, _, _ => by simp [ev2, abs2]
  | p :: l, x, X, y, Y, h1, h2, h3, h4 => by
    have h := ev2_abs l h1 h2 h3 h4
    have g := ev1_abs p h3 h4
    have k := mul_abs h1 h2 h.1 h.2
    simp only [ev2, abs2]
    omega
def neg1 : List Int → List Int
  | [] => []
  | a :: l => -a :: neg1 l
theorem ev1_neg : ∀ (l : List Int) (y : Int), ev1 (neg1 l) y = -ev1 l y
  | [], y => rfl
  | a :: l, y => by simp only [neg1, ev1, ev1_neg l y]; grind
/-- Horner's row: (coefficients, by what they are too great) of 1 - q/d (1 - q/d' (..)), q = (x/h)^2. -/
def roG (h : Int) : List Int → List Int × Int
  | [] => ([1], 1)
  | d :: r => (h * h * d * (roG h r).2 :: 0 :: neg1 (roG h r).1, h * h * d * (roG h r).2)
def dsS : Nat → List Int
  | 0 => []
  | n + 1 => dsS n ++ [Int.ofNat ((2 * n + 2) * (2 * n + 3))]
def dsC : Nat → List Int
  | 0 => []
  | n + 1 => dsC n ++ [Int.ofNat ((2 * n + 1) * (2 * n + 2))]
def hh : Int := 8589934592
def GSw : List Int × Int := roG hh (dsS 22)
def GCw : List Int × Int := roG hh (dsC 22)
def WS : Int := hh * GSw.2
def WC : Int := GCw.2
def SL : List Int := 0 :: GSw.1
def CL : List Int := GCw.1
def RS : List (List Int) := add2 (sc2 WC (inS SL)) (sc2 (-1) (add2 (my2 CL (inX SL)) (my2 SL (inX CL))))
def RC : List (List Int) := add2 (sc2 (WC * WS * WS) (inS CL)) (add2 (sc2 (-(WS * WS)) (my2 CL (inX CL))) (sc2 (WC * WC) (my2 SL (inX SL))))
theorem roG_even (h : Int) : ∀ (l : List Int) (k : Int), ev1 (roG h l).1 (-k) = ev1 (roG h l).1 k
  | [], k => by simp [roG, ev1]
  | d :: r, k => by simp only [roG, ev1, ev1_neg, roG_even h r k]; grind
theorem roG_0 (h : Int) : ∀ (l : List Int), ev1 (roG h l).1 0 = (roG h l).2
  | [] => by simp [roG, ev1]
  | d :: r => by simp only [roG, ev1]; grind
theorem roG_pos {h : Int} (hh : 0 < h) : ∀ (l : List Int), (∀ d ∈ l, 0 < d) → 0 < (roG h l).2
  | [], _ => by simp [roG]
  | d :: r, hd => by
    simp only [roG]
    exact Int.mul_pos (Int.mul_pos (Int.mul_pos hh hh) (hd d (by simp))) (roG_pos hh r fun e he => hd e (by simp [he]))
theorem roG_in {h k : Int} : ∀ (l : List Int), (∀ d ∈ l, k * k ≤ h * h * d) → 0 ≤ ev1 (roG h l).1 k ∧ ev1 (roG h l).1 k ≤ (roG h l).2
  | [], _ => by simp [roG, ev1]
  | d :: r, hd => by
    have ih := roG_in (h := h) (k := k) r fun e he => hd e (by simp [he])
    have h1 := hd d (by simp)
    have h2 : 0 ≤ k * k := by rcases Int.le_total 0 k with h | h; exact Int.mul_nonneg h h; exact Int.mul_nonneg_of_nonpos_of_nonpos h h
    have h3 : 0 ≤ k * k * ev1 (roG h r).1 k := Int.mul_nonneg h2 ih.1
    have h4 : 0 ≤ (h * h * d - k * k) * ev1 (roG h r).1 k := Int.mul_nonneg (by omega) ih.1
    have h5 : 0 ≤ h * h * d * ((roG h r).2 - ev1 (roG h r).1 k) := Int.mul_nonneg (by omega) (by omega)
    simp only [roG, ev1, ev1_neg]
    grind

/-! The same with quotients: Horner's row, and a row of terms. -/
def gR (q : Rat) : List Int → Rat
  | [] => 1
  | d :: r => 1 - q / (d : Rat) * gR q r
theorem roG_gR {h k : Int} (hh : (h : Rat) ≠ 0) : ∀ (l : List Int), (∀ d ∈ l, 0 < d) → ((ev1 (roG h l).1 k : Int) : Rat) = ((roG h l).2 : Rat) * gR ((k : Rat) * k / (h * h)) l
  | [], _ => by simp [roG, ev1, gR]
  | d :: r, hd => by
    have ih := roG_gR (h := h) (k := k) hh r fun e he => hd e (by simp [he])
    have h0 : (d : Rat) ≠ 0 := by
      have := hd d (by simp)
      intro h
      have : d = 0 := by exact_mod_cast h
      omega
    simp only [roG, ev1, ev1_neg, gR, Rat.intCast_add, Rat.intCast_mul, Rat.intCast_neg, ih]
    grind
def sumT (q : Rat) (a : Rat) : List Int → Rat
  | [] => 0
  | d :: r => a + sumT q (-(a * q / (d : Rat))) r
def lastT (q : Rat) (a : Rat) : List Int → Rat
  | [] => a
  | d :: r => lastT q (-(a * q / (d : Rat))) r
theorem ser (q : Rat) (m : List Int) : ∀ (l : List Int) (a : Rat), a * gR q (l ++ m) = sumT q a l + lastT q a l * gR q m
  | [], a => by simp [sumT, lastT]; grind
  | d :: r, a => by
    have := ser q m r (-(a * q / (d : Rat)))
    simp only [List.cons_append, gR, sumT, lastT]
    grind
/-! The sine and the cosine, nearly. -/
theorem ratq {e W r B K : Rat} (hW : 0 < W) (hK : 0 < K) (he : e * W = r) (h1 : -B ≤ r) (h2 : r ≤ B) (hB : B * K ≤ W) : -(1 / K) ≤ e ∧ e ≤ 1 / K := by
  have hi : 0 < K⁻¹ := Rat.inv_pos.2 hK
  have hK' : K * K⁻¹ = 1 := Rat.mul_inv_cancel K (by grind)
  have hq : 1 / K = K⁻¹ := by rw [Rat.div_def, Rat.one_mul]
  have h3 : B * K * K⁻¹ ≤ W * K⁻¹ := Rat.mul_le_mul_of_nonneg_right hB (Rat.le_of_lt hi)
  have hB' : B ≤ W * K⁻¹ := by rw [Rat.mul_assoc, hK', Rat.mul_one] at h3; exact h3
  rw [hq]
  refine ⟨?_, ?_⟩
  · refine Rat.le_of_mul_le_mul_left (c := W) ?_ hW
    rw [Rat.mul_comm W e, he]
    have : W * -K⁻¹ = -(W * K⁻¹) := Rat.mul_neg ..
    rw [this]
    exact Rat.le_trans (Rat.neg_le_neg hB') h1
  · refine Rat.le_of_mul_le_mul_left (c := W) ?_ hW
    rw [Rat.mul_comm W e, he]
    exact Rat.le_trans h2 hB'
theorem WS_pos : 0 < WS := by decide +kernel
theorem WC_pos : 0 < WC := by decide +kernel
noncomputable def sR (k : Int) : Rat := (ev1 SL k : Rat) / (WS : Rat)
noncomputable def cR (k : Int) : Rat := (ev1 CL k : Rat) / (WC : Rat)
theorem pos_cast {x : Int} (h : 0 < x) : (0 : Rat) < (x : Rat) := by exact_mod_cast h
theorem sR_W (k : Int) : sR k * (WS : Rat) = (ev1 SL k : Rat) := by
  have := pos_cast WS_pos
  unfold sR
  generalize (WS : Rat) = W at *
  grind
theorem cR_W (k : Int) : cR k * (WC : Rat) = (ev1 CL k : Rat) := by
  have := pos_cast WC_pos
  unfold cR
  generalize (WC : Rat) = W at *
  grind
theorem RS_ev (x y : Int) : ev2 RS x y = WC * ev1 SL (x + y) - (ev1 CL y * ev1 SL x + ev1 SL y * ev1 CL x) := by
  unfold RS
  rw [ev2_add, ev2_sc, ev2_sc, ev2_add, ev2_my, ev2_my, ev2_inS, ev2_inX, ev2_inX]
  omega
theorem RC_ev (x y : Int) : ev2 RC x y = WC * WS * WS * ev1 CL (x + y) - WS * WS * (ev1 CL y * ev1 CL x) + WC * WC * (ev1 SL y * ev1 SL x) := by
  unfold RC
  rw [ev2_add, ev2_add, ev2_sc, ev2_sc, ev2_sc, ev2_my, ev2_my, ev2_inS, ev2_inX, ev2_inX]
  generalize WS = W
  grind
theorem bigS : abs2 RS 34359738368 34359738368 * 1125899906842624 ≤ WS * WC := of_decide_eq_true (by decide +kernel)
theorem bigC : abs2 RC 34359738368 34359738368 * 1125899906842624 ≤ WC * WS * WS * WC := of_decide_eq_true (by decide +kernel)
theorem sR_add {x y : Int} (h1 : -34359738368 ≤ x) (h2 : x ≤ 34359738368) (h3 : -34359738368 ≤ y) (h4 : y ≤ 34359738368) :
    -(1 / 1125899906842624) ≤ sR (x + y) - (sR x * cR y + cR x * sR y) ∧ sR (x + y) - (sR x * cR y + cR x * sR y) ≤ 1 / 1125899906842624 := by
  have hb := ev2_abs RS h1 h2 h3 h4
  have hB := bigS
  have e := RS_ev x y
  have p1 := WS_pos
  have p2 := WC_pos
  have a1 := sR_W (x + y)
  have a2 := sR_W x
  have a3 := sR_W y
  have a4 := cR_W x
  have a5 := cR_W y
  generalize sR (x + y) = s0 at *
  generalize sR x = s1 at *
  generalize sR y = s2 at *
  generalize cR x = c1 at *
  generalize cR y = c2 at *
  generalize ev1 SL (x + y) = E0 at *
  generalize ev1 SL x = E1 at *
  generalize ev1 SL y = E2 at *
  generalize ev1 CL x = E3 at *
  generalize ev1 CL y = E4 at *
  generalize abs2 RS 34359738368 34359738368 = B at *
  generalize ev2 RS x y = r at *
  generalize WS = W at *
  generalize WC = C at *
  refine ratq (W := ((W * C : Int) : Rat)) (r := (r : Rat)) (B := (B : Rat)) (K := 1125899906842624) (pos_cast (Int.mul_pos p1 p2)) (by decide) ?_ ?_ ?_ ?_
  · subst e
    clear hb hB
    simp only [Rat.intCast_add, Rat.intCast_sub, Rat.intCast_mul, ← a1, ← a2, ← a3, ← a4, ← a5]
    grind
  · exact_mod_cast hb.1
  · exact_mod_cast hb.2
  · have h5 := Rat.intCast_le_intCast.2 hB
    rw [Rat.intCast_mul] at h5
    exact h5
theorem cR_add {x y : Int} (h1 : -34359738368 ≤ x) (h2 : x ≤ 34359738368) (h3 : -34359738368 ≤ y) (h4 : y ≤ 34359738368) :
    -(1 / 1125899906842624) ≤ cR (x + y) - (cR x * cR y - sR x * sR y) ∧ cR (x + y) - (cR x * cR y - sR x * sR y) ≤ 1 / 1125899906842624 := by
  have hb := ev2_abs RC h1 h2 h3 h4
  have hB := bigC
  have e := RC_ev x y
  have p1 := WS_pos
  have p2 := WC_pos
  have a1 := cR_W (x + y)
  have a2 := sR_W x
  have a3 := sR_W y
  have a4 := cR_W x
  have a5 := cR_W y
  generalize cR (x + y) = s0 at *
  generalize sR x = s1 at *
  generalize sR y = s2 at *
  generalize cR x = c1 at *
  generalize cR y = c2 at *
  generalize ev1 CL (x + y) = E0 at *
  generalize ev1 SL x = E1 at *
  generalize ev1 SL y = E2 at *
  generalize ev1 CL x = E3 at *
  generalize ev1 CL y = E4 at *
  generalize abs2 RC 34359738368 34359738368 = B at *
  generalize ev2 RC x y = r at *
  generalize WS = W at *
  generalize WC = C at *
  refine ratq (W := ((C * W * W * C : Int) : Rat)) (r := (r : Rat)) (B := (B : Rat)) (K := 1125899906842624) (pos_cast (Int.mul_pos (Int.mul_pos (Int.mul_pos p2 p1) p1) p2)) (by decide) ?_ ?_ ?_ ?_
  · subst e
    clear hb hB
    simp only [Rat.intCast_add, Rat.intCast_sub, Rat.intCast_mul, ← a1, ← a2, ← a3, ← a4, ← a5]
    grind
  · exact_mod_cast hb.1
  · exact_mod_cast hb.2
  · have h5 := Rat.intCast_le_intCast.2 hB
    rw [Rat.intCast_mul] at h5
    exact h5
theorem CL_even (k : Int) : ev1 CL (-k) = ev1 CL k := roG_even _ _ _
theorem SL_odd (k : Int) : ev1 SL (-k) = -ev1 SL k := by
  have := roG_even hh (dsS 22) k
  show 0 + -k * ev1 (roG hh (dsS 22)).1 (-k) = -(0 + k * ev1 (roG hh (dsS 22)).1 k)
  rw [this]; grind
theorem cR_even (k : Int) : cR (-k) = cR k := by unfold cR; rw [CL_even]
theorem sR_odd (k : Int) : sR (-k) = -sR k := by
  have h1 := sR_W k
  have h2 := sR_W (-k)
  rw [SL_odd, Rat.intCast_neg] at h2
  have := pos_cast WS_pos
  generalize (WS : Rat) = W at *
  have h3 : W * W⁻¹ = 1 := Rat.mul_inv_cancel W (by grind)
  grind
theorem cR_0 : cR 0 = 1 := by
  have h := cR_W 0
  rw [show ev1 CL 0 = WC from roG_0 _ _] at h
  have := pos_cast WC_pos
  generalize (WC : Rat) = W at *
  have h1 : W * W⁻¹ = 1 := Rat.mul_inv_cancel W (by grind)
  grind
theorem sR_0 : sR 0 = 0 := by
  have := sR_odd 0
  rw [show (-0 : Int) = 0 from rfl] at this
  grind
theorem sq_leR {c b : Rat} (hb : 0 ≤ b) (h : c * c ≤ b * b) : -b ≤ c ∧ c ≤ b := by
  refine ⟨Rat.not_lt.1 fun k => ?_, Rat.not_lt.1 fun k => ?_⟩
  · have h1 : 0 < -c - b := by grind
    have h2 : 0 < -c + b := by grind
    have := Rat.mul_pos h1 h2
    grind
  · have h1 : 0 < c - b := by grind
    have h2 : 0 < c + b := by grind
    have := Rat.mul_pos h1 h2
    grind
theorem mulR_abs {a b A B : Rat} (h1 : -A ≤ a) (h2 : a ≤ A) (h3 : -B ≤ b) (h4 : b ≤ B) : -(A * B) ≤ a * b ∧ a * b ≤ A * B := by
  have e1 : 0 ≤ (A - a) * (B - b) := Rat.mul_nonneg (by grind) (by grind)
  have e2 : 0 ≤ (A + a) * (B + b) := Rat.mul_nonneg (by grind) (by grind)
  have e3 : 0 ≤ (A - a) * (B + b) := Rat.mul_nonneg (by grind) (by grind)
  have e4 : 0 ≤ (A + a) * (B - b) := Rat.mul_nonneg (by grind) (by grind)
  grind
theorem pyth {x : Int} (h1 : -34359738368 ≤ x) (h2 : x ≤ 34359738368) : -(1 / 1125899906842624) ≤ cR x * cR x + sR x * sR x - 1 ∧ cR x * cR x + sR x * sR x - 1 ≤ 1 / 1125899906842624 := by
  have h := cR_add h1 h2 (y := -x) (by omega) (by omega)
  rw [Int.add_right_neg, cR_0, cR_even, sR_odd] at h
  generalize sR x = s at *
  generalize cR x = c at *
  grind
theorem sq_nn (a : Rat) : 0 ≤ a * a := by
  rcases Rat.le_total (a := 0) (b := a) with h | h
  · exact Rat.mul_nonneg h h
  · have := Rat.mul_nonneg (a := -a) (b := -a) (by grind) (by grind)
    grind
theorem cR_in {x : Int} (h1 : -34359738368 ≤ x) (h2 : x ≤ 34359738368) : -(1 + 1 / 1125899906842624) ≤ cR x ∧ cR x ≤ 1 + 1 / 1125899906842624 := by
  have h := pyth h1 h2
  have k := sq_nn (sR x)
  refine sq_leR (by grind) ?_
  generalize sR x = s at *
  generalize cR x = c at *
  grind
theorem sR_in {x : Int} (h1 : -34359738368 ≤ x) (h2 : x ≤ 34359738368) : -(1 + 1 / 1125899906842624) ≤ sR x ∧ sR x ≤ 1 + 1 / 1125899906842624 := by
  have h := pyth h1 h2
  have k := sq_nn (cR x)
  refine sq_leR (by grind) ?_
  generalize sR x = s at *
  generalize cR x = c at *
  grind
theorem dsS_mem {n : Nat} : ∀ {d : Int}, d ∈ dsS n → 6 ≤ d := by
  induction n with
  | zero => intro d h; cases h
  | succ n ih =>
    intro d h
    rw [dsS, List.mem_append, List.mem_singleton] at h
    rcases h with h | rfl
    · exact ih h
    · have h1 : (2 : Nat) * 3 ≤ (2 * n + 2) * (2 * n + 3) := Nat.mul_le_mul (by omega) (by omega)
      exact Int.ofNat_le.2 h1
theorem dsC_mem {n : Nat} : ∀ {d : Int}, d ∈ dsC n → 2 ≤ d := by
  induction n with
  | zero => intro d h; cases h
  | succ n ih =>
    intro d h
    rw [dsC, List.mem_append, List.mem_singleton] at h
    rcases h with h | rfl
    · exact ih h
    · have h1 : (1 : Nat) * 2 ≤ (2 * n + 1) * (2 * n + 2) := Nat.mul_le_mul (by omega) (by omega)
      exact Int.ofNat_le.2 h1
theorem sR_small {k : Int} (h0 : 0 ≤ k) (h1 : k ≤ 8589934592) : 0 ≤ sR k ∧ sR k * 8589934592 ≤ (k : Rat) := by
  have g : 0 ≤ ev1 GSw.1 k ∧ ev1 GSw.1 k ≤ GSw.2 := roG_in _ fun d hd => by
    have h6 := dsS_mem hd
    have a : k * k ≤ hh * hh := Int.mul_le_mul h1 h1 h0 (by decide)
    have b : hh * hh * 1 ≤ hh * hh * d := Int.mul_le_mul_of_nonneg_left (by omega) (by decide)
    omega
  have e : ev1 SL k = k * ev1 GSw.1 k := by
    show 0 + k * ev1 GSw.1 k = _
    omega
  have p : 0 < GSw.2 := roG_pos (by decide) _ fun d hd => by have := dsS_mem hd; omega
  have w := sR_W k
  rw [e, show WS = hh * GSw.2 from rfl] at w
  generalize ev1 GSw.1 k = G at *
  generalize GSw.2 = W at *
  have g1 : (0 : Rat) ≤ G := by exact_mod_cast g.1
  have g2 : (G : Rat) ≤ W := by exact_mod_cast g.2
  have k0 : (0 : Rat) ≤ k := by exact_mod_cast h0
  have p' : (0 : Rat) < W := by exact_mod_cast p
  have w' : sR k * (8589934592 * (W : Rat)) = (k : Rat) * G := by
    rw [Rat.intCast_mul, Rat.intCast_mul] at w
    exact w
  have a1 : 0 ≤ (k : Rat) * G := Rat.mul_nonneg k0 g1
  have a2 : (k : Rat) * G ≤ k * W := Rat.mul_le_mul_of_nonneg_left g2 k0
  refine ⟨?_, ?_⟩
  · refine Rat.not_lt.1 fun h => ?_
    have := Rat.mul_pos (a := -sR k) (b := 8589934592 * (W : Rat)) (by grind) (by grind)
    grind
  · refine Rat.le_of_mul_le_mul_left (c := (W : Rat)) ?_ p'
    grind
theorem step2 {s c r b : Rat} (hs : -b ≤ s) (hs' : s ≤ b) (hc : -(1 + 1 / 1125899906842624) ≤ c) (hc' : c ≤ 1 + 1 / 1125899906842624)
    (h1 : -(1 / 1125899906842624) ≤ r - (s * c + c * s)) (h2 : r - (s * c + c * s) ≤ 1 / 1125899906842624) :
    -(b * (2 + 2 / 1125899906842624) + 1 / 1125899906842624) ≤ r ∧ r ≤ b * (2 + 2 / 1125899906842624) + 1 / 1125899906842624 := by
  have := mulR_abs hs hs' hc hc'
  grind
/-- The sine of four times w is not far above four times w. -/
theorem sR_four {w : Int} (h0 : 0 ≤ w) (h1 : w ≤ 8589934592) : -((w : Rat) * (4 / 8589934592) + 16 / 1125899906842624) ≤ sR (4 * w) ∧ sR (4 * w) ≤ (w : Rat) * (4 / 8589934592) + 16 / 1125899906842624 := by
  have a := sR_small h0 h1
  have c1 := cR_in (x := w) (by omega) (by omega)
  have c2 := cR_in (x := 2 * w) (by omega) (by omega)
  have d1 := sR_add (x := w) (y := w) (by omega) (by omega) (by omega) (by omega)
  have d2 := sR_add (x := 2 * w) (y := 2 * w) (by omega) (by omega) (by omega) (by omega)
  rw [show w + w = 2 * w by omega] at d1
  rw [show 2 * w + 2 * w = 4 * w by omega] at d2
  have w0 : (0 : Rat) ≤ w := by exact_mod_cast h0
  have w1 : (w : Rat) ≤ 8589934592 := Rat.intCast_le_intCast.2 h1
  have s1 := step2 (b := (w : Rat) * (1 / 8589934592)) (by grind) (by grind) c1.1 c1.2 d1.1 d1.2
  have s2 := step2 s1.1 s1.2 c2.1 c2.2 d2.1 d2.2
  generalize sR (4 * w) = r at *
  grind
/-! In units of 1 / One: sine and cosine of whole numbers. -/
noncomputable def sO (n : Int) : Rat := 1073741824 * sR (8 * n)
noncomputable def cO (n : Int) : Rat := 1073741824 * cR (8 * n)
theorem sO_odd (n : Int) : sO (-n) = -sO n := by
  unfold sO
  rw [show 8 * -n = -(8 * n) by omega, sR_odd]; grind
theorem cO_even (n : Int) : cO (-n) = cO n := by
  unfold cO
  rw [show 8 * -n = -(8 * n) by omega, cR_even]
theorem sO_in {n : Int} (h1 : -4294967296 ≤ n) (h2 : n ≤ 4294967296) : -1073741824 - 1 / 1024 ≤ sO n ∧ sO n ≤ 1073741824 + 1 / 1024 := by
  have := sR_in (x := 8 * n) (by omega) (by omega)
  unfold sO
  grind
theorem cO_in {n : Int} (h1 : -4294967296 ≤ n) (h2 : n ≤ 4294967296) : -1073741824 - 1 / 1024 ≤ cO n ∧ cO n ≤ 1073741824 + 1 / 1024 := by
  have := cR_in (x := 8 * n) (by omega) (by omega)
  unfold cO
  grind
theorem one_O {n : Int} (h1 : -4294967296 ≤ n) (h2 : n ≤ 4294967296) :
    -(1 / 1024) ≤ (cO n * cO n + sO n * sO n) / 1073741824 - 1073741824 ∧ (cO n * cO n + sO n * sO n) / 1073741824 - 1073741824 ≤ 1 / 1024 := by
  have := pyth (x := 8 * n) (by omega) (by omega)
  unfold cO sO
  grind
theorem sO_add {n m : Int} (h1 : -4294967296 ≤ n) (h2 : n ≤ 4294967296) (h3 : -4294967296 ≤ m) (h4 : m ≤ 4294967296) :
    -(1 / 1024) ≤ sO (n + m) - (sO n * cO m + cO n * sO m) / 1073741824 ∧ sO (n + m) - (sO n * cO m + cO n * sO m) / 1073741824 ≤ 1 / 1024 := by
  have := sR_add (x := 8 * n) (y := 8 * m) (by omega) (by omega) (by omega) (by omega)
  rw [← Int.mul_add] at this
  unfold cO sO
  grind
theorem cO_add {n m : Int} (h1 : -4294967296 ≤ n) (h2 : n ≤ 4294967296) (h3 : -4294967296 ≤ m) (h4 : m ≤ 4294967296) :
    -(1 / 1024) ≤ cO (n + m) - (cO n * cO m - sO n * sO m) / 1073741824 ∧ cO (n + m) - (cO n * cO m - sO n * sO m) / 1073741824 ≤ 1 / 1024 := by
  have := cR_add (x := 8 * n) (y := 8 * m) (by omega) (by omega) (by omega) (by omega)
  rw [← Int.mul_add] at this
  unfold cO sO
  grind
theorem far_O {n m : Int} (h1 : -4294967296 ≤ m) (h2 : m ≤ n) (h3 : n ≤ 4294967296) :
    (-((n : Rat) - m) - 1 / 1024 ≤ sO n - sO m ∧ sO n - sO m ≤ (n : Rat) - m + 1 / 1024) ∧ (-((n : Rat) - m) - 1 / 1024 ≤ cO n - cO m ∧ cO n - cO m ≤ (n : Rat) - m + 1 / 1024) := by
  have hw := sR_four (w := n - m) (by omega) (by omega)
  have cu := cR_in (x := 4 * (n + m)) (by omega) (by omega)
  have su := sR_in (x := 4 * (n + m)) (by omega) (by omega)
  have d1 := sR_add (x := 4 * (n + m)) (y := 4 * (n - m)) (by omega) (by omega) (by omega) (by omega)
  have d2 := sR_add (x := 4 * (n + m)) (y := -(4 * (n - m))) (by omega) (by omega) (by omega) (by omega)
  have e1 := cR_add (x := 4 * (n + m)) (y := 4 * (n - m)) (by omega) (by omega) (by omega) (by omega)
  have e2 := cR_add (x := 4 * (n + m)) (y := -(4 * (n - m))) (by omega) (by omega) (by omega) (by omega)
  rw [sR_odd, cR_even] at d2 e2
  rw [show 4 * (n + m) + 4 * (n - m) = 8 * n by omega] at d1 e1
  rw [show 4 * (n + m) + -(4 * (n - m)) = 8 * m by omega] at d2 e2
  have p1 := mulR_abs cu.1 cu.2 hw.1 hw.2
  have p2 := mulR_abs su.1 su.2 hw.1 hw.2
  have ew : ((n - m : Int) : Rat) = (n : Rat) - m := Rat.intCast_sub ..
  have h0 : (0 : Rat) ≤ (n : Rat) - m := by
    rw [← ew]; exact_mod_cast (show (0 : Int) ≤ n - m by omega)
  have h9 : (n : Rat) - m ≤ 8589934592 := by
    rw [← ew]; exact Rat.intCast_le_intCast.2 (show n - m ≤ 8589934592 by omega)
  rw [ew] at hw p1 p2
  unfold sO cO
  generalize sR (4 * (n - m)) = v at *
  generalize cR (4 * (n - m)) = vc at *
  generalize cR (4 * (n + m)) = u at *
  generalize sR (4 * (n + m)) = us at *
  generalize (n : Rat) - m = w at *
  refine ⟨⟨?_, ?_⟩, ?_, ?_⟩ <;> grind

end Go.Proofs.YtbmekaaekngpbaaGreat

/- Enclosures of sines and cosines: plain mathematics. -/
namespace Go.Proofs.YtbmekaaekngpbaaGreat
set_option linter.unusedSimpArgs false
set_option linter.unusedVariables false
set_option maxRecDepth 100000

/-! What intervals hold. -/
def Hd (x : IV) (v : Rat) : Prop := (x.1 : Rat) ≤ v ∧ v ≤ (x.2.1 : Rat)
theorem linR {M a p q w : Rat} (h1 : M ≤ a * p) (h2 : M ≤ a * q) (h3 : p ≤ w) (h4 : w ≤ q) : M ≤ a * w := by
  rcases Rat.le_total (a := 0) (b := a) with h | h
  · have := Rat.mul_nonneg h (show 0 ≤ w - p by grind)
    grind
  · have := Rat.mul_nonneg (show 0 ≤ -a by grind) (show 0 ≤ q - w by grind)
    grind
theorem cornR {M x1 x2 y1 y2 v w : Rat} (h1 : M ≤ x1 * y1) (h2 : M ≤ x2 * y1) (h3 : M ≤ x1 * y2) (h4 : M ≤ x2 * y2) (a1 : x1 ≤ v) (a2 : v ≤ x2) (b1 : y1 ≤ w) (b2 : w ≤ y2) : M ≤ v * w := by
  have h := linR (M := M) (a := w) (p := x1) (q := x2) (w := v) (by have := linR h1 h3 b1 b2; grind) (by have := linR h2 h4 b1 b2; grind) a1 a2
  grind
theorem castM {a b c : Int} (h : a ≤ b * c) : (a : Rat) ≤ b * c := by
  rw [← Rat.intCast_mul]; exact Rat.intCast_le_intCast.2 h
theorem castN {a b c : Int} (h : b * c ≤ a) : ((-a : Int) : Rat) ≤ -(b : Rat) * c := by
  have : ((b * c : Int) : Rat) ≤ (a : Rat) := Rat.intCast_le_intCast.2 h
  rw [Rat.intCast_mul] at this
  rw [Rat.intCast_neg]
  grind
/-- A number between the corners' least and greatest, divided outward. -/
theorem out_Hd {mn mx d : Int} {u : Rat} (hd : 0 < d) (hb : (outV mn mx d).2.2 = false) (h1 : (mn : Rat) ≤ u) (h2 : u ≤ (mx : Rat)) : Hd (outV mn mx d) (u / d) := by
  obtain ⟨_, _, e⟩ := outV_bad hb
  rw [e]
  have a := (flI_b (x := mn) hd).1
  have b := (ceI_b (x := mx) hd).1
  have a' : ((d * flI mn d : Int) : Rat) ≤ (mn : Rat) := Rat.intCast_le_intCast.2 a
  have b' : (mx : Rat) ≤ ((d * ceI mx d : Int) : Rat) := Rat.intCast_le_intCast.2 b
  rw [Rat.intCast_mul] at a' b'
  have p : (0 : Rat) < d := by exact_mod_cast hd
  have pe : (d : Rat) * (u / d) = u := by
    have := Rat.mul_inv_cancel (d : Rat) (by grind)
    grind
  refine ⟨?_, ?_⟩
  · refine Rat.le_of_mul_le_mul_left (c := (d : Rat)) ?_ p
    show (d : Rat) * (flI mn d : Rat) ≤ _
    rw [pe]; exact Rat.le_trans a' h1
  · refine Rat.le_of_mul_le_mul_left (c := (d : Rat)) ?_ p
    show _ ≤ (d : Rat) * (ceI mx d : Rat)
    rw [pe]; exact Rat.le_trans h2 b'
theorem mul_Hd {x y : IV} {v w : Rat} (hx : okV x = true) (hy : okV y = true) (hb : (mulV x y).2.2 = false) (hv : Hd x v) (hw : Hd y w) : Hd (mulV x y) (v * w / 1073741824) := by
  rw [mulV_ok hx hy] at hb ⊢
  have m := mn4_le (a := x.1 * y.1) (b := x.2.1 * y.1) (c := x.1 * y.2.1) (d := x.2.1 * y.2.1)
  have M := le_mx4 (a := x.1 * y.1) (b := x.2.1 * y.1) (c := x.1 * y.2.1) (d := x.2.1 * y.2.1)
  refine out_Hd (by decide) hb ?_ ?_
  · exact cornR (castM m.1) (castM m.2.1) (castM m.2.2.1) (castM m.2.2.2) hv.1 hv.2 hw.1 hw.2
  · have := cornR (v := -v) (x1 := -(x.2.1 : Rat)) (x2 := -(x.1 : Rat)) (castN M.2.1) (castN M.1) (castN M.2.2.2) (castN M.2.2.1) (Rat.neg_le_neg hv.2) (Rat.neg_le_neg hv.1) hw.1 hw.2
    rw [Rat.intCast_neg] at this
    grind
theorem partP_Hd {x : IV} {n d : Int} {v : Rat} (hx : okV x = true) (hd : 0 < d) (hb : (partP x n d).2.2 = false) (hv : Hd x v) : Hd (partP x n d) (v * n / d) := by
  unfold partP at hb ⊢
  rw [if_pos hx] at hb ⊢
  refine out_Hd hd hb ?_ ?_
  · have m := mnI_le (x := x.1 * n) (y := x.2.1 * n)
    exact cornR (castM m.1) (castM m.2) (castM m.1) (castM m.2) hv.1 hv.2 Rat.le_refl Rat.le_refl
  · have M := le_mxI (x := x.1 * n) (y := x.2.1 * n)
    have := cornR (v := -v) (x1 := -(x.2.1 : Rat)) (x2 := -(x.1 : Rat)) (castN M.2) (castN M.1) (castN M.2) (castN M.1) (Rat.neg_le_neg hv.2) (Rat.neg_le_neg hv.1) Rat.le_refl Rat.le_refl
    rw [Rat.intCast_neg] at this
    grind
theorem part_Hd {x : IV} {n d : Int} {v : Rat} (hx : okV x = true) (hd : 0 < d) (hb : (partV x n d).2.2 = false) (hv : Hd x v) : Hd (partV x n d) (v * n / d) := by
  have e : partV x n d = partP x n d := by unfold partV; rw [if_neg (by omega), if_neg (by omega)]
  rw [e] at hb ⊢
  exact partP_Hd hx hd hb hv
theorem add_Hd {x y : IV} {v w : Rat} (hx : okV x = true) (hy : okV y = true) (hb : (addV x y).2.2 = false) (hv : Hd x v) (hw : Hd y w) : Hd (addV x y) (v + w) := by
  rw [addV_ok hx hy] at hb ⊢
  rw [(mkV_bad hb).2.2.2]
  unfold Hd at *
  simp only [Rat.intCast_add]
  grind

/-! Bounds and widths. -/
def Inn (x : IV) (B : Int) : Prop := okV x = true ∧ -B ≤ x.1 ∧ x.2.1 ≤ B
def wdt (x : IV) : Int := x.2.1 - x.1
theorem ok_not {x : IV} (h : okV x = true) : x.2.2 = false := (okV_iff.1 h).1
theorem out_Inn {mn mx d C : Int} (hd : 0 < d) (hC : C ≤ 1152921504606846976) (hm : mn ≤ mx) (h1 : d * -C ≤ mn) (h2 : mx ≤ d * C) : Inn (outV mn mx d) C ∧ d * wdt (outV mn mx d) ≤ mx - mn + 2 * d - 2 := by
  have a := (le_fl (x := mn) hd).2 h1
  have b := (ce_le (x := mx) hd).2 h2
  have c := fl_ce hd hm
  have e := outV_ok hd hm (by omega) (by omega)
  have f := (flI_b (x := mn) hd).2
  have g := (ceI_b (x := mx) hd).2
  unfold Inn wdt
  rw [e]
  refine ⟨⟨okV_iff.2 ⟨rfl, by show _ ≤ flI mn d; omega, c, by show ceI mx d ≤ _; omega⟩, a, b⟩, ?_⟩
  show d * (ceI mx d - flI mn d) ≤ _
  rw [Int.mul_sub]
  omega
theorem mulZ_abs {a b A B : Int} (h1 : -A ≤ a) (h2 : a ≤ A) (h3 : -B ≤ b) (h4 : b ≤ B) : -(A * B) ≤ a * b ∧ a * b ≤ A * B := by
  have e1 : 0 ≤ (A - a) * (B - b) := Int.mul_nonneg (by omega) (by omega)
  have e2 : 0 ≤ (A + a) * (B + b) := Int.mul_nonneg (by omega) (by omega)
  have e3 : 0 ≤ (A - a) * (B + b) := Int.mul_nonneg (by omega) (by omega)
  have e4 : 0 ≤ (A + a) * (B - b) := Int.mul_nonneg (by omega) (by omega)
  grind
/-- Corners are not farther from each other than this. -/
theorem corn_far {x1 x2 y1 y2 x3 y3 B C : Int} (h1 : -B ≤ x1) (h2 : x1 ≤ B) (h3 : -C ≤ y3) (h4 : y3 ≤ C) (a1 : x1 - x3 ≤ x2) (a2 : -x2 ≤ x1 - x3) (b1 : y1 - y3 ≤ y2) (b2 : -y2 ≤ y1 - y3) : x1 * y1 - x3 * y3 ≤ B * y2 + C * x2 := by
  have e1 := mulZ_abs h1 h2 b2 b1
  have e2 := mulZ_abs a2 a1 h3 h4
  have : x1 * y1 - x3 * y3 = x1 * (y1 - y3) + (x1 - x3) * y3 := by rw [Int.mul_sub, Int.sub_mul]; omega
  grind
theorem mul_Inn {x y : IV} {B C D : Int} (hx : Inn x B) (hy : Inn y C) (hD : D ≤ 1152921504606846976) (h : B * C ≤ 1073741824 * D) : Inn (mulV x y) D ∧ 1073741824 * wdt (mulV x y) ≤ B * wdt y + C * wdt x + 2147483646 := by
  have ax := okV_iff.1 hx.1
  have ay := okV_iff.1 hy.1
  obtain ⟨_, x1, x2⟩ := hx
  obtain ⟨_, y1, y2⟩ := hy
  rw [mulV_ok (by assumption) (by assumption)]
  have c1 := mulZ_abs (A := B) (B := C) (a := x.1) (b := y.1) (by omega) (by omega) (by omega) (by omega)
  have c2 := mulZ_abs (A := B) (B := C) (a := x.2.1) (b := y.1) (by omega) (by omega) (by omega) (by omega)
  have c3 := mulZ_abs (A := B) (B := C) (a := x.1) (b := y.2.1) (by omega) (by omega) (by omega) (by omega)
  have c4 := mulZ_abs (A := B) (B := C) (a := x.2.1) (b := y.2.1) (by omega) (by omega) (by omega) (by omega)
  have o := out_Inn (mn := mn4I (x.1 * y.1) (x.2.1 * y.1) (x.1 * y.2.1) (x.2.1 * y.2.1)) (mx := mx4I (x.1 * y.1) (x.2.1 * y.1) (x.1 * y.2.1) (x.2.1 * y.2.1)) (d := 1073741824) (C := D) (by decide) hD mn4_mx4
    (le_mn4 (by omega) (by omega) (by omega) (by omega)) (mx4_le (by omega) (by omega) (by omega) (by omega))
  refine ⟨o.1, ?_⟩
  have f : ∀ p q r s : Int, (p = x.1 ∨ p = x.2.1) → (q = y.1 ∨ q = y.2.1) → (r = x.1 ∨ r = x.2.1) → (s = y.1 ∨ s = y.2.1) → p * q - r * s ≤ B * wdt y + C * wdt x := by
    intro p q r s hp hq hr hs
    unfold wdt
    exact corn_far (by omega) (by omega) (by omega) (by omega) (by omega) (by omega) (by omega) (by omega)
  have k : mx4I (x.1 * y.1) (x.2.1 * y.1) (x.1 * y.2.1) (x.2.1 * y.2.1) - mn4I (x.1 * y.1) (x.2.1 * y.1) (x.1 * y.2.1) (x.2.1 * y.2.1) ≤ B * wdt y + C * wdt x := by
    have p := mxI_p (Q := fun z => ∃ p q, z = p * q ∧ (p = x.1 ∨ p = x.2.1) ∧ (q = y.1 ∨ q = y.2.1)) (mxI_p (Q := fun z => ∃ p q, z = p * q ∧ (p = x.1 ∨ p = x.2.1) ∧ (q = y.1 ∨ q = y.2.1)) (mxI_p (Q := fun z => ∃ p q, z = p * q ∧ (p = x.1 ∨ p = x.2.1) ∧ (q = y.1 ∨ q = y.2.1)) (x := x.1 * y.1) (y := x.2.1 * y.1) ⟨_, _, rfl, by simp, by simp⟩ ⟨_, _, rfl, by simp, by simp⟩) (y := x.1 * y.2.1) ⟨_, _, rfl, by simp, by simp⟩) (y := x.2.1 * y.2.1) ⟨_, _, rfl, by simp, by simp⟩
    have q := mnI_p (Q := fun z => ∃ p q, z = p * q ∧ (p = x.1 ∨ p = x.2.1) ∧ (q = y.1 ∨ q = y.2.1)) (mnI_p (Q := fun z => ∃ p q, z = p * q ∧ (p = x.1 ∨ p = x.2.1) ∧ (q = y.1 ∨ q = y.2.1)) (mnI_p (Q := fun z => ∃ p q, z = p * q ∧ (p = x.1 ∨ p = x.2.1) ∧ (q = y.1 ∨ q = y.2.1)) (x := x.1 * y.1) (y := x.2.1 * y.1) ⟨_, _, rfl, by simp, by simp⟩ ⟨_, _, rfl, by simp, by simp⟩) (y := x.1 * y.2.1) ⟨_, _, rfl, by simp, by simp⟩) (y := x.2.1 * y.2.1) ⟨_, _, rfl, by simp, by simp⟩
    obtain ⟨p1, q1, e1, hp1, hq1⟩ := p
    obtain ⟨p2, q2, e2, hp2, hq2⟩ := q
    have := f p1 q1 p2 q2 hp1 hq1 hp2 hq2
    unfold mx4I mn4I
    omega
  have := o.2
  omega
theorem partM_Inn {x : IV} {B C d : Int} (hx : Inn x B) (hd : 0 < d) (hC : C ≤ 1152921504606846976) (h : B ≤ d * C) : Inn (partV x (-1) d) C ∧ d * wdt (partV x (-1) d) ≤ wdt x + 2 * d - 2 := by
  have ax := okV_iff.1 hx.1
  obtain ⟨ok, x1, x2⟩ := hx
  have e : partV x (-1) d = outV (mnI (x.1 * -1) (x.2.1 * -1)) (mxI (x.1 * -1) (x.2.1 * -1)) d := by
    unfold partV partP; rw [if_neg (by omega), if_neg (by omega), if_pos ok]
  rw [e]
  have e1 : mnI (x.1 * -1) (x.2.1 * -1) = -x.2.1 := by unfold mnI; split <;> omega
  have e2 : mxI (x.1 * -1) (x.2.1 * -1) = -x.1 := by unfold mxI; split <;> omega
  rw [e1, e2]
  have o := out_Inn (mn := -x.2.1) (mx := -x.1) (d := d) (C := C) hd hC (by omega) (by rw [Int.mul_neg]; omega) (by omega)
  refine ⟨o.1, ?_⟩
  have := o.2
  unfold wdt at *
  omega
theorem add_Inn {x y : IV} {B C : Int} (hx : Inn x B) (hy : Inn y C) (h : B + C ≤ 1152921504606846976) : Inn (addV x y) (B + C) ∧ wdt (addV x y) = wdt x + wdt y := by
  have ax := okV_iff.1 hx.1
  have ay := okV_iff.1 hy.1
  have e : addV x y = (x.1 + y.1, x.2.1 + y.2.1, false) := by
    rw [addV_ok hx.1 hy.1]
    obtain ⟨_, x1, x2⟩ := hx
    obtain ⟨_, y1, y2⟩ := hy
    exact mkV_ok (by omega) (by omega) (by omega)
  rw [e]
  obtain ⟨_, x1, x2⟩ := hx
  obtain ⟨_, y1, y2⟩ := hy
  refine ⟨⟨okV_iff.2 ⟨rfl, ?_, ?_, ?_⟩, ?_, ?_⟩, ?_⟩
  all_goals first
    | (show _ ≤ _; simp only []; omega)
    | (unfold wdt; simp only []; omega)
/-! The terms of the series, as intervals. -/
def qV (n : Int) : IV := mulV (mkV n n) (mkV n n)
def dV (c : Bool) (k : Nat) : Int := if c = true then Int.ofNat ((2 * k + 1) * (2 * k + 2)) else Int.ofNat ((2 * k + 2) * (2 * k + 3))
def tV (c : Bool) (n : Int) : Nat → IV
  | 0 => if c = true then (1073741824, 1073741824, false) else mkV n n
  | k + 1 => partV (mulV (tV c n k) (qV n)) (-1) (dV c k)
/-- Sums of the first terms. -/
def sV (c : Bool) (n : Int) : Nat → IV
  | 0 => (0, 0, false)
  | k + 1 => addV (sV c n k) (tV c n k)
/-- What a term is not farther from 0 than; how wide it is at most. -/
def Bs (c : Bool) : Nat → Int
  | 0 => if c = true then 1073741824 else 4294967296
  | k + 1 => (16 * Bs c k + dV c k - 1) / dV c k
def Ws (c : Bool) : Nat → Int
  | 0 => 0
  | k + 1 => ((Bs c k + 17179869184 * Ws c k + 2147483646) / 1073741824 + 2 * dV c k - 2) / dV c k
def Bss (c : Bool) : Nat → Int
  | 0 => 0
  | k + 1 => Bss c k + Bs c k
def Wss (c : Bool) : Nat → Int
  | 0 => 0
  | k + 1 => Wss c k + Ws c k
theorem dV_pos (c : Bool) (k : Nat) : 0 < dV c k := by
  have h1 : 0 < (2 * k + 1) * (2 * k + 2) := Nat.mul_pos (by omega) (by omega)
  have h2 : 0 < (2 * k + 2) * (2 * k + 3) := Nat.mul_pos (by omega) (by omega)
  unfold dV
  split
  · exact Int.ofNat_lt.2 h1
  · exact Int.ofNat_lt.2 h2
theorem Bs_ok : ∀ c k, k ≤ 13 → 0 ≤ Bs c k ∧ 16 * Bs c k ≤ 1152921504606846976 ∧ Bss c k ≤ 1152921504606846976 - Bs c k ∧ 0 ≤ Ws c k := by
  have h : ∀ c : Bool, ∀ k : Fin 14, 0 ≤ Bs c k ∧ 16 * Bs c k ≤ 1152921504606846976 ∧ Bss c k ≤ 1152921504606846976 - Bs c k ∧ 0 ≤ Ws c k := by decide +kernel
  intro c k hk
  exact h c ⟨k, by omega⟩
theorem end_ok : ∀ c, Bs c 13 = 1 ∧ Wss c 13 ≤ 40 := by decide +kernel
theorem qV_ok {n : Int} (h1 : -4294967296 ≤ n) (h2 : n ≤ 4294967296) : Inn (qV n) 17179869184 ∧ wdt (qV n) ≤ 1 := by
  have e : mkV n n = (n, n, false) := mkV_ok (by omega) (by omega) (by omega)
  have i : Inn (n, n, false) 4294967296 := ⟨okV_iff.2 ⟨rfl, by show _ ≤ n; omega, Int.le_refl n, by show n ≤ _; omega⟩, h1, h2⟩
  have m := mul_Inn i i (D := 17179869184) (by decide) (by decide)
  unfold qV
  rw [e]
  refine ⟨m.1, ?_⟩
  have := m.2
  have w : wdt ((n, n, false) : IV) = 0 := Int.sub_self n
  rw [w] at this
  omega
theorem t0_ok (c : Bool) {n : Int} (h1 : -4294967296 ≤ n) (h2 : n ≤ 4294967296) : Inn (tV c n 0) (Bs c 0) ∧ wdt (tV c n 0) = 0 := by
  cases c
  · have e : tV false n 0 = (n, n, false) := mkV_ok (by omega) (by omega) (by omega)
    rw [e]
    exact ⟨⟨okV_iff.2 ⟨rfl, by show _ ≤ n; omega, Int.le_refl n, by show n ≤ _; omega⟩, h1, h2⟩, Int.sub_self n⟩
  · exact ⟨⟨rfl, by show (-1073741824 : Int) ≤ 1073741824; decide, by show (1073741824 : Int) ≤ 1073741824; decide⟩, rfl⟩
theorem ceil_le {a d : Int} (hd : 0 < d) : a ≤ d * ((a + d - 1) / d) := by
  have h := Int.emod_add_mul_ediv (a + d - 1) d
  have h2 := Int.emod_lt_of_pos (a + d - 1) hd
  omega
theorem tV_ok (c : Bool) {n : Int} (h1 : -4294967296 ≤ n) (h2 : n ≤ 4294967296) : ∀ k, k ≤ 13 → Inn (tV c n k) (Bs c k) ∧ wdt (tV c n k) ≤ Ws c k
  | 0, _ => ⟨(t0_ok c h1 h2).1, Int.le_of_eq (t0_ok c h1 h2).2⟩
  | k + 1, hk => by
    obtain ⟨i, w⟩ := tV_ok c h1 h2 k (by omega)
    obtain ⟨b0, b1, _, w0⟩ := Bs_ok c k (by omega)
    obtain ⟨_, b2, _, _⟩ := Bs_ok c (k + 1) hk
    obtain ⟨qi, qw⟩ := qV_ok h1 h2
    have d0 := dV_pos c k
    obtain ⟨mi, mw⟩ := mul_Inn i qi (D := 16 * Bs c k) b1 (by omega)
    have ce := ceil_le (a := 16 * Bs c k) d0
    obtain ⟨pi, pw⟩ := partM_Inn mi d0 (C := Bs c (k + 1)) (by omega) ce
    refine ⟨pi, ?_⟩
    have f1 : wdt (mulV (tV c n k) (qV n)) ≤ (Bs c k + 17179869184 * Ws c k + 2147483646) / 1073741824 := by
      have : Bs c k * wdt (qV n) ≤ Bs c k * 1 := Int.mul_le_mul_of_nonneg_left qw b0
      omega
    show wdt (partV (mulV (tV c n k) (qV n)) (-1) (dV c k)) ≤ ((Bs c k + 17179869184 * Ws c k + 2147483646) / 1073741824 + 2 * dV c k - 2) / dV c k
    rw [Int.le_ediv_iff_mul_le d0, Int.mul_comm]
    omega
theorem sV_ok (c : Bool) {n : Int} (h1 : -4294967296 ≤ n) (h2 : n ≤ 4294967296) : ∀ k, k ≤ 14 → Inn (sV c n k) (Bss c k) ∧ wdt (sV c n k) ≤ Wss c k
  | 0, _ => ⟨⟨rfl, by show (0 : Int) ≤ 0; decide, by show (0 : Int) ≤ 0; decide⟩, by show (0 : Int) - 0 ≤ 0; decide⟩
  | k + 1, hk => by
    obtain ⟨i, w⟩ := sV_ok c h1 h2 k (by omega)
    obtain ⟨ti, tw⟩ := tV_ok c h1 h2 k (by omega)
    obtain ⟨_, _, b, _⟩ := Bs_ok c k (by omega)
    obtain ⟨ai, aw⟩ := add_Inn i ti (by omega)
    exact ⟨ai, by show wdt (addV (sV c n k) (tV c n k)) ≤ Wss c k + Ws c k; omega⟩

/-! What the terms hold. -/
def dsT (c : Bool) (k : Nat) : List Int := if c = true then dsC k else dsS k
theorem dsT_succ (c : Bool) (k : Nat) : dsT c (k + 1) = dsT c k ++ [dV c k] := by cases c <;> rfl
theorem sumT_app (q : Rat) (d : Int) : ∀ (l : List Int) (a : Rat), sumT q a (l ++ [d]) = sumT q a l + lastT q a l
  | [], a => by show a + 0 = 0 + a; grind
  | e :: l, a => by simp only [List.cons_append, sumT, lastT, sumT_app q d l]; grind
theorem lastT_app (q : Rat) (d : Int) : ∀ (l : List Int) (a : Rat), lastT q a (l ++ [d]) = -(lastT q a l * q / (d : Rat))
  | [], a => by simp [lastT]
  | e :: l, a => by simp only [List.cons_append, lastT, lastT_app q d l]
def a0 (c : Bool) (n : Int) : Rat := if c = true then 1073741824 else (n : Rat)
def qR (n : Int) : Rat := (n : Rat) * n / 1152921504606846976
theorem pt_Hd (n : Int) : Hd (n, n, false) (n : Rat) := ⟨Rat.le_refl, Rat.le_refl⟩
theorem qV_Hd {n : Int} (h1 : -4294967296 ≤ n) (h2 : n ≤ 4294967296) : Hd (qV n) ((n : Rat) * n / 1073741824) := by
  have k := (qV_ok h1 h2).1.1
  unfold qV at *
  have e : mkV n n = (n, n, false) := mkV_ok (by omega) (by omega) (by omega)
  rw [e] at k ⊢
  have i : okV (n, n, false) = true := okV_iff.2 ⟨rfl, by show _ ≤ n; omega, Int.le_refl n, by show n ≤ _; omega⟩
  exact mul_Hd i i (ok_not k) (pt_Hd n) (pt_Hd n)
theorem tV_Hd (c : Bool) {n : Int} (h1 : -4294967296 ≤ n) (h2 : n ≤ 4294967296) : ∀ k, k ≤ 13 → Hd (tV c n k) (lastT (qR n) (a0 c n) (dsT c k))
  | 0, _ => by
    cases c
    · show Hd (mkV n n) (n : Rat)
      rw [mkV_ok (by omega) (by omega) (by omega)]
      exact pt_Hd n
    · exact ⟨Rat.le_refl (a := 1073741824), Rat.le_refl (a := 1073741824)⟩
  | k + 1, hk => by
    have ih := tV_Hd c h1 h2 k (by omega)
    obtain ⟨i, _⟩ := tV_ok c h1 h2 k (by omega)
    obtain ⟨b0, b1, _, w0⟩ := Bs_ok c k (by omega)
    obtain ⟨qi, _⟩ := qV_ok h1 h2
    obtain ⟨mi, _⟩ := mul_Inn i qi (D := 16 * Bs c k) b1 (by omega)
    have d0 := dV_pos c k
    obtain ⟨pi, _⟩ := tV_ok c h1 h2 (k + 1) hk
    have m := mul_Hd i.1 qi.1 (ok_not mi.1) ih (qV_Hd h1 h2)
    have p := part_Hd (n := -1) mi.1 d0 (ok_not pi.1) m
    rw [dsT_succ, lastT_app]
    have e : lastT (qR n) (a0 c n) (dsT c k) * ((n : Rat) * n / 1073741824) / 1073741824 * ((-1 : Int) : Rat) / (dV c k : Rat) = -(lastT (qR n) (a0 c n) (dsT c k) * qR n / (dV c k : Rat)) := by
      unfold qR
      rw [show ((-1 : Int) : Rat) = -1 from rfl]
      grind
    rw [← e]
    exact p
theorem sV_Hd (c : Bool) {n : Int} (h1 : -4294967296 ≤ n) (h2 : n ≤ 4294967296) : ∀ k, k ≤ 14 → Hd (sV c n k) (sumT (qR n) (a0 c n) (dsT c k))
  | 0, _ => by cases c <;> exact ⟨Rat.le_refl (a := 0), Rat.le_refl (a := 0)⟩
  | k + 1, hk => by
    have ih := sV_Hd c h1 h2 k (by omega)
    have t := tV_Hd c h1 h2 k (by omega)
    obtain ⟨i, w⟩ := sV_ok c h1 h2 k (by omega)
    obtain ⟨ti, tw⟩ := tV_ok c h1 h2 k (by omega)
    obtain ⟨ai, _⟩ := sV_ok c h1 h2 (k + 1) hk
    rw [dsT_succ, sumT_app]
    exact add_Hd i.1 ti.1 (ok_not ai.1) ih t
/-! Enclosures of points, and of intervals. -/
def wdV (a : IV) (r : Int) : IV := meetV (addV a (mkV (mnI (-r) r) (mxI (-r) r))) (mkV (-1073741824) 1073741824)
def rV (c : Bool) (n : Int) : Int := mxI (tV c n 13).2.1 (-(tV c n 13).1)
def eV (c : Bool) (n : Int) : IV := wdV (sV c n 13) (rV c n)
theorem gR_in {q : Rat} (h0 : 0 ≤ q) : ∀ (l : List Int), (∀ d ∈ l, 0 < d ∧ q ≤ (d : Rat)) → 0 ≤ gR q l ∧ gR q l ≤ 1
  | [], _ => by show (0 : Rat) ≤ 1 ∧ (1 : Rat) ≤ 1; exact ⟨by decide, Rat.le_refl⟩
  | d :: r, hd => by
    have ih := gR_in h0 r fun e he => hd e (by simp [he])
    have h1 := hd d (by simp)
    have p : (0 : Rat) < d := by exact_mod_cast h1.1
    have i : (0 : Rat) < (d : Rat)⁻¹ := Rat.inv_pos.2 p
    have e : (d : Rat) * (d : Rat)⁻¹ = 1 := Rat.mul_inv_cancel _ (by grind)
    have a : 0 ≤ q * (d : Rat)⁻¹ := Rat.mul_nonneg h0 (by grind)
    have b : q * (d : Rat)⁻¹ ≤ (d : Rat) * (d : Rat)⁻¹ := Rat.mul_le_mul_of_nonneg_right h1.2 (by grind)
    have m1 := Rat.mul_nonneg a ih.1
    have m2 : q * (d : Rat)⁻¹ * gR q r ≤ 1 * 1 := by
      have c1 := Rat.mul_le_mul_of_nonneg_left (c := q * (d : Rat)⁻¹) ih.2 a
      grind
    show 0 ≤ 1 - q / d * gR q r ∧ 1 - q / d * gR q r ≤ 1
    rw [Rat.div_def]
    grind
theorem qR_in {n : Int} (h1 : -4294967296 ≤ n) (h2 : n ≤ 4294967296) : 0 ≤ qR n ∧ qR n ≤ 16 := by
  have a : (n : Rat) ≤ 4294967296 := Rat.intCast_le_intCast.2 h2
  have b : (-4294967296 : Rat) ≤ (n : Rat) := Rat.intCast_le_intCast.2 h1
  have m := mulR_abs (A := 4294967296) (B := 4294967296) (by grind) a (by grind) a
  have s := sq_nn (n : Rat)
  unfold qR
  grind
/-- The rest of the row. -/
def tlT (c : Bool) : List Int := (dsT c 22).drop 13
theorem tlT_in : ∀ c, ∀ d ∈ tlT c, 600 ≤ d := by decide +kernel
theorem dsT_split : ∀ c, dsT c 22 = dsT c 13 ++ tlT c := by decide +kernel
theorem row_O (c : Bool) {n : Int} : a0 c n * gR (qR n) (dsT c 22) = if c = true then cO n else sO n := by
  have q : ((8 * n : Int) : Rat) * (8 * n : Int) / ((8589934592 : Int) * (8589934592 : Int)) = qR n := by
    unfold qR
    rw [Rat.intCast_mul, show ((8 : Int) : Rat) = 8 from rfl, show ((8589934592 : Int) : Rat) = 8589934592 from rfl]
    grind
  cases c
  · have g := roG_gR (h := 8589934592) (k := 8 * n) (by decide) (dsS 22) fun d hd => by have := dsS_mem hd; omega
    rw [q] at g
    have w := sR_W (8 * n)
    have e : ev1 SL (8 * n) = 8 * n * ev1 GSw.1 (8 * n) := by
      show 0 + 8 * n * ev1 GSw.1 (8 * n) = _
      omega
    have p : 0 < GSw.2 := roG_pos (by decide) _ fun d hd => by have := dsS_mem hd; omega
    rw [e, show WS = hh * GSw.2 from rfl, show hh = 8589934592 from rfl] at w
    rw [show (roG 8589934592 (dsS 22)) = GSw from rfl] at g
    show (n : Rat) * gR (qR n) (dsS 22) = 1073741824 * sR (8 * n)
    generalize ev1 GSw.1 (8 * n) = G at *
    generalize GSw.2 = W at *
    generalize gR (qR n) (dsS 22) = y at *
    have p' : (0 : Rat) < W := by exact_mod_cast p
    have i : (W : Rat) * (W : Rat)⁻¹ = 1 := Rat.mul_inv_cancel _ (by grind)
    rw [Rat.intCast_mul, Rat.intCast_mul, Rat.intCast_mul, show ((8 : Int) : Rat) = 8 from rfl, show ((8589934592 : Int) : Rat) = 8589934592 from rfl, g] at w
    grind
  · have g := roG_gR (h := 8589934592) (k := 8 * n) (by decide) (dsC 22) fun d hd => by have := dsC_mem hd; omega
    rw [q] at g
    have w := cR_W (8 * n)
    have p : 0 < GCw.2 := roG_pos (by decide) _ fun d hd => by have := dsC_mem hd; omega
    rw [show ev1 CL (8 * n) = ev1 GCw.1 (8 * n) from rfl, show WC = GCw.2 from rfl] at w
    rw [show (roG 8589934592 (dsC 22)) = GCw from rfl] at g
    show 1073741824 * gR (qR n) (dsC 22) = 1073741824 * cR (8 * n)
    generalize ev1 GCw.1 (8 * n) = G at *
    generalize GCw.2 = W at *
    generalize gR (qR n) (dsC 22) = y at *
    have p' : (0 : Rat) < W := by exact_mod_cast p
    have i : (W : Rat) * (W : Rat)⁻¹ = 1 := Rat.mul_inv_cancel _ (by grind)
    rw [g] at w
    grind
noncomputable def fO (c : Bool) (n : Int) : Rat := if c = true then cO n else sO n
theorem fO_in (c : Bool) {n : Int} (h1 : -4294967296 ≤ n) (h2 : n ≤ 4294967296) : -1073741824 - 1 / 1024 ≤ fO c n ∧ fO c n ≤ 1073741824 + 1 / 1024 := by
  cases c
  · exact sO_in h1 h2
  · exact cO_in h1 h2
theorem far_f (c : Bool) {n m : Int} (h1 : -4294967296 ≤ n) (h2 : n ≤ 4294967296) (h3 : -4294967296 ≤ m) (h4 : m ≤ 4294967296) {d : Int} (e1 : n - m ≤ d) (e2 : m - n ≤ d) : -(d : Rat) - 1 / 1024 ≤ fO c n - fO c m ∧ fO c n - fO c m ≤ (d : Rat) + 1 / 1024 := by
  have a1 : (n : Rat) - m ≤ d := by rw [← Rat.intCast_sub]; exact Rat.intCast_le_intCast.2 e1
  have a2 : (m : Rat) - n ≤ d := by rw [← Rat.intCast_sub]; exact Rat.intCast_le_intCast.2 e2
  rcases Int.le_total m n with h | h
  · have f := far_O h3 h h2
    unfold fO
    cases c <;> simp only [if_true, if_false, Bool.false_eq_true] <;> grind
  · have f := far_O h1 h h4
    unfold fO
    cases c <;> simp only [if_true, if_false, Bool.false_eq_true] <;> grind
/-- Nearly held. -/
def Hn (x : IV) (v : Rat) : Prop := (x.1 : Rat) ≤ v + 1 / 64 ∧ v - 1 / 64 ≤ (x.2.1 : Rat)
theorem lt_one {a b : Int} (h : (a : Rat) < (b : Rat) + 1) : a ≤ b := by
  have h1 : (a : Rat) < ((b + 1 : Int) : Rat) := by rw [Rat.intCast_add]; exact h
  have := Rat.intCast_lt_intCast.1 h1
  omega
/-- Widened, of what nearly holds a number that is hardly beyond one. -/
theorem wd_ok {a : IV} {r B : Int} {v d0 : Rat} (ha : Inn a B) (hr : 0 ≤ r) (hB : B + r ≤ 1152921504606846976) (h1 : (a.1 : Rat) - r ≤ v + d0) (h2 : v - d0 ≤ (a.2.1 : Rat) + r) (hd : d0 < 1 / 2) (hd0 : 1 / 1024 ≤ d0) (k1 : -1073741824 - 1 / 1024 ≤ v) (k2 : v ≤ 1073741824 + 1 / 1024) :
    Inn (wdV a r) 1073741824 ∧ wdt (wdV a r) ≤ wdt a + 2 * r ∧ ((wdV a r).1 : Rat) ≤ v + d0 ∧ v - d0 ≤ ((wdV a r).2.1 : Rat) := by
  have o := okV_iff.1 ha.1
  have er : mkV (mnI (-r) r) (mxI (-r) r) = (-r, r, false) := by
    rw [show mnI (-r) r = -r by unfold mnI; split <;> omega, show mxI (-r) r = r by unfold mxI; split <;> omega]
    exact mkV_ok (by have := ha.2; omega) (by omega) (by have := ha.2; omega)
  have ir : Inn (-r, r, false) r := ⟨okV_iff.2 ⟨rfl, by show _ ≤ -r; have := ha.2; omega, by show -r ≤ r; omega, by show r ≤ _; have := ha.2; omega⟩, Int.le_refl _, Int.le_refl _⟩
  have e1 : addV a (-r, r, false) = (a.1 + -r, a.2.1 + r, false) := by
    rw [addV_ok ha.1 ir.1]
    have := ha.2
    exact mkV_ok (by show _ ≤ a.1 + -r; omega) (by show a.1 + -r ≤ a.2.1 + r; omega) (by show a.2.1 + r ≤ _; omega)
  have i1 := (add_Inn ha ir hB).1
  rw [e1] at i1
  have eo : mkV (-1073741824) 1073741824 = (-1073741824, 1073741824, false) := by decide
  -- not beyond one
  have b1 : a.1 - r ≤ 1073741824 := lt_one (by rw [Rat.intCast_sub]; have : ((1073741824 : Int) : Rat) = 1073741824 := rfl; grind)
  have b2 : -1073741824 ≤ a.2.1 + r := lt_one (by rw [Rat.intCast_add]; have : ((-1073741824 : Int) : Rat) = -1073741824 := rfl; grind)
  have em : wdV a r = (mxI (a.1 + -r) (-1073741824), mnI (a.2.1 + r) 1073741824, false) := by
    unfold wdV
    rw [er, e1, eo]
    unfold meetV
    rw [i1.1, show okV (-1073741824, 1073741824, false) = true by decide]
    have c1 : mxI (a.1 + -r) (-1073741824) ≤ mnI (a.2.1 + r) 1073741824 := by
      unfold mxI mnI; split <;> split <;> omega
    refine mkV_ok ?_ c1 ?_
    · exact Int.le_trans (by decide) le_mxI.2
    · exact Int.le_trans mnI_le.2 (by decide)
  rw [em]
  have g1 := le_mxI (x := a.1 + -r) (y := -1073741824)
  have g2 := mnI_le (x := a.2.1 + r) (y := 1073741824)
  have c1 : mxI (a.1 + -r) (-1073741824) ≤ mnI (a.2.1 + r) 1073741824 := by
    unfold mxI mnI; split <;> split <;> omega
  refine ⟨⟨okV_iff.2 ⟨rfl, ?_, c1, ?_⟩, g1.2, g2.2⟩, ?_, ?_, ?_⟩
  · show _ ≤ mxI _ _; omega
  · show mnI _ _ ≤ _; omega
  · show mnI _ _ - mxI _ _ ≤ _
    unfold wdt; omega
  · show ((mxI (a.1 + -r) (-1073741824) : Int) : Rat) ≤ _
    refine mxI_p (Q := fun z : Int => (z : Rat) ≤ v + d0) ?_ ?_
    · rw [Rat.intCast_add, Rat.intCast_neg]; grind
    · have : ((-1073741824 : Int) : Rat) = -1073741824 := rfl
      grind
  · show _ ≤ ((mnI (a.2.1 + r) 1073741824 : Int) : Rat)
    refine mnI_p (Q := fun z : Int => v - d0 ≤ (z : Rat)) ?_ ?_
    · rw [Rat.intCast_add]; grind
    · have : ((1073741824 : Int) : Rat) = 1073741824 := rfl
      grind
theorem rV_ok (c : Bool) {n : Int} (h1 : -4294967296 ≤ n) (h2 : n ≤ 4294967296) : 0 ≤ rV c n ∧ rV c n ≤ 1 ∧ ∀ v, Hd (tV c n 13) v → -(rV c n : Rat) ≤ v ∧ v ≤ (rV c n : Rat) := by
  obtain ⟨⟨ok, t1, t2⟩, _⟩ := tV_ok c h1 h2 13 (by decide)
  have o := okV_iff.1 ok
  rw [(end_ok c).1] at t1 t2
  unfold rV
  have g := le_mxI (x := (tV c n 13).2.1) (y := -(tV c n 13).1)
  refine ⟨by omega, mxI_le t2 (by omega), fun v hv => ?_⟩
  have a : ((tV c n 13).2.1 : Rat) ≤ ((mxI (tV c n 13).2.1 (-(tV c n 13).1) : Int) : Rat) := Rat.intCast_le_intCast.2 g.1
  have b : ((-(tV c n 13).1 : Int) : Rat) ≤ ((mxI (tV c n 13).2.1 (-(tV c n 13).1) : Int) : Rat) := Rat.intCast_le_intCast.2 g.2
  rw [Rat.intCast_neg] at b
  unfold Hd at hv
  grind
/-- The enclosure of a point. -/
theorem eV_ok (c : Bool) {n : Int} (h1 : -4294967296 ≤ n) (h2 : n ≤ 4294967296) : Inn (eV c n) 1073741824 ∧ wdt (eV c n) ≤ 42 ∧ ((eV c n).1 : Rat) ≤ fO c n + 1 / 1024 ∧ fO c n - 1 / 1024 ≤ ((eV c n).2.1 : Rat) := by
  obtain ⟨si, sw⟩ := sV_ok c h1 h2 13 (by decide)
  have sh := sV_Hd c h1 h2 13 (by decide)
  have th := tV_Hd c h1 h2 13 (by decide)
  obtain ⟨r0, r1, rh⟩ := rV_ok c h1 h2
  have rt := rh _ th
  have b13 := (Bs_ok c 13 (by decide)).2.2.1
  rw [(end_ok c).1] at b13
  have w13 := (end_ok c).2
  have f := fO_in c h1 h2
  have row : a0 c n * gR (qR n) (dsT c 22) = fO c n := row_O c
  rw [dsT_split, ser] at row
  have q := qR_in h1 h2
  have g := gR_in q.1 (tlT c) fun d hd => by
    have := tlT_in c d hd
    have : ((16 : Int) : Rat) ≤ (d : Rat) := Rat.intCast_le_intCast.2 (by omega)
    have e : ((16 : Int) : Rat) = 16 := rfl
    exact ⟨by omega, by grind⟩
  have m := mulR_abs (a := lastT (qR n) (a0 c n) (dsT c 13)) (A := (rV c n : Rat)) (b := gR (qR n) (tlT c)) (B := 1) rt.1 rt.2 (by grind) g.2
  unfold Hd at sh
  have k := wd_ok (v := fO c n) (d0 := 1 / 1024) si r0 (by omega) (by grind) (by grind) (by grind) (Rat.le_refl) f.1 f.2
  refine ⟨k.1, ?_, k.2.2.1, k.2.2.2⟩
  have := k.2.1
  show wdt (wdV _ _) ≤ _
  omega
def allV : IV := (-4294967296, 4294967296, false)
theorem allV_iff {a : IV} : holdsV allV a = true ↔ okV a = true ∧ -4294967296 ≤ a.1 ∧ a.2.1 ≤ 4294967296 := by
  rw [holdsV_iff]
  constructor
  · rintro ⟨_, h⟩; exact h
  · exact fun h => ⟨by decide, h⟩
/-- The middle of an interval: half of the sum, the nearest, away from 0. -/
def midV (a : IV) : Int := if 0 ≤ a.1 + a.2.1 then (a.1 + a.2.1 + 1) / 2 else -((1 - (a.1 + a.2.1)) / 2)
def rchV (a : IV) : Int := mxI (a.2.1 - midV a) (midV a - a.1)
def waV (c : Bool) (a : IV) : IV := if holdsV allV a = true then wdV (eV c (midV a)) (rchV a) else bdV
theorem midV_in {a : IV} (h : okV a = true) : a.1 ≤ midV a ∧ midV a ≤ a.2.1 ∧ 2 * rchV a ≤ a.2.1 - a.1 + 1 ∧ 0 ≤ rchV a ∧ a.2.1 - midV a ≤ rchV a ∧ midV a - a.1 ≤ rchV a := by
  have o := okV_iff.1 h
  unfold rchV mxI midV
  split <;> split <;> omega
theorem waV_ok (c : Bool) {a : IV} (h : holdsV allV a = true) : Inn (waV c a) 1073741824 ∧ wdt (waV c a) ≤ wdt a + 43 ∧ ∀ n, a.1 ≤ n → n ≤ a.2.1 → Hn (waV c a) (fO c n) := by
  have h' := allV_iff.1 h
  have o := okV_iff.1 h'.1
  obtain ⟨m1, m2, m3, m4, m5, m6⟩ := midV_in h'.1
  obtain ⟨ei, ew, e1, e2⟩ := eV_ok c (n := midV a) (by omega) (by omega)
  unfold waV
  rw [if_pos h]
  have key : ∀ n, a.1 ≤ n → n ≤ a.2.1 → Inn (wdV (eV c (midV a)) (rchV a)) 1073741824 ∧ wdt (wdV (eV c (midV a)) (rchV a)) ≤ wdt (eV c (midV a)) + 2 * rchV a ∧ ((wdV (eV c (midV a)) (rchV a)).1 : Rat) ≤ fO c n + 1 / 64 ∧ fO c n - 1 / 64 ≤ ((wdV (eV c (midV a)) (rchV a)).2.1 : Rat) := by
    intro n n1 n2
    have f := fO_in c (n := n) (by omega) (by omega)
    have d := far_f c (n := n) (m := midV a) (by omega) (by omega) (by omega) (by omega) (d := rchV a) (by omega) (by omega)
    exact wd_ok (v := fO c n) (d0 := 1 / 64) ei m4 (by omega) (by grind) (by grind) (by grind) (by grind) f.1 f.2
  have k := key (midV a) m1 m2
  refine ⟨k.1, ?_, fun n n1 n2 => (key n n1 n2).2.2⟩
  have := k.2.1
  unfold wdt at *
  omega
/-! Turned about. -/
theorem negV_val {x : IV} (hx : okV x = true) : negV x = (-x.2.1, -x.1, false) := negV_ok hx
theorem okV_neg {x : IV} (hx : okV x = true) : okV (negV x) = true := by
  have o := okV_iff.1 hx
  rw [negV_ok hx]
  exact okV_iff.2 ⟨rfl, by show _ ≤ -x.2.1; omega, by show -x.2.1 ≤ -x.1; omega, by show -x.1 ≤ _; omega⟩
theorem fl_ng {x d : Int} (hd : 0 < d) : flI (-x) d = -ceI x d := by
  have a := flI_b (x := -x) hd
  have b := ceI_b (x := x) hd
  have h1 : d * flI (-x) d < d * (-ceI x d + 1) := by grind
  have h2 : d * (-ceI x d) < d * (flI (-x) d + 1) := by grind
  have := Int.lt_of_mul_lt_mul_left h1 (by omega)
  have := Int.lt_of_mul_lt_mul_left h2 (by omega)
  omega
theorem ce_ng {x d : Int} (hd : 0 < d) : ceI (-x) d = -flI x d := by
  have := fl_ng (x := -x) hd
  rw [Int.neg_neg] at this
  omega
theorem endI_ofx {z : Int} (h : isI z) : endI z = z := if_pos h
theorem endI_neg {f : Int} (h : isI f) (h' : isI (-f)) : endI (-f) = -endI f := by rw [endI_ofx h, endI_ofx h']
theorem mnI_neg (a b : Int) : mnI (-a) (-b) = -mxI a b := by unfold mnI mxI; split <;> split <;> omega
theorem mxI_neg (a b : Int) : mxI (-a) (-b) = -mnI a b := by unfold mnI mxI; split <;> split <;> omega
theorem mnI_cm (x y : Int) : mnI x y = mnI y x := by unfold mnI; split <;> split <;> omega
theorem mxI_cm (x y : Int) : mxI x y = mxI y x := by unfold mxI; split <;> split <;> omega
theorem outV_neg {mn mx d : Int} (hd : 0 < d) (h : okV (outV mn mx d) = true) : outV (-mx) (-mn) d = negV (outV mn mx d) := by
  obtain ⟨h1, h2, e⟩ := outV_bad (ok_not h)
  rw [negV_ok h]
  have o := okV_iff.1 h
  rw [e] at o ⊢
  unfold outV
  rw [fl_ng hd, ce_ng hd]
  have o' : flI mn d ≤ ceI mx d := o.2.2.1
  have i1 : isI (-ceI mx d) := by unfold isI; omega
  have i2 : isI (-flI mn d) := by unfold isI; omega
  rw [endI_ofx i1, endI_ofx i2]
  exact mkV_ok (by omega) (by omega) (by omega)
theorem mulV_negL {x y : IV} (hx : okV x = true) (hy : okV y = true) (h : okV (mulV x y) = true) : mulV (negV x) y = negV (mulV x y) := by
  rw [mulV_ok (okV_neg hx) hy, negV_ok hx]
  rw [mulV_ok hx hy] at h ⊢
  rw [← outV_neg (by decide) h]
  congr 1
  · unfold mn4I mx4I
    simp only [Int.neg_mul, mnI_neg]
    congr 1
    unfold mxI
    repeat' split
    all_goals omega
  · unfold mn4I mx4I
    simp only [Int.neg_mul, mxI_neg]
    congr 1
    unfold mnI
    repeat' split
    all_goals omega
theorem partM_neg {x : IV} {d : Int} (hx : okV x = true) (hd : 0 < d) (h : okV (partV x (-1) d) = true) : partV (negV x) (-1) d = negV (partV x (-1) d) := by
  have f : ∀ {z : IV}, okV z = true → partV z (-1) d = outV (mnI (z.1 * -1) (z.2.1 * -1)) (mxI (z.1 * -1) (z.2.1 * -1)) d := by
    intro z hz
    unfold partV partP; rw [if_neg (by omega), if_neg (by omega), if_pos hz]
  rw [f (okV_neg hx)]
  rw [f hx] at h ⊢
  rw [← outV_neg hd h, negV_ok hx]
  congr 1
  · show mnI (-x.2.1 * -1) (-x.1 * -1) = _
    rw [Int.neg_mul, Int.neg_mul, mnI_neg, mxI_cm]
  · show mxI (-x.2.1 * -1) (-x.1 * -1) = _
    rw [Int.neg_mul, Int.neg_mul, mxI_neg, mnI_cm]
theorem addV_neg2 {x y : IV} (hx : okV x = true) (hy : okV y = true) (h : okV (addV x y) = true) : addV (negV x) (negV y) = negV (addV x y) := by
  rw [addV_ok (okV_neg hx) (okV_neg hy), negV_ok hx, negV_ok hy, negV_ok h]
  rw [addV_ok hx hy] at h ⊢
  have m := mkV_bad (ok_not h)
  rw [m.2.2.2]
  show mkV (-x.2.1 + -y.2.1) (-x.1 + -y.1) = (-(x.2.1 + y.2.1), -(x.1 + y.1), false)
  rw [← Int.neg_add, ← Int.neg_add]
  exact mkV_ok (by omega) (by omega) (by omega)
theorem qV_neg {n : Int} (h1 : -4294967296 ≤ n) (h2 : n ≤ 4294967296) : qV (-n) = qV n := by
  unfold qV
  have o := (okV_iff (x := (n, n, false))).2 ⟨rfl, by show _ ≤ n; omega, Int.le_refl n, by show n ≤ _; omega⟩
  have o' := (okV_iff (x := (-n, -n, false))).2 ⟨rfl, by show _ ≤ -n; omega, Int.le_refl (-n), by show -n ≤ _; omega⟩
  rw [mkV_ok (l := n) (by omega) (by omega) (by omega), mkV_ok (l := -n) (by omega) (by omega) (by omega), mulV_ok o o, mulV_ok o' o']
  simp only [Int.neg_mul_neg]
theorem tV_neg {n : Int} (h1 : -4294967296 ≤ n) (h2 : n ≤ 4294967296) : ∀ k, k ≤ 13 → tV false (-n) k = negV (tV false n k) ∧ tV true (-n) k = tV true n k
  | 0, _ => by
    refine ⟨?_, rfl⟩
    show mkV (-n) (-n) = negV (mkV n n)
    rw [mkV_ok (l := n) (by omega) (by omega) (by omega), mkV_ok (l := -n) (by omega) (by omega) (by omega)]
    exact (negV_ok ((okV_iff (x := (n, n, false))).2 ⟨rfl, by show _ ≤ n; omega, Int.le_refl n, by show n ≤ _; omega⟩)).symm
  | k + 1, hk => by
    have ih := tV_neg h1 h2 k (by omega)
    obtain ⟨i, _⟩ := tV_ok false h1 h2 k (by omega)
    obtain ⟨b0, b1, _, w0⟩ := Bs_ok false k (by omega)
    obtain ⟨qi, _⟩ := qV_ok h1 h2
    obtain ⟨mi, _⟩ := mul_Inn i qi (D := 16 * Bs false k) b1 (by omega)
    obtain ⟨pi, _⟩ := tV_ok false h1 h2 (k + 1) hk
    refine ⟨?_, ?_⟩
    · show partV (mulV (tV false (-n) k) (qV (-n))) (-1) (dV false k) = negV (partV (mulV (tV false n k) (qV n)) (-1) (dV false k))
      rw [qV_neg h1 h2, ih.1, mulV_negL i.1 qi.1 mi.1]
      exact partM_neg mi.1 (dV_pos _ _) pi.1
    · show partV (mulV (tV true (-n) k) (qV (-n))) (-1) (dV true k) = partV (mulV (tV true n k) (qV n)) (-1) (dV true k)
      rw [qV_neg h1 h2, ih.2]
theorem sV_neg {n : Int} (h1 : -4294967296 ≤ n) (h2 : n ≤ 4294967296) : ∀ k, k ≤ 14 → sV false (-n) k = negV (sV false n k) ∧ sV true (-n) k = sV true n k
  | 0, _ => ⟨show ((0, 0, false) : IV) = negV (0, 0, false) by decide, rfl⟩
  | k + 1, hk => by
    have ih := sV_neg h1 h2 k (by omega)
    have t := tV_neg h1 h2 k (by omega)
    obtain ⟨i, _⟩ := sV_ok false h1 h2 k (by omega)
    obtain ⟨ti, _⟩ := tV_ok false h1 h2 k (by omega)
    obtain ⟨ai, _⟩ := sV_ok false h1 h2 (k + 1) hk
    refine ⟨?_, ?_⟩
    · show addV (sV false (-n) k) (tV false (-n) k) = negV (addV (sV false n k) (tV false n k))
      rw [ih.1, t.1]
      exact addV_neg2 i.1 ti.1 ai.1
    · show addV (sV true (-n) k) (tV true (-n) k) = addV (sV true n k) (tV true n k)
      rw [ih.2, t.2]
theorem meetV_neg2 {x y : IV} (hx : okV x = true) (hy : okV y = true) (h : okV (meetV x y) = true) : meetV (negV x) (negV y) = negV (meetV x y) := by
  have f : ∀ {p q : IV}, okV p = true → okV q = true → meetV p q = mkV (mxI p.1 q.1) (mnI p.2.1 q.2.1) := by
    intro p q hp hq
    unfold meetV; rw [hp, hq]; rfl
  rw [f (okV_neg hx) (okV_neg hy), negV_ok hx, negV_ok hy, negV_ok h]
  rw [f hx hy] at h ⊢
  have m := mkV_bad (ok_not h)
  rw [m.2.2.2]
  show mkV (mxI (-x.2.1) (-y.2.1)) (mnI (-x.1) (-y.1)) = _
  rw [mnI_neg, mxI_neg]
  exact mkV_ok (by omega) (by omega) (by omega)
theorem wdV_neg {a : IV} {r B : Int} (ha : Inn a B) (hr : 0 ≤ r) (hB : B + r ≤ 1152921504606846976) (h : okV (wdV a r) = true) : wdV (negV a) r = negV (wdV a r) := by
  have o := okV_iff.1 ha.1
  have er : mkV (mnI (-r) r) (mxI (-r) r) = (-r, r, false) := by
    rw [show mnI (-r) r = -r by unfold mnI; split <;> omega, show mxI (-r) r = r by unfold mxI; split <;> omega]
    exact mkV_ok (by have := ha.2; omega) (by omega) (by have := ha.2; omega)
  have ir : Inn (-r, r, false) r := ⟨okV_iff.2 ⟨rfl, by show _ ≤ -r; have := ha.2; omega, by show -r ≤ r; omega, by show r ≤ _; have := ha.2; omega⟩, Int.le_refl _, Int.le_refl _⟩
  have i1 := (add_Inn ha ir hB).1
  have eo : mkV (-1073741824) 1073741824 = (-1073741824, 1073741824, false) := by decide
  have nr : negV (-r, r, false) = (-r, r, false) := by
    rw [negV_ok ir.1]
    show (-r, -(-r), false) = _
    rw [Int.neg_neg]
  have no : negV (-1073741824, 1073741824, false) = (-1073741824, 1073741824, false) := by decide
  unfold wdV at *
  rw [er, eo] at h
  rw [er, eo]
  rw [← meetV_neg2 i1.1 (by decide) h, ← addV_neg2 ha.1 ir.1 i1.1, nr, no]
theorem eV_neg {n : Int} (h1 : -4294967296 ≤ n) (h2 : n ≤ 4294967296) : eV false (-n) = negV (eV false n) ∧ eV true (-n) = eV true n := by
  have s := sV_neg h1 h2 13 (by decide)
  have t := tV_neg h1 h2 13 (by decide)
  have er1 : rV false (-n) = rV false n := by
    have ti := (tV_ok false h1 h2 13 (by decide)).1
    unfold rV
    rw [t.1, negV_ok ti.1]
    show mxI (-(tV false n 13).1) (-(-(tV false n 13).2.1)) = _
    rw [Int.neg_neg, mxI_cm]
  have er2 : rV true (-n) = rV true n := by unfold rV; rw [t.2]
  obtain ⟨si, _⟩ := sV_ok false h1 h2 13 (by decide)
  obtain ⟨r0, r1, _⟩ := rV_ok false h1 h2
  have b13 := (Bs_ok false 13 (by decide)).2.2.1
  rw [(end_ok false).1] at b13
  unfold eV
  rw [er1, er2, s.1, s.2]
  exact ⟨wdV_neg si r0 (by omega) (eV_ok false h1 h2).1.1, rfl⟩
theorem waV_neg {a : IV} (h : holdsV allV a = true) : waV false (negV a) = negV (waV false a) ∧ waV true (negV a) = waV true a := by
  have h' := allV_iff.1 h
  have o := okV_iff.1 h'.1
  have hn : holdsV allV (negV a) = true := by
    rw [allV_iff]
    refine ⟨okV_neg h'.1, ?_⟩
    rw [negV_ok h'.1]
    exact ⟨by show _ ≤ -a.2.1; omega, by show -a.1 ≤ _; omega⟩
  have em : midV (negV a) = -midV a := by
    rw [negV_ok h'.1]
    unfold midV
    simp only []
    split <;> split <;> omega
  have er : rchV (negV a) = rchV a := by
    unfold rchV
    rw [em, negV_ok h'.1]
    simp only []
    unfold mxI
    split <;> split <;> omega
  obtain ⟨m1, m2, m3, m4, m5, m6⟩ := midV_in h'.1
  obtain ⟨ei, _⟩ := eV_ok false (n := midV a) (by omega) (by omega)
  have w := (waV_ok false h).1.1
  have en := eV_neg (n := midV a) (by omega) (by omega)
  have e1 : ∀ c, waV c a = wdV (eV c (midV a)) (rchV a) := fun c => if_pos h
  have e2 : ∀ c, waV c (negV a) = wdV (eV c (-midV a)) (rchV a) := by intro c; unfold waV; rw [if_pos hn, em, er]
  rw [e1] at w
  rw [e1, e1, e2, e2, en.1, en.2]
  exact ⟨wdV_neg ei m4 (by omega) w, rfl⟩
/-! The laws' mathematics. -/
/-- A number that is nearly held is near one that is held. -/
theorem near_el {x : IV} {v : Rat} (hx : okV x = true) (h : Hn x v) : ∃ w, Hd x w ∧ w - v ≤ 1 / 64 ∧ v - w ≤ 1 / 64 := by
  have o := okV_iff.1 hx
  have a : (x.1 : Rat) ≤ (x.2.1 : Rat) := Rat.intCast_le_intCast.2 o.2.2.1
  unfold Hn at h
  by_cases h1 : v < (x.1 : Rat)
  · exact ⟨x.1, ⟨Rat.le_refl, a⟩, by grind, by grind⟩
  · by_cases h2 : (x.2.1 : Rat) < v
    · exact ⟨x.2.1, ⟨a, Rat.le_refl⟩, by grind, by grind⟩
    · exact ⟨v, ⟨by grind, by grind⟩, by grind, by grind⟩
/-- Products of what is nearly held. -/
theorem mul_near {x y : IV} {v w : Rat} (hx : Inn x 1073741824) (hy : Inn y 1073741824) (hv : Hn x v) (hw : Hn y w) (v1 : -1073741824 - 1 / 1024 ≤ v) (v2 : v ≤ 1073741824 + 1 / 1024) :
    Inn (mulV x y) 1073741824 ∧ ∃ u, Hd (mulV x y) u ∧ u - v * w / 1073741824 ≤ 1 / 16 ∧ v * w / 1073741824 - u ≤ 1 / 16 := by
  have m := (mul_Inn hx hy (D := 1073741824) (by decide) (by decide)).1
  refine ⟨m, ?_⟩
  obtain ⟨v', a1, a2, a3⟩ := near_el hx.1 hv
  obtain ⟨w', b1, b2, b3⟩ := near_el hy.1 hw
  refine ⟨_, mul_Hd hx.1 hy.1 (ok_not m.1) a1 b1, ?_⟩
  have c1 : (y.2.1 : Rat) ≤ ((1073741824 : Int) : Rat) := Rat.intCast_le_intCast.2 hy.2.2
  have c2 : ((-1073741824 : Int) : Rat) ≤ (y.1 : Rat) := Rat.intCast_le_intCast.2 hy.2.1
  have e1 : ((1073741824 : Int) : Rat) = 1073741824 := rfl
  have e2 : ((-1073741824 : Int) : Rat) = -1073741824 := rfl
  unfold Hd at b1
  have p := mulR_abs (a := v' - v) (A := 1 / 64) (b := w') (B := 1073741824) (by grind) (by grind) (by grind) (by grind)
  have q := mulR_abs (a := v) (A := 1073741824 + 1 / 1024) (b := w' - w) (B := 1 / 64) (by grind) (by grind) (by grind) (by grind)
  grind
theorem squares_hold {s c : IV} {v w : Rat} (hs : Inn s 1073741824) (hc : Inn c 1073741824) (hv : Hn s v) (hw : Hn c w) (v1 : -1073741824 - 1 / 1024 ≤ v) (v2 : v ≤ 1073741824 + 1 / 1024) (w1 : -1073741824 - 1 / 1024 ≤ w) (w2 : w ≤ 1073741824 + 1 / 1024)
    (h1 : -(1 / 1024) ≤ (w * w + v * v) / 1073741824 - 1073741824) (h2 : (w * w + v * v) / 1073741824 - 1073741824 ≤ 1 / 1024) : holdsV (addV (mulV s s) (mulV c c)) (1073741824, 1073741824, false) = true := by
  obtain ⟨i, u, a1, a2, a3⟩ := mul_near hs hs hv hv v1 v2
  obtain ⟨j, t, b1, b2, b3⟩ := mul_near hc hc hw hw w1 w2
  have k := (add_Inn i j (by decide)).1
  have h := add_Hd i.1 j.1 (ok_not k.1) a1 b1
  unfold Hd at h
  rw [holdsV_iff]
  have e1 : ((1073741824 : Int) : Rat) = 1073741824 := rfl
  exact ⟨k.1, by decide, lt_one (by grind), lt_one (by grind)⟩
theorem meets {x y : IV} {v w : Rat} (hx : okV x = true) (hy : okV y = true) (h1 : (x.1 : Rat) ≤ v) (h2 : v < (y.2.1 : Rat) + 1) (h3 : (y.1 : Rat) < w + 1) (h4 : w ≤ (x.2.1 : Rat)) : (meetV x y).2.2 = false := by
  have a := okV_iff.1 hx
  have b := okV_iff.1 hy
  have c1 : x.1 ≤ y.2.1 := lt_one (by grind)
  have c2 : y.1 ≤ x.2.1 := lt_one (by grind)
  unfold meetV
  rw [hx, hy]
  have m : mxI x.1 y.1 ≤ mnI x.2.1 y.2.1 := mxI_le (le_mnI (by omega) (by omega)) (le_mnI (by omega) (by omega))
  have g1 := le_mxI (x := x.1) (y := y.1)
  have g2 := mnI_le (x := x.2.1) (y := y.2.1)
  show (mkV _ _).2.2 = false
  rw [mkV_ok (by omega) m (by omega)]
theorem sums_meet {s c x y p q : IV} {v w v2 w2 vp wp : Rat} (hs : Inn s 1073741824) (hc : Inn c 1073741824) (hx : Inn x 1073741824) (hy : Inn y 1073741824) (hp : okV p = true) (hq : okV q = true)
    (sv : Hn s v) (cw : Hn c w) (xv : Hn x v2) (yw : Hn y w2) (pv : Hn p vp) (qw : Hn q wp)
    (a1 : -1073741824 - 1 / 1024 ≤ v) (a2 : v ≤ 1073741824 + 1 / 1024) (b1 : -1073741824 - 1 / 1024 ≤ w) (b2 : w ≤ 1073741824 + 1 / 1024)
    (h1 : -(1 / 1024) ≤ vp - (v * w2 + w * v2) / 1073741824 ∧ vp - (v * w2 + w * v2) / 1073741824 ≤ 1 / 1024) (h2 : -(1 / 1024) ≤ wp - (w * w2 - v * v2) / 1073741824 ∧ wp - (w * w2 - v * v2) / 1073741824 ≤ 1 / 1024) :
    (meetV p (addV (mulV s y) (mulV c x))).2.2 = false ∧ (meetV q (subV (mulV c y) (mulV s x))).2.2 = false := by
  obtain ⟨i1, u1, e1, f1, g1⟩ := mul_near hs hy sv yw a1 a2
  obtain ⟨i2, u2, e2, f2, g2⟩ := mul_near hc hx cw xv b1 b2
  obtain ⟨i3, u3, e3, f3, g3⟩ := mul_near hc hy cw yw b1 b2
  obtain ⟨i4, u4, e4, f4, g4⟩ := mul_near hs hx sv xv a1 a2
  have k := (add_Inn i1 i2 (by decide)).1
  have h := add_Hd i1.1 i2.1 (ok_not k.1) e1 e2
  have sk : subV (mulV c y) (mulV s x) = ((mulV c y).1 - (mulV s x).2.1, (mulV c y).2.1 - (mulV s x).1, false) := by
    rw [subV_ok i3.1 i4.1]
    have o3 := okV_iff.1 i3.1
    have o4 := okV_iff.1 i4.1
    have := i3.2
    have := i4.2
    exact mkV_ok (by omega) (by omega) (by omega)
  have so : okV (subV (mulV c y) (mulV s x)) = true := by
    rw [sk]
    have o3 := okV_iff.1 i3.1
    have o4 := okV_iff.1 i4.1
    have := i3.2
    have := i4.2
    exact okV_mk (by omega) (by omega) (by omega)
  unfold Hd at h e3 e4
  unfold Hn at pv qw
  refine ⟨meets (v := vp + 1 / 64) (w := vp - 1 / 64) hp k.1 pv.1 (by grind) (by grind) pv.2, ?_⟩
  refine meets (v := wp + 1 / 64) (w := wp - 1 / 64) hq so qw.1 ?_ ?_ qw.2
  · rw [sk]
    show _ < (((mulV c y).2.1 - (mulV s x).1 : Int) : Rat) + 1
    rw [Rat.intCast_sub]
    grind
  · rw [sk]
    show (((mulV c y).1 - (mulV s x).2.1 : Int) : Rat) < _
    rw [Rat.intCast_sub]
    grind
theorem same_meet {x y : IV} {v : Rat} (hx : okV x = true) (hy : okV y = true) (h1 : Hn x v) (h2 : Hn y v) : (meetV x y).2.2 = false := by
  unfold Hn at h1 h2
  exact meets (v := v + 1 / 64) (w := v - 1 / 64) hx hy h1.1 (by grind) (by grind) h1.2
theorem far_meet {x y : IV} {v w : Rat} {d : Int} (hx : Inn x 1073741824) (hy : Inn y 1073741824) (h1 : Hn x v) (h2 : Hn y w) (d0 : 0 ≤ d) (d1 : d ≤ 8589934592) (f1 : -(d : Rat) - 1 / 1024 ≤ v - w) (f2 : v - w ≤ (d : Rat) + 1 / 1024) :
    (meetV (subV x y) (mkV (mnI (-d) d) (mxI (-d) d))).2.2 = false := by
  have er : mkV (mnI (-d) d) (mxI (-d) d) = (-d, d, false) := by
    rw [show mnI (-d) d = -d by unfold mnI; split <;> omega, show mxI (-d) d = d by unfold mxI; split <;> omega]
    exact mkV_ok (by omega) (by omega) (by omega)
  rw [er]
  have o3 := okV_iff.1 hx.1
  have o4 := okV_iff.1 hy.1
  have := hx.2
  have := hy.2
  have sk : subV x y = (x.1 - y.2.1, x.2.1 - y.1, false) := by
    rw [subV_ok hx.1 hy.1]
    exact mkV_ok (by omega) (by omega) (by omega)
  rw [sk]
  unfold Hn at h1 h2
  refine meets (v := v - w + 1 / 32) (w := v - w - 1 / 32) (okV_mk (by omega) (by omega) (by omega)) (okV_mk (by omega) (by omega) (by omega)) ?_ ?_ ?_ ?_
  · show ((x.1 - y.2.1 : Int) : Rat) ≤ _
    rw [Rat.intCast_sub]; grind
  · show _ < (d : Rat) + 1
    grind
  · show ((-d : Int) : Rat) < _
    rw [Rat.intCast_neg]; grind
  · show _ ≤ ((x.2.1 - y.1 : Int) : Rat)
    rw [Rat.intCast_sub]; grind

end Go.Proofs.YtbmekaaekngpbaaGreat
