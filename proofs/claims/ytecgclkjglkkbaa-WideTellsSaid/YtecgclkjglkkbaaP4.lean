/- Plain mathematics: numbers by their digits; what the document's own functions on digits come to. -/
import Derived.Test.YtecgclkjglkkbaaR2
import Derived.Test.YtecgclkjglkkbaaP3
namespace Go.Proofs.Ytecgclkjglkkbaa
open Go Go.RowKit
set_option linter.unusedSimpArgs false
set_option linter.unusedVariables false

/-- The number of the lowest k digits by B. -/
def nm (B : Nat) (d : Nat → Nat) : Nat → Nat
  | 0 => 0
  | k + 1 => nm B d k + d k * B ^ k

theorem nm_congr {B : Nat} {d e : Nat → Nat} : ∀ k, (∀ i, i < k → d i = e i) → nm B d k = nm B e k := by
  intro k
  induction k with
  | zero => exact fun _ => rfl
  | succ k ih => intro h; rw [nm, nm, ih (fun i hi => h i (by omega)), h k (by omega)]
theorem nm_upd_ge {B : Nat} (d : Nat → Nat) {k i : Nat} (v : Nat) (h : k ≤ i) : nm B (upd d i v) k = nm B d k :=
  nm_congr k (fun j hj => by unfold upd; rw [if_neg (by omega)])
theorem nm_lt {B : Nat} {d : Nat → Nat} (k : Nat) (h : ∀ i, i < k → d i < B) : nm B d k < B ^ k := by
  induction k with
  | zero => simp [nm]
  | succ k ih =>
    have h1 := ih (fun i hi => h i (by omega))
    have h2 := h k (by omega)
    rw [nm, Nat.pow_succ]
    have h3 : (d k + 1) * B ^ k ≤ B * B ^ k := Nat.mul_le_mul_right _ h2
    rw [Nat.add_mul, Nat.one_mul] at h3
    rw [Nat.mul_comm (B ^ k) B]
    omega
theorem nm_zero {B : Nat} (k : Nat) : nm B (fun _ => 0) k = 0 := by
  induction k with
  | zero => rfl
  | succ k ih => rw [nm, ih]; simp

theorem val_nm (a : Nat → Nat) : val a = nm 18446744073709551616 a 4 := by
  simp only [val, nm]
  omega
/-- The number of eight digits. -/
def dval (d : Nat → Nat) : Nat := nm 4294967296 d 8

theorem digR_dval {a : Nat → Nat} (ha : Wds a) : dval (digR a) = val a := by
  have h0 := ha 0; have h1 := ha 1; have h2 := ha 2; have h3 := ha 3
  simp only [dval, nm, val, digR]
  simp
  omega
theorem widR_val (d : Nat → Nat) : val (widR d) = dval d := by
  simp only [dval, nm, val, widR]
  simp
  omega
theorem notR_dval {d : Nat → Nat} (hd : Digs d) : dval (notR d) + dval d = 115792089237316195423570985008687907853269984665640564039457584007913129639935 := by
  have h0 := hd 0; have h1 := hd 1; have h2 := hd 2; have h3 := hd 3; have h4 := hd 4; have h5 := hd 5; have h6 := hd 6; have h7 := hd 7
  simp only [dval, nm, notR, notSt]
  simp
  omega
theorem plusSt_at (d f : Nat → Nat) (c : Nat) : ∀ k i, k ≤ i → (plusSt d f c k).1 i = d i := by
  intro k
  induction k with
  | zero => exact fun _ _ => rfl
  | succ k ih =>
    intro i hi
    show upd _ k _ i = _
    unfold upd
    rw [if_neg (by omega)]
    exact ih i (by omega)
theorem plusSt_val (d f : Nat → Nat) (c : Nat) : ∀ k, nm 4294967296 (plusSt d f c k).1 k + (plusSt d f c k).2 * 4294967296 ^ k = nm 4294967296 d k + nm 4294967296 f k + c := by
  intro k
  induction k with
  | zero => simp [nm, plusSt]
  | succ k ih =>
    have h := plusSt_at d f c k k (Nat.le_refl _)
    show nm _ (upd (plusSt d f c k).1 k (((plusSt d f c k).1 k + f k + (plusSt d f c k).2) % 4294967296)) (k + 1) + ((plusSt d f c k).1 k + f k + (plusSt d f c k).2) / 4294967296 * _ = _
    rw [nm, nm_upd_ge _ _ (Nat.le_refl _), nm, nm]
    rw [show upd (plusSt d f c k).1 k (((plusSt d f c k).1 k + f k + (plusSt d f c k).2) % 4294967296) k = ((plusSt d f c k).1 k + f k + (plusSt d f c k).2) % 4294967296 by simp [upd], h]
    generalize (plusSt d f c k).2 = c2 at *
    generalize nm 4294967296 (plusSt d f c k).1 k = X at *
    have e : (d k + f k + c2) % 4294967296 * 4294967296 ^ k + (d k + f k + c2) / 4294967296 * 4294967296 ^ (k + 1) = (d k + f k + c2) * 4294967296 ^ k := by
      rw [Nat.pow_succ, Nat.mul_comm (4294967296 ^ k) 4294967296, ← Nat.mul_assoc, ← Nat.add_mul]
      congr 1
      omega
    have e2 : (d k + f k + c2) * 4294967296 ^ k = d k * 4294967296 ^ k + f k * 4294967296 ^ k + c2 * 4294967296 ^ k := by rw [Nat.add_mul, Nat.add_mul]
    omega
theorem plusR_dval {d f : Nat → Nat} {c : Nat} (hd : Digs d) (hf : Digs f) (hc : c ≤ 1) : dval (plusR d f c) = (dval d + dval f + c) % 115792089237316195423570985008687907853269984665640564039457584007913129639936 := by
  have h := plusSt_val d f c 8
  have h2 : nm 4294967296 (plusSt d f c 8).1 8 < 4294967296 ^ 8 := nm_lt 8 (fun i _ => (plusSt_fine hd hf hc 8).1 i)
  have e : (4294967296 ^ 8 : Nat) = 115792089237316195423570985008687907853269984665640564039457584007913129639936 := rfl
  rw [e] at h h2
  show nm _ (plusSt d f c 8).1 8 = _
  unfold dval
  rw [← h]
  omega

theorem zr_digs : Digs Zr := fun _ => by simp [Zr]
theorem zr_dval : dval Zr = 0 := rfl
theorem notR_digs {d : Nat → Nat} (hd : Digs d) : Digs (notR d) := by
  intro i
  have := hd i
  show notSt d 8 i < _
  unfold notSt
  split <;> omega

theorem words_eq {a b : Nat → Nat} (ha : Wds a) (hb : Wds b) (h : val a = val b) : ∀ i, i < 4 → a i = b i := by
  obtain ⟨h0, h1, h2, h3⟩ := val_inj ha hb h
  intro i hi
  have : i = 0 ∨ i = 1 ∨ i = 2 ∨ i = 3 := by omega
  rcases this with rfl | rfl | rfl | rfl <;> assumption
/-- Four words are what their number makes them. -/
theorem agg_eq {a b : Nat → Nat} (ha : Wds a) (hb : Wds b) (h : val a = val b) : (Value.agg #[.int .u64 (a 0), .int .u64 (a 1), .int .u64 (a 2), .int .u64 (a 3)]) = .agg #[.int .u64 (b 0), .int .u64 (b 1), .int .u64 (b 2), .int .u64 (b 3)] := by
  obtain ⟨h0, h1, h2, h3⟩ := val_inj ha hb h
  rw [h0, h1, h2, h3]
theorem lowB_eq {a b : Nat → Nat} (ha : Wds a) (hb : Wds b) (h : val a = val b) : lowB a = lowB b := by
  rw [lowB_val ha, lowB_val hb, h]

/-- What the document's own functions say, before it is known to be the same. -/
def refNeg (a : Nat → Nat) : Nat → Nat := widR (plusR (notR (digR a)) Zr 1)
def refAdd (a b : Nat → Nat) : Nat → Nat := widR (plusR (digR a) (digR b) 0)
def refSub (a b : Nat → Nat) : Nat → Nat := widR (plusR (digR a) (notR (digR b)) 1)
theorem refNeg_words {a : Nat → Nat} (ha : Wds a) : Wds (refNeg a) := widR_words (plusR_digs (notR_digs (digR_digs ha)) zr_digs (by omega))
theorem refAdd_words {a b : Nat → Nat} (ha : Wds a) (hb : Wds b) : Wds (refAdd a b) := widR_words (plusR_digs (digR_digs ha) (digR_digs hb) (by omega))
theorem refSub_words {a b : Nat → Nat} (ha : Wds a) (hb : Wds b) : Wds (refSub a b) := widR_words (plusR_digs (digR_digs ha) (notR_digs (digR_digs hb)) (by omega))
theorem refNeg_val {a : Nat → Nat} (ha : Wds a) : val (refNeg a) = val (negR a) := by
  have h1 := notR_dval (digR_digs ha)
  have h2 := val_lt ha
  have h3 := digR_dval ha
  unfold refNeg
  rw [widR_val, plusR_dval (notR_digs (digR_digs ha)) zr_digs (by omega), negR_val ha, zr_dval]
  generalize dval (notR (digR a)) = X at *
  generalize dval (digR a) = Y at *
  generalize val a = Z at *
  omega
theorem refAdd_val {a b : Nat → Nat} (ha : Wds a) (hb : Wds b) : val (refAdd a b) = val (addR a b) := by
  unfold refAdd
  rw [widR_val, plusR_dval (digR_digs ha) (digR_digs hb) (by omega), addR_val ha hb, digR_dval ha, digR_dval hb, Nat.add_zero]
theorem refSub_val {a b : Nat → Nat} (ha : Wds a) (hb : Wds b) : val (refSub a b) = val (subR a b) := by
  have h1 := notR_dval (digR_digs hb)
  have h2 := val_lt hb
  have h3 := digR_dval hb
  unfold refSub
  rw [widR_val, plusR_dval (digR_digs ha) (notR_digs (digR_digs hb)) (by omega), subR_val ha hb, digR_dval ha]
  generalize dval (notR (digR b)) = X at *
  generalize dval (digR b) = Y at *
  generalize val b = Z at *
  omega

end Go.Proofs.Ytecgclkjglkkbaa
