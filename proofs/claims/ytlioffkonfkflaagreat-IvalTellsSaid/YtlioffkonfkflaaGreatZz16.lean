/- Texts of the seat, joined. -/
import Derived.Test.YtlioffkonfkflaaGreatZz15
import Derived.Test.YtlioffkonfkflaaGreatZz10
/- The root of a number; package root. -/
/- A bit set, a half, a length; the root of a number. -/
namespace Go.Proofs.YtlioffkonfkflaaGreat
open Go Go.RowKit
set_option linter.unusedSimpArgs false
set_option linter.unusedVariables false

theorem lc_words {x : Nat} (hx : x < Mw) : ∃ a b c d, wv x = W4 a b c d ∧ a < 18446744073709551616 ∧ b < 18446744073709551616 ∧ c < 18446744073709551616 ∧ d < 18446744073709551616 ∧ nvl [a, b, c, d] = x := by
  obtain ⟨a, b, c, d, e, h0, h1, h2, h3, hv⟩ := W4_words (x := x)
  rw [Nat.mod_eq_of_lt hx] at hv
  exact ⟨a, b, c, d, e, h0, h1, h2, h3, hv⟩
/-- Half a number. -/
theorem half_c {x : Nat} (hx : x < Mw) : PureX Tryz.prog 183 #[wv x] (rt (wv (x / 2))) := by
  obtain ⟨a, b, c, d, e, h0, h1, h2, h3, hv⟩ := lc_words hx
  have h := runA_pure mix (hv_raw a b c d) trivial rfl rfl
  obtain ⟨z0, f0, k0, e0⟩ := low1_eq h0 h1 (s := 1) (by omega)
  obtain ⟨z1, f1, k1, e1⟩ := low1_eq h1 h2 (s := 1) (by omega)
  obtain ⟨z2, f2, k2, e2⟩ := low1_eq h2 h3 (s := 1) (by omega)
  rw [f0, f1, f2, fdiv_nat] at h
  have hz : nvl [z0, z1, z2, d / 2 ^ 1] = x / 2 := by
    rw [← hv]
    simp only [nvl, Nat.mul_zero, Nat.add_zero]
    omega
  rw [e, ← hz, wv_nvl k0 k1 k2 (by omega)]
  exact h
theorem orB_eq {x b : Nat} (hx : x < 18446744073709551616) (hb : b < 64) (hm : x % 2 ^ (b + 1) = 0) : orB x b = u (x + 2 ^ b) ∧ x + 2 ^ b < 18446744073709551616 := by
  have hp : (2 : Nat) ^ b < 2 ^ (b + 1) := Nat.pow_lt_pow_right (by omega) (by omega)
  have h64 : (18446744073709551616 : Nat) = 2 ^ (b + 1) * 2 ^ (63 - b) := by rw [← Nat.pow_add, show b + 1 + (63 - b) = 64 by omega]
  have ex : x = 2 ^ (b + 1) * (x / 2 ^ (b + 1)) := by have := Nat.div_add_mod x (2 ^ (b + 1)); omega
  have hlt : x / 2 ^ (b + 1) < 2 ^ (63 - b) := by
    rw [Nat.div_lt_iff_lt_mul (Nat.pow_pos (by omega)), Nat.mul_comm, ← h64]; exact hx
  have hsum : x + 2 ^ b < 18446744073709551616 := by
    have h1 : 2 ^ (b + 1) * (x / 2 ^ (b + 1) + 1) ≤ 2 ^ (b + 1) * 2 ^ (63 - b) := Nat.mul_le_mul_left _ hlt
    rw [← h64, Nat.mul_add, ← ex, Nat.mul_one] at h1
    omega
  refine ⟨?_, hsum⟩
  have hor : x ||| 2 ^ b = x + 2 ^ b := by
    have := Nat.two_pow_add_eq_or_of_lt hp (x / 2 ^ (b + 1))
    rw [← ex] at this
    exact this.symm
  have hbl : 2 ^ b < 18446744073709551616 := by omega
  unfold orB u
  congr 1
  have e1 : IntKind.u64.wrap ((1 : Int) * 2 ^ b) = ((2 ^ b : Nat) : Int) := by
    rw [IntKind.wrap_u64, Int.one_mul]
    have : ((2 : Int) ^ b) = ((2 ^ b : Nat) : Int) := by simp
    rw [this]
    omega
  rw [e1]
  have := bits_or_u64_nat x (2 ^ b) hx hbl
  rw [hor] at this
  exact this
theorem pow_split {p j b : Nat} (h : p = 64 * j + b) : 2 ^ p = 18446744073709551616 ^ j * 2 ^ b := by
  rw [h, Nat.pow_add, Nat.pow_mul]
theorem WB_ok (a b c d p : Nat) : resOK noB (rt (WB a b c d p)) = true := by
  unfold WB
  split <;> rfl
/-- A bit set where all below and it are none. -/
theorem wbit_c {x k : Nat} (hx : x < Mw) (hk : k < 128) (hm : x % 2 ^ (2 * k + 1) = 0) : PureX Tryz.prog 182 #[wv x, .int .i64 (Int.ofNat (2 * k))] (rt (wv (x + 2 ^ (2 * k)))) := by
  obtain ⟨a, b, c, d, e, h0, h1, h2, h3, hv⟩ := lc_words hx
  have h := runA_pure mix (wb_raw a b c d k hk) trivial rfl (WB_ok a b c d (2 * k))
  rw [← e] at h
  obtain ⟨q, hq⟩ : ∃ q, 2 * k = 64 * ((2 * k) / 64) + (2 * k) % 64 ∧ q = (2 * k) % 64 := ⟨_, (Nat.div_add_mod _ _).symm, rfl⟩
  have hb : (2 * k) % 64 < 64 := Nat.mod_lt _ (by omega)
  have hps := pow_split hq.1
  -- the words below are none, the word's own low bits too
  have key : ∀ j, (2 * k) / 64 = j → x % (18446744073709551616 ^ j * 2 ^ ((2 * k) % 64 + 1)) = 0 := fun j hj => by
    have := hm
    rw [show 2 * k + 1 = 64 * j + ((2 * k) % 64 + 1) by omega, Nat.pow_add, Nat.pow_mul] at this
    exact this
  have low : ∀ (lo hi P Q : Nat), lo < P → 0 < P → (lo + P * hi) % (P * Q) = 0 → lo = 0 ∧ hi % Q = 0 := fun lo hi P Q hl hP h => by
    have h4 : (lo + P * hi) % P = 0 := Nat.mod_eq_zero_of_dvd (Nat.dvd_trans (Nat.dvd_mul_right P Q) (Nat.dvd_of_mod_eq_zero h))
    rw [Nat.add_mul_mod_self_left, Nat.mod_eq_of_lt hl] at h4
    subst h4
    rw [Nat.zero_add, Nat.mul_mod_mul_left] at h
    exact ⟨rfl, (Nat.mul_eq_zero.1 h).resolve_left (by omega)⟩
  have hj : (2 * k) / 64 = 0 ∨ (2 * k) / 64 = 1 ∨ (2 * k) / 64 = 2 ∨ (2 * k) / 64 = 3 := by omega
  have word : ∀ (y Q r : Nat), (y + 18446744073709551616 * r) % Q = 0 → (∃ z, 18446744073709551616 = Q * z) → y % Q = 0 := fun y Q r h ⟨z, hz⟩ => by
    rw [hz, Nat.mul_assoc, Nat.add_mul_mod_self_left] at h
    exact h
  have hQ : ∃ z, 18446744073709551616 = 2 ^ ((2 * k) % 64 + 1) * z := ⟨2 ^ (63 - (2 * k) % 64), by rw [← Nat.pow_add, show (2 * k) % 64 + 1 + (63 - (2 * k) % 64) = 64 by omega]⟩
  unfold WB at h
  generalize (2 * k) % 64 = bb' at *
  rw [hps]
  rcases hj with hj | hj | hj | hj <;> rw [hj] at h <;> simp only at h <;> have kk := key _ hj <;> rw [hj]
  · rw [Nat.pow_zero, Nat.one_mul] at kk ⊢
    rw [← hv, nvl] at kk
    obtain ⟨o1, o2⟩ := orB_eq h0 hb (word _ _ _ kk hQ)
    rw [o1] at h
    have hz : nvl [a + 2 ^ bb', b, c, d] = x + 2 ^ bb' := by rw [← hv]; simp only [nvl]; omega
    rw [← hz, wv_nvl o2 h1 h2 h3]
    exact h
  · have e2 : x = nvl [a] + 18446744073709551616 ^ 1 * nvl [b, c, d] := by rw [← hv]; exact nvl_append [a] [b, c, d]
    rw [e2] at kk
    obtain ⟨-, k2⟩ := low _ _ _ _ (by rw [nvl_one]; simpa using h0) (Nat.pow_pos (by omega)) kk
    rw [nvl] at k2
    obtain ⟨o1, o2⟩ := orB_eq h1 hb (word _ _ _ k2 hQ)
    rw [o1] at h
    have hz : nvl [a, b + 2 ^ bb', c, d] = x + 18446744073709551616 ^ 1 * 2 ^ bb' := by rw [← hv]; simp only [nvl, Nat.pow_one]; omega
    rw [← hz, wv_nvl h0 o2 h2 h3]
    exact h
  · have e2 : x = nvl [a, b] + 18446744073709551616 ^ 2 * nvl [c, d] := by rw [← hv]; exact nvl_append [a, b] [c, d]
    rw [e2] at kk
    obtain ⟨-, k2⟩ := low _ _ _ _ (nvl_lt [a, b] (sm_cons h0 (sm_cons h1 sm_nil))) (Nat.pow_pos (by omega)) kk
    rw [nvl] at k2
    obtain ⟨o1, o2⟩ := orB_eq h2 hb (word _ _ _ k2 hQ)
    rw [o1] at h
    have hz : nvl [a, b, c + 2 ^ bb', d] = x + 18446744073709551616 ^ 2 * 2 ^ bb' := by rw [← hv]; simp only [nvl, show (18446744073709551616 : Nat) ^ 2 = 340282366920938463463374607431768211456 from rfl]; omega
    rw [← hz, wv_nvl h0 h1 o2 h3]
    exact h
  · have e2 : x = nvl [a, b, c] + 18446744073709551616 ^ 3 * nvl [d] := by rw [← hv]; exact nvl_append [a, b, c] [d]
    rw [e2] at kk
    obtain ⟨-, k2⟩ := low _ _ _ _ (nvl_lt [a, b, c] (sm_cons h0 (sm_cons h1 (sm_cons h2 sm_nil)))) (Nat.pow_pos (by omega)) kk
    rw [nvl_one] at k2
    obtain ⟨o1, o2⟩ := orB_eq h3 hb k2
    rw [o1] at h
    have hz : nvl [a, b, c, d + 2 ^ bb'] = x + 18446744073709551616 ^ 3 * 2 ^ bb' := by rw [← hv]; simp only [nvl, show (18446744073709551616 : Nat) ^ 3 = 6277101735386680763835789423207666416102355444464034512896 from rfl]; omega
    rw [← hz, wv_nvl h0 h1 h2 o2]
    exact h

/-- How many bits a word, a number has. -/
theorem len64_c {x : Nat} (hx : x < 18446744073709551616) : PureX Tryz.prog 210 #[u x] (rt (.int .i64 (Int.ofNat (Lib.bitLen x)))) := by
  intro w
  have h := Tryz.bits_Len64 (x : Int) w (by omega) (by omega)
  rw [show ((x : Int)).toNat = x by omega] at h
  refine h.mono ?_
  rintro e w' ⟨rfl, rfl⟩
  exact ⟨rfl, Below.refl _ _⟩
theorem bitLen_b {x : Nat} (h0 : x ≠ 0) (hx : x < 18446744073709551616) : 1 ≤ Lib.bitLen x ∧ Lib.bitLen x ≤ 64 ∧ 2 ^ (Lib.bitLen x - 1) ≤ x ∧ x < 2 ^ Lib.bitLen x := by
  obtain ⟨b1, b2, b3⟩ := Lib.bitLenAux_bounds 64 x (by omega) h0
  have b4 : Lib.bitLen x ≤ 64 := Lib.bitLen_le x 64 (Nat.le_refl _) (by omega)
  have e : Lib.bitLenAux 64 x = Lib.bitLen x := rfl
  rw [e] at b1 b2 b3
  exact ⟨by omega, b4, b2, b3⟩

end Go.Proofs.YtlioffkonfkflaaGreat

/- How many bits a number has; a root's rounds. -/
namespace Go.Proofs.YtlioffkonfkflaaGreat
open Go Go.RowKit
set_option linter.unusedSimpArgs false
set_option linter.unusedVariables false

/-- The number of bits. -/
def IsLen (x L : Nat) : Prop := (x = 0 ∧ L = 0) ∨ (1 ≤ L ∧ L ≤ 256 ∧ 2 ^ (L - 1) ≤ x ∧ x < 2 ^ L)
theorem isLen_of {lo P y t : Nat} (hlo : lo < P) (hP : P = 2 ^ (64 * t)) (ht : t ≤ 3) (h0 : y ≠ 0) (hy : y < 18446744073709551616) : IsLen (lo + P * y) (64 * t + Lib.bitLen y) := by
  obtain ⟨b1, b2, b3, b4⟩ := bitLen_b h0 hy
  generalize Lib.bitLen y = n at *
  refine .inr ⟨by omega, by omega, ?_, ?_⟩
  · rw [show 64 * t + n - 1 = 64 * t + (n - 1) by omega, Nat.pow_add, ← hP]
    exact Nat.le_trans (Nat.mul_le_mul_left P b3) (Nat.le_add_left _ _)
  · rw [Nat.pow_add, ← hP]
    have h1 : P * (y + 1) ≤ P * 2 ^ n := Nat.mul_le_mul_left P b4
    rw [Nat.mul_add, Nat.mul_one] at h1
    omega
theorem wrap_small {z : Int} (h : -9223372036854775808 ≤ z ∧ z < 9223372036854775808) : IntKind.i64.wrap z = z := by
  rw [IntKind.wrap_i64]
  omega
theorem wrap_len {t n : Nat} (ht : t ≤ 3) (hn : n ≤ 64) : IntKind.i64.wrap (((64 * t : Nat) : Int) + Int.ofNat n) = Int.ofNat (64 * t + n) := by
  have e : ((64 * t : Nat) : Int) + Int.ofNat n = ((64 * t + n : Nat) : Int) := by simp
  rw [e, wrap_small ⟨by omega, by omega⟩]
  rfl
set_option maxRecDepth 100000 in
theorem len_c {x : Nat} (hx : x < Mw) : ∃ L, IsLen x L ∧ PureX Tryz.prog 200 #[wv x] (rt (.int .i64 (Int.ofNat L))) := by
  obtain ⟨x0, x1, x2, x3, e, h0, h1, h2, h3, hv⟩ := lc_words hx
  rw [e]
  have ne : ∀ {y : Nat}, y ≠ 0 → (Int.ofNat y != 0) = true := fun h => ofNat_ne h
  have bl : ∀ {y : Nat}, y ≠ 0 → y < 18446744073709551616 → Lib.bitLen y ≤ 64 := fun h0 h => (bitLen_b h0 h).2.1
  by_cases e3 : x3 = 0
  · subst e3
    by_cases e2 : x2 = 0
    · subst e2
      by_cases e1 : x1 = 0
      · subst e1
        by_cases e0 : x0 = 0
        · subst e0
          exact ⟨0, .inl ⟨by rw [← hv]; rfl, rfl⟩, runA_pure mix (ln_0 0 0 0 0) ⟨rfl, rfl, rfl, rfl, trivial⟩ rfl rfl⟩
        · have r := runA_pure mix (ln_1 x0 0 0 0 (Int.ofNat (Lib.bitLen x0))) ⟨ne e0, len64_c h0, rfl, rfl, rfl, trivial⟩ rfl rfl
          rw [show ((0 : Int) + Int.ofNat (Lib.bitLen x0)) = (((64 * 0 : Nat) : Int) + Int.ofNat (Lib.bitLen x0)) from rfl, wrap_len (by omega) (bl e0 h0)] at r
          refine ⟨_, ?_, r⟩
          have il := isLen_of (lo := nvl []) (P := 1) (y := x0) (t := 0) (by simp only [nvl, Nat.mul_zero, Nat.add_zero] <;> omega) rfl (by omega) e0 h0
          rw [show nvl [] + 1 * x0 = x by rw [← hv]; simp only [nvl, Nat.mul_zero, Nat.add_zero, Nat.zero_add] <;> omega] at il
          exact il
      · by_cases e0 : x0 = 0
        · subst e0
          have r := runA_pure mix (ln_2 0 x1 0 0 (Int.ofNat (Lib.bitLen x1))) ⟨rfl, ne e1, len64_c h1, rfl, rfl, trivial⟩ rfl rfl
          rw [show ((64 : Int) + Int.ofNat (Lib.bitLen x1)) = (((64 * 1 : Nat) : Int) + Int.ofNat (Lib.bitLen x1)) from rfl, wrap_len (by omega) (bl e1 h1)] at r
          refine ⟨_, ?_, r⟩
          have il := isLen_of (lo := nvl [0]) (P := 18446744073709551616) (y := x1) (t := 1) (by simp only [nvl, Nat.mul_zero, Nat.add_zero] <;> omega) rfl (by omega) e1 h1
          rw [show nvl [0] + 18446744073709551616 * x1 = x by rw [← hv]; simp only [nvl, Nat.mul_zero, Nat.add_zero, Nat.zero_add] <;> omega] at il
          exact il
        · have r := runA_pure mix (ln_3 x0 x1 0 0 (Int.ofNat (Lib.bitLen x0)) (Int.ofNat (Lib.bitLen x1))) ⟨ne e0, len64_c h0, ne e1, len64_c h1, rfl, rfl, trivial⟩ rfl rfl
          rw [show ((64 : Int) + Int.ofNat (Lib.bitLen x1)) = (((64 * 1 : Nat) : Int) + Int.ofNat (Lib.bitLen x1)) from rfl, wrap_len (by omega) (bl e1 h1)] at r
          refine ⟨_, ?_, r⟩
          have il := isLen_of (lo := nvl [x0]) (P := 18446744073709551616) (y := x1) (t := 1) (by simp only [nvl, Nat.mul_zero, Nat.add_zero] <;> omega) rfl (by omega) e1 h1
          rw [show nvl [x0] + 18446744073709551616 * x1 = x by rw [← hv]; simp only [nvl, Nat.mul_zero, Nat.add_zero, Nat.zero_add] <;> omega] at il
          exact il
    · by_cases e1 : x1 = 0
      · subst e1
        by_cases e0 : x0 = 0
        · subst e0
          have r := runA_pure mix (ln_4 0 0 x2 0 (Int.ofNat (Lib.bitLen x2))) ⟨rfl, rfl, ne e2, len64_c h2, rfl, trivial⟩ rfl rfl
          rw [show ((128 : Int) + Int.ofNat (Lib.bitLen x2)) = (((64 * 2 : Nat) : Int) + Int.ofNat (Lib.bitLen x2)) from rfl, wrap_len (by omega) (bl e2 h2)] at r
          refine ⟨_, ?_, r⟩
          have il := isLen_of (lo := nvl [0, 0]) (P := 340282366920938463463374607431768211456) (y := x2) (t := 2) (by simp only [nvl, Nat.mul_zero, Nat.add_zero] <;> omega) rfl (by omega) e2 h2
          rw [show nvl [0, 0] + 340282366920938463463374607431768211456 * x2 = x by rw [← hv]; simp only [nvl, Nat.mul_zero, Nat.add_zero, Nat.zero_add] <;> omega] at il
          exact il
        · have r := runA_pure mix (ln_5 x0 0 x2 0 (Int.ofNat (Lib.bitLen x0)) (Int.ofNat (Lib.bitLen x2))) ⟨ne e0, len64_c h0, rfl, ne e2, len64_c h2, rfl, trivial⟩ rfl rfl
          rw [show ((128 : Int) + Int.ofNat (Lib.bitLen x2)) = (((64 * 2 : Nat) : Int) + Int.ofNat (Lib.bitLen x2)) from rfl, wrap_len (by omega) (bl e2 h2)] at r
          refine ⟨_, ?_, r⟩
          have il := isLen_of (lo := nvl [x0, 0]) (P := 340282366920938463463374607431768211456) (y := x2) (t := 2) (by simp only [nvl, Nat.mul_zero, Nat.add_zero] <;> omega) rfl (by omega) e2 h2
          rw [show nvl [x0, 0] + 340282366920938463463374607431768211456 * x2 = x by rw [← hv]; simp only [nvl, Nat.mul_zero, Nat.add_zero, Nat.zero_add] <;> omega] at il
          exact il
      · by_cases e0 : x0 = 0
        · subst e0
          have r := runA_pure mix (ln_6 0 x1 x2 0 (Int.ofNat (Lib.bitLen x1)) (Int.ofNat (Lib.bitLen x2))) ⟨rfl, ne e1, len64_c h1, ne e2, len64_c h2, rfl, trivial⟩ rfl rfl
          rw [show ((128 : Int) + Int.ofNat (Lib.bitLen x2)) = (((64 * 2 : Nat) : Int) + Int.ofNat (Lib.bitLen x2)) from rfl, wrap_len (by omega) (bl e2 h2)] at r
          refine ⟨_, ?_, r⟩
          have il := isLen_of (lo := nvl [0, x1]) (P := 340282366920938463463374607431768211456) (y := x2) (t := 2) (by simp only [nvl, Nat.mul_zero, Nat.add_zero] <;> omega) rfl (by omega) e2 h2
          rw [show nvl [0, x1] + 340282366920938463463374607431768211456 * x2 = x by rw [← hv]; simp only [nvl, Nat.mul_zero, Nat.add_zero, Nat.zero_add] <;> omega] at il
          exact il
        · have r := runA_pure mix (ln_7 x0 x1 x2 0 (Int.ofNat (Lib.bitLen x0)) (Int.ofNat (Lib.bitLen x1)) (Int.ofNat (Lib.bitLen x2))) ⟨ne e0, len64_c h0, ne e1, len64_c h1, ne e2, len64_c h2, rfl, trivial⟩ rfl rfl
          rw [show ((128 : Int) + Int.ofNat (Lib.bitLen x2)) = (((64 * 2 : Nat) : Int) + Int.ofNat (Lib.bitLen x2)) from rfl, wrap_len (by omega) (bl e2 h2)] at r
          refine ⟨_, ?_, r⟩
          have il := isLen_of (lo := nvl [x0, x1]) (P := 340282366920938463463374607431768211456) (y := x2) (t := 2) (by simp only [nvl, Nat.mul_zero, Nat.add_zero] <;> omega) rfl (by omega) e2 h2
          rw [show nvl [x0, x1] + 340282366920938463463374607431768211456 * x2 = x by rw [← hv]; simp only [nvl, Nat.mul_zero, Nat.add_zero, Nat.zero_add] <;> omega] at il
          exact il
  · by_cases e2 : x2 = 0
    · subst e2
      by_cases e1 : x1 = 0
      · subst e1
        by_cases e0 : x0 = 0
        · subst e0
          have r := runA_pure mix (ln_8 0 0 0 x3 (Int.ofNat (Lib.bitLen x3))) ⟨rfl, rfl, rfl, ne e3, len64_c h3, trivial⟩ rfl rfl
          rw [show ((192 : Int) + Int.ofNat (Lib.bitLen x3)) = (((64 * 3 : Nat) : Int) + Int.ofNat (Lib.bitLen x3)) from rfl, wrap_len (by omega) (bl e3 h3)] at r
          refine ⟨_, ?_, r⟩
          have il := isLen_of (lo := nvl [0, 0, 0]) (P := 6277101735386680763835789423207666416102355444464034512896) (y := x3) (t := 3) (by simp only [nvl, Nat.mul_zero, Nat.add_zero] <;> omega) rfl (by omega) e3 h3
          rw [show nvl [0, 0, 0] + 6277101735386680763835789423207666416102355444464034512896 * x3 = x by rw [← hv]; simp only [nvl, Nat.mul_zero, Nat.add_zero, Nat.zero_add] <;> omega] at il
          exact il
        · have r := runA_pure mix (ln_9 x0 0 0 x3 (Int.ofNat (Lib.bitLen x0)) (Int.ofNat (Lib.bitLen x3))) ⟨ne e0, len64_c h0, rfl, rfl, ne e3, len64_c h3, trivial⟩ rfl rfl
          rw [show ((192 : Int) + Int.ofNat (Lib.bitLen x3)) = (((64 * 3 : Nat) : Int) + Int.ofNat (Lib.bitLen x3)) from rfl, wrap_len (by omega) (bl e3 h3)] at r
          refine ⟨_, ?_, r⟩
          have il := isLen_of (lo := nvl [x0, 0, 0]) (P := 6277101735386680763835789423207666416102355444464034512896) (y := x3) (t := 3) (by simp only [nvl, Nat.mul_zero, Nat.add_zero] <;> omega) rfl (by omega) e3 h3
          rw [show nvl [x0, 0, 0] + 6277101735386680763835789423207666416102355444464034512896 * x3 = x by rw [← hv]; simp only [nvl, Nat.mul_zero, Nat.add_zero, Nat.zero_add] <;> omega] at il
          exact il
      · by_cases e0 : x0 = 0
        · subst e0
          have r := runA_pure mix (ln_10 0 x1 0 x3 (Int.ofNat (Lib.bitLen x1)) (Int.ofNat (Lib.bitLen x3))) ⟨rfl, ne e1, len64_c h1, rfl, ne e3, len64_c h3, trivial⟩ rfl rfl
          rw [show ((192 : Int) + Int.ofNat (Lib.bitLen x3)) = (((64 * 3 : Nat) : Int) + Int.ofNat (Lib.bitLen x3)) from rfl, wrap_len (by omega) (bl e3 h3)] at r
          refine ⟨_, ?_, r⟩
          have il := isLen_of (lo := nvl [0, x1, 0]) (P := 6277101735386680763835789423207666416102355444464034512896) (y := x3) (t := 3) (by simp only [nvl, Nat.mul_zero, Nat.add_zero] <;> omega) rfl (by omega) e3 h3
          rw [show nvl [0, x1, 0] + 6277101735386680763835789423207666416102355444464034512896 * x3 = x by rw [← hv]; simp only [nvl, Nat.mul_zero, Nat.add_zero, Nat.zero_add] <;> omega] at il
          exact il
        · have r := runA_pure mix (ln_11 x0 x1 0 x3 (Int.ofNat (Lib.bitLen x0)) (Int.ofNat (Lib.bitLen x1)) (Int.ofNat (Lib.bitLen x3))) ⟨ne e0, len64_c h0, ne e1, len64_c h1, rfl, ne e3, len64_c h3, trivial⟩ rfl rfl
          rw [show ((192 : Int) + Int.ofNat (Lib.bitLen x3)) = (((64 * 3 : Nat) : Int) + Int.ofNat (Lib.bitLen x3)) from rfl, wrap_len (by omega) (bl e3 h3)] at r
          refine ⟨_, ?_, r⟩
          have il := isLen_of (lo := nvl [x0, x1, 0]) (P := 6277101735386680763835789423207666416102355444464034512896) (y := x3) (t := 3) (by simp only [nvl, Nat.mul_zero, Nat.add_zero] <;> omega) rfl (by omega) e3 h3
          rw [show nvl [x0, x1, 0] + 6277101735386680763835789423207666416102355444464034512896 * x3 = x by rw [← hv]; simp only [nvl, Nat.mul_zero, Nat.add_zero, Nat.zero_add] <;> omega] at il
          exact il
    · by_cases e1 : x1 = 0
      · subst e1
        by_cases e0 : x0 = 0
        · subst e0
          have r := runA_pure mix (ln_12 0 0 x2 x3 (Int.ofNat (Lib.bitLen x2)) (Int.ofNat (Lib.bitLen x3))) ⟨rfl, rfl, ne e2, len64_c h2, ne e3, len64_c h3, trivial⟩ rfl rfl
          rw [show ((192 : Int) + Int.ofNat (Lib.bitLen x3)) = (((64 * 3 : Nat) : Int) + Int.ofNat (Lib.bitLen x3)) from rfl, wrap_len (by omega) (bl e3 h3)] at r
          refine ⟨_, ?_, r⟩
          have il := isLen_of (lo := nvl [0, 0, x2]) (P := 6277101735386680763835789423207666416102355444464034512896) (y := x3) (t := 3) (by simp only [nvl, Nat.mul_zero, Nat.add_zero] <;> omega) rfl (by omega) e3 h3
          rw [show nvl [0, 0, x2] + 6277101735386680763835789423207666416102355444464034512896 * x3 = x by rw [← hv]; simp only [nvl, Nat.mul_zero, Nat.add_zero, Nat.zero_add] <;> omega] at il
          exact il
        · have r := runA_pure mix (ln_13 x0 0 x2 x3 (Int.ofNat (Lib.bitLen x0)) (Int.ofNat (Lib.bitLen x2)) (Int.ofNat (Lib.bitLen x3))) ⟨ne e0, len64_c h0, rfl, ne e2, len64_c h2, ne e3, len64_c h3, trivial⟩ rfl rfl
          rw [show ((192 : Int) + Int.ofNat (Lib.bitLen x3)) = (((64 * 3 : Nat) : Int) + Int.ofNat (Lib.bitLen x3)) from rfl, wrap_len (by omega) (bl e3 h3)] at r
          refine ⟨_, ?_, r⟩
          have il := isLen_of (lo := nvl [x0, 0, x2]) (P := 6277101735386680763835789423207666416102355444464034512896) (y := x3) (t := 3) (by simp only [nvl, Nat.mul_zero, Nat.add_zero] <;> omega) rfl (by omega) e3 h3
          rw [show nvl [x0, 0, x2] + 6277101735386680763835789423207666416102355444464034512896 * x3 = x by rw [← hv]; simp only [nvl, Nat.mul_zero, Nat.add_zero, Nat.zero_add] <;> omega] at il
          exact il
      · by_cases e0 : x0 = 0
        · subst e0
          have r := runA_pure mix (ln_14 0 x1 x2 x3 (Int.ofNat (Lib.bitLen x1)) (Int.ofNat (Lib.bitLen x2)) (Int.ofNat (Lib.bitLen x3))) ⟨rfl, ne e1, len64_c h1, ne e2, len64_c h2, ne e3, len64_c h3, trivial⟩ rfl rfl
          rw [show ((192 : Int) + Int.ofNat (Lib.bitLen x3)) = (((64 * 3 : Nat) : Int) + Int.ofNat (Lib.bitLen x3)) from rfl, wrap_len (by omega) (bl e3 h3)] at r
          refine ⟨_, ?_, r⟩
          have il := isLen_of (lo := nvl [0, x1, x2]) (P := 6277101735386680763835789423207666416102355444464034512896) (y := x3) (t := 3) (by simp only [nvl, Nat.mul_zero, Nat.add_zero] <;> omega) rfl (by omega) e3 h3
          rw [show nvl [0, x1, x2] + 6277101735386680763835789423207666416102355444464034512896 * x3 = x by rw [← hv]; simp only [nvl, Nat.mul_zero, Nat.add_zero, Nat.zero_add] <;> omega] at il
          exact il
        · have r := runA_pure mix (ln_15 x0 x1 x2 x3 (Int.ofNat (Lib.bitLen x0)) (Int.ofNat (Lib.bitLen x1)) (Int.ofNat (Lib.bitLen x2)) (Int.ofNat (Lib.bitLen x3))) ⟨ne e0, len64_c h0, ne e1, len64_c h1, ne e2, len64_c h2, ne e3, len64_c h3, trivial⟩ rfl rfl
          rw [show ((192 : Int) + Int.ofNat (Lib.bitLen x3)) = (((64 * 3 : Nat) : Int) + Int.ofNat (Lib.bitLen x3)) from rfl, wrap_len (by omega) (bl e3 h3)] at r
          refine ⟨_, ?_, r⟩
          have il := isLen_of (lo := nvl [x0, x1, x2]) (P := 6277101735386680763835789423207666416102355444464034512896) (y := x3) (t := 3) (by simp only [nvl, Nat.mul_zero, Nat.add_zero] <;> omega) rfl (by omega) e3 h3
          rw [show nvl [x0, x1, x2] + 6277101735386680763835789423207666416102355444464034512896 * x3 = x by rw [← hv]; simp only [nvl, Nat.mul_zero, Nat.add_zero, Nat.zero_add] <;> omega] at il
          exact il

/-- What a root's bits come to: the next bit is taken if the square still fits. -/
def bitF (a F k : Nat) : Nat := if (F + 2 ^ k) * (F + 2 ^ k) ≤ a then F + 2 ^ k else F
def fin (a : Nat) : Nat → Nat → Nat
  | F, 0 => F
  | F, k + 1 => fin a (bitF a F k) k
structure InvR (a F m : Nat) : Prop where
  lt : a < 57896044618658097711785492504343953926634992332820282019728792003956564819968
  top : m ≤ 128
  div : F % 2 ^ m = 0
  low : F * F ≤ a
  high : a < (F + 2 ^ m) * (F + 2 ^ m)
theorem InvR.next {a F k : Nat} (h : InvR a F (k + 1)) : InvR a (bitF a F k) k := by
  have hd : F % 2 ^ k = 0 := by
    have := h.div
    rw [Nat.pow_succ] at this
    exact Nat.mod_eq_zero_of_dvd (Nat.dvd_trans (Nat.dvd_mul_right _ _) (Nat.dvd_of_mod_eq_zero this))
  have hk := h.top
  unfold bitF
  split
  · rename_i hc
    refine ⟨h.lt, by omega, by rw [Nat.add_mod_right]; exact hd, hc, ?_⟩
    have := h.high
    rw [Nat.pow_succ] at this
    rw [show F + 2 ^ k + 2 ^ k = F + 2 ^ k * 2 by omega]
    exact this
  · rename_i hc
    exact ⟨h.lt, by omega, hd, h.low, by omega⟩
theorem InvR.fin {a : Nat} : ∀ (m F : Nat), InvR a F m → InvR a (Go.Proofs.YtlioffkonfkflaaGreat.fin a F m) 0
  | 0, F, h => h
  | m + 1, F, h => InvR.fin m _ h.next

theorem HX_HY (a r lf i : Nat) : look (HX a r lf) i = look (HY a r lf) i := by
  simp only [HX, HY, look]
  by_cases h2 : 1002 = i
  · have h3 : 1003 ≠ i := by omega
    rw [if_neg h3, if_pos h2, if_pos h2]
  · rw [if_neg h2, if_neg h2]
theorem CallsV.permY {P : Program} {l : Nat} {args : Array Value} {H H' G : Hp} {r : Res} (h : CallsV P (.yield l) args H r H') (hl : ∀ i, look G i = look H' i) : CallsV P (.yield l) args H r G := by
  intro β w hR n
  obtain ⟨fn, tmps, assign, body, hy, hr⟩ := h β w hR n
  refine ⟨fn, tmps, assign, body, hy, RoundIn.mono hr ?_⟩
  rintro e w' ⟨β', hb, he, hR'⟩
  exact ⟨β', hb, he, hR'.congr (fun _ _ => rfl) hl⟩
theorem nz_nat {x : Nat} (h : x < Mw) : nz (x : Int) = x := by
  have := nz_cast (x : Int)
  rw [Int.emod_eq_of_lt (by omega) (by omega)] at this
  exact Int.ofNat.inj this
theorem sq_grow {F k : Nat} : (F + 2 ^ k) * (F + 2 ^ k) = F * F + (F * 2 ^ (k + 1) + 2 ^ (2 * k)) := by
  rw [Nat.pow_succ, Nat.two_mul k, Nat.pow_add, Nat.add_mul, Nat.mul_add, Nat.mul_add, Nat.mul_comm (2 ^ k) F, ← Nat.mul_assoc F]
  omega
theorem pows_small {F m : Nat} {a : Nat} (h : InvR a F (m + 1)) : F * 2 ^ (m + 1) + 2 ^ (2 * m) < 57896044618658097711785492504343953926634992332820282019728792003956564819968 := by
  have hm := h.top
  have ha := h.lt
  have hF : F < 340282366920938463463374607431768211456 := by
    refine Nat.lt_of_not_le (fun hc => ?_)
    have h2 : 340282366920938463463374607431768211456 * 340282366920938463463374607431768211456 ≤ F * F := Nat.mul_le_mul hc hc
    have h3 := h.low
    omega
  have hd := h.div
  rcases (show m = 127 ∨ m = 126 ∨ m ≤ 125 by omega) with hm | hm | hm
  · subst hm
    have : F = 0 := by
      rw [show (2 : Nat) ^ (127 + 1) = 340282366920938463463374607431768211456 from rfl, Nat.mod_eq_of_lt hF] at hd
      exact hd
    subst this
    exact of_decide_eq_true (by kernel_rfl)
  · subst hm
    have hF2 : F ≤ 170141183460469231731687303715884105728 := by
      rw [show (2 : Nat) ^ (126 + 1) = 170141183460469231731687303715884105728 from rfl] at hd
      omega
    have h4 : F * 2 ^ (126 + 1) ≤ 170141183460469231731687303715884105728 * 2 ^ (126 + 1) := Nat.mul_le_mul_right _ hF2
    have h5 : 170141183460469231731687303715884105728 * 2 ^ (126 + 1) + 2 ^ (2 * 126) < 57896044618658097711785492504343953926634992332820282019728792003956564819968 := of_decide_eq_true (by kernel_rfl)
    exact Nat.lt_of_le_of_lt (Nat.add_le_add_right h4 _) h5
  · have h4 : F * 2 ^ (m + 1) ≤ 340282366920938463463374607431768211456 * 2 ^ 126 := Nat.mul_le_mul (Nat.le_of_lt hF) (Nat.pow_le_pow_right (by omega) (by omega))
    have h6 : 2 ^ (2 * m) ≤ 2 ^ 250 := Nat.pow_le_pow_right (by omega) (by omega)
    have h5 : 340282366920938463463374607431768211456 * 2 ^ 126 + 2 ^ 250 < 57896044618658097711785492504343953926634992332820282019728792003956564819968 := of_decide_eq_true (by kernel_rfl)
    exact Nat.lt_of_le_of_lt (Nat.add_le_add h4 h6) h5
theorem wrap_2k {k : Nat} (hk : k < 128) : IntKind.i64.wrap (2 * Int.ofNat k) = Int.ofNat (2 * k) := by
  have e : (2 : Int) * Int.ofNat k = ((2 * k : Nat) : Int) := by simp
  rw [e, wrap_small ⟨by omega, by omega⟩]
  rfl
/-- One round. -/
theorem round_c {a F k : Nat} (h : InvR a F (k + 1)) : CallsV Tryz.prog (.yield 1005) #[.int .i64 (Int.ofNat k)] (HX a (F * 2 ^ (k + 1)) (a - F * F)) (rt (bb true)) (HX a (bitF a F k * 2 ^ k) (a - bitF a F k * bitF a F k)) := by
  have hk : k < 128 := by have := h.top; omega
  have hp := pows_small h
  have ha := h.lt
  have hsq := sq_grow (F := F) (k := k)
  obtain ⟨c, hc⟩ := Nat.dvd_of_mod_eq_zero h.div
  have p2 : (2 : Nat) ^ (2 * k + 1) = 2 ^ (k + 1) * 2 ^ k := by rw [← Nat.pow_add]; congr 1; omega
  have m1 : F * 2 ^ (k + 1) % 2 ^ (2 * k + 1) = 0 := by
    refine Nat.mod_eq_zero_of_dvd ⟨c * 2, ?_⟩
    rw [hc, p2, Nat.pow_succ]
    simp only [Nat.mul_comm, Nat.mul_left_comm, Nat.mul_assoc]
  have hhalf : F * 2 ^ (k + 1) / 2 = F * 2 ^ k := by rw [Nat.pow_succ, ← Nat.mul_assoc, Nat.mul_div_cancel _ (by omega)]
  have m2 : F * 2 ^ k % 2 ^ (2 * k + 1) = 0 := by
    refine Nat.mod_eq_zero_of_dvd ⟨c, ?_⟩
    rw [hc, p2]
    simp only [Nat.mul_comm, Nat.mul_left_comm, Nat.mul_assoc]
  have Mv : Mw = 115792089237316195423570985008687907853269984665640564039457584007913129639936 := rfl
  have b1 := wbit_c (x := F * 2 ^ (k + 1)) (by omega) hk m1
  have b2 := half_c (x := F * 2 ^ (k + 1)) (by omega)
  rw [hhalf] at b2
  have hle : F * 2 ^ k ≤ F * 2 ^ (k + 1) := Nat.mul_le_mul_left _ (Nat.pow_le_pow_right (by omega) (by omega))
  have b3 := wbit_c (x := F * 2 ^ k) (by omega) hk m2
  rw [← wrap_2k hk] at b1 b3
  obtain ⟨o, b4⟩ := sub_any ((a - F * F : Nat) : Int) ((F * 2 ^ (k + 1) + 2 ^ (2 * k) : Nat) : Int)
  rw [← wz_nat, ← wz_nat] at b4
  have hF2 := h.low
  obtain ⟨p, hpe⟩ : ∃ p, F * 2 ^ (k + 1) + 2 ^ (2 * k) = p := ⟨_, rfl⟩
  obtain ⟨lf, hlf⟩ : ∃ lf, a - F * F = lf := ⟨_, rfl⟩
  rw [hpe] at b1 b4 hp hsq
  rw [hlf] at b4 ⊢
  have b5 := sign_z (z := ((lf : Nat) : Int) - (p : Int)) (by unfold inR; omega)
  by_cases hc : p ≤ lf
  · have hs : decide (0 ≤ (((lf : Nat) : Int) - (p : Int)).sign) = true := by
      rcases (show (lf : Int) - (p : Int) = 0 ∨ 0 < (lf : Int) - (p : Int) by omega) with h | h
      · rw [h]; rfl
      · rw [Int.sign_eq_one_of_pos h]; rfl
    have hbf : bitF a F k = F + 2 ^ k := by unfold bitF; rw [if_pos (by omega)]
    have hz : nz ((lf : Int) - (p : Int)) = lf - p := by
      rw [show (lf : Int) - (p : Int) = ((lf - p : Nat) : Int) by omega]
      exact nz_nat (by omega)
    have e1 : bitF a F k * 2 ^ k = F * 2 ^ k + 2 ^ (2 * k) := by rw [hbf, Nat.add_mul, Nat.two_mul, Nat.pow_add]
    have e2 : a - bitF a F k * bitF a F k = lf - p := by rw [hbf, hsq]; omega
    rw [e1, e2, ← hz]
    exact (runY_calls mix (rd_t a (F * 2 ^ (k + 1)) lf p (nz ((lf : Int) - (p : Int))) (F * 2 ^ k) (F * 2 ^ k + 2 ^ (2 * k)) (Int.ofNat k) _ o) ⟨b1, b4, b2, b5, hs, b3, trivial⟩ (by kernel_rfl) (by kernel_rfl) (by kernel_rfl)).permY (HX_HY _ _ _)
  · have hs : decide (0 ≤ (((lf : Nat) : Int) - (p : Int)).sign) = false := by
      rw [Int.sign_eq_neg_one_of_neg (by omega)]; rfl
    have hbf : bitF a F k = F := by unfold bitF; rw [if_neg (by omega)]
    rw [hbf, hlf]
    exact (runY_calls mix (rd_f a (F * 2 ^ (k + 1)) lf p (nz ((lf : Int) - (p : Int))) (F * 2 ^ k) (Int.ofNat k) _ o) ⟨b1, b4, b2, b5, hs, trivial⟩ (by kernel_rfl) (by kernel_rfl) (by kernel_rfl)).permY (HX_HY _ _ _)

end Go.Proofs.YtlioffkonfkflaaGreat

/- A root, whole. -/
namespace Go.Proofs.YtlioffkonfkflaaGreat
open Go Go.RowKit
set_option linter.unusedSimpArgs false
set_option linter.unusedVariables false

theorem it_loop {a : Nat} (L L1 L2 L3 : Value) : ∀ (m F : Nat) (x9 x10 x11 x12 x13 x14 x15 x16 : Value), InvR a F m →
    ∃ t', LoopN Tryz.prog L133 (m + 1) (TI a L L1 L2 L3 (.int .i64 ((m : Int) - 1)) x9 x10 x11 x12 x13 x14 x15 x16) [] (HX a (F * 2 ^ m) (a - F * F)) (.exit 0) t' [] (HX a (fin a F m) (a - fin a F m * fin a F m))
  | 0, F, x9, x10, x11, x12, x13, x14, x15, x16, h => by
    have hd : decide (0 ≤ (((0 : Nat) : Int) - 1)) = false := rfl
    rw [Nat.pow_zero, Nat.mul_one]
    exact ⟨_, LoopN.last (runS_step mix (it_end a F (a - F * F) (((0 : Nat) : Int) - 1) L L1 L2 L3 x9 x10 x11 x12 x13 x14 x15 x16) ⟨hd, trivial⟩)⟩
  | m + 1, F, x9, x10, x11, x12, x13, x14, x15, x16, h => by
    have hm := h.top
    have hk : (((m + 1 : Nat) : Int) - 1) = Int.ofNat m := by show _ = (m : Int); omega
    rw [hk]
    have hr := round_c h
    have hd : decide (0 ≤ Int.ofNat m) = true := decide_eq_true (show (0 : Int) ≤ (m : Int) by omega)
    obtain ⟨t', ht⟩ := it_loop L L1 L2 L3 m (bitF a F m) (.int .i64 (Int.ofNat m)) (bb (decide (0 ≤ Int.ofNat m))) (.int .i64 (Int.ofNat m)) (.int .i64 ((m : Int) - 1)) yv (.int .i64 (Int.ofNat m)) (bb true) (bb false) h.next
    have st := runS_step mix (it_round a (F * 2 ^ (m + 1)) (a - F * F) (bitF a F m * 2 ^ m) (a - bitF a F m * bitF a F m) (Int.ofNat m) L L1 L2 L3 x9 x10 x11 x12 x13 x14 x15 x16) ⟨hd, hr, trivial⟩
    rw [show IntKind.i64.wrap (Int.ofNat m - 1) = (m : Int) - 1 from wrap_small (by show -9223372036854775808 ≤ (m : Int) - 1 ∧ (m : Int) - 1 < 9223372036854775808; omega)] at st
    exact ⟨t', LoopN.round st ht⟩
/-- The whole number of a number's bits' half, upwards. -/
theorem isLen_up {a L : Nat} (h : IsLen a L) : a < 2 ^ ((L + 1) / 2) * 2 ^ ((L + 1) / 2) ∧ (a < 57896044618658097711785492504343953926634992332820282019728792003956564819968 → (L + 1) / 2 ≤ 128) := by
  have e : 2 ^ ((L + 1) / 2) * 2 ^ ((L + 1) / 2) = 2 ^ (2 * ((L + 1) / 2)) := by rw [← Nat.pow_add]; congr 1; omega
  rw [e]
  rcases h with ⟨rfl, rfl⟩ | ⟨h1, h2, h3, h4⟩
  · exact ⟨by decide, fun _ => by decide⟩
  · exact ⟨Nat.lt_of_lt_of_le h4 (Nat.pow_le_pow_right (by omega) (by omega)), fun _ => by omega⟩
theorem f133_at : Tryz.prog.funcs[199]? = some Tryz.f199 := Tryz.func199
/-- The root of a number that is not below 0, and how far its square is below it. -/
theorem bits_c {a : Nat} (ha : a < 57896044618658097711785492504343953926634992332820282019728792003956564819968) : ∃ R, InvR a R 0 ∧ CallsV Tryz.prog (.func 199) #[yv, pt 1003] (HX a 0 a) (rt undef) (HX a R (a - R * R)) := by
  obtain ⟨L, hL, hlen⟩ := len_c (x := a) (Nat.lt_trans ha (by decide))
  obtain ⟨hup, h128⟩ := isLen_up hL
  have hL256 : L ≤ 256 := by rcases hL with ⟨_, rfl⟩ | ⟨_, h, _⟩ <;> omega
  have st := runS_step mix (it_start a 0 a (Int.ofNat L)) ⟨hlen, trivial⟩
  have e1 : IntKind.i64.wrap (Int.ofNat L + 1) = ((L + 1 : Nat) : Int) := by
    rw [show Int.ofNat L + 1 = ((L + 1 : Nat) : Int) by simp]
    exact wrap_small ⟨by omega, by omega⟩
  have e2 : IntKind.i64.wrap (Int.tdiv ((L + 1 : Nat) : Int) 2) = (((L + 1) / 2 : Nat) : Int) := by
    rw [show Int.tdiv ((L + 1 : Nat) : Int) 2 = (((L + 1) / 2 : Nat) : Int) from rfl]
    exact wrap_small ⟨by omega, by omega⟩
  have e3 : IntKind.i64.wrap ((((L + 1) / 2 : Nat) : Int) - 1) = (((L + 1) / 2 : Nat) : Int) - 1 := wrap_small ⟨by omega, by omega⟩
  rw [e1, e2, e3] at st
  have hinv : InvR a 0 ((L + 1) / 2) := ⟨ha, h128 ha, Nat.zero_mod _, Nat.zero_le _, by rw [Nat.zero_add]; exact hup⟩
  obtain ⟨t', ht⟩ := it_loop (a := a) (.int .i64 (Int.ofNat L)) (.int .i64 ((L + 1 : Nat) : Int)) (.int .i64 (((L + 1) / 2 : Nat) : Int)) (.int .i64 ((((L + 1) / 2 : Nat) : Int) - 1)) ((L + 1) / 2) 0 undef undef undef undef undef undef undef undef hinv
  rw [Nat.zero_mul, Nat.zero_mul, Nat.sub_zero] at ht
  refine ⟨_, InvR.fin _ _ hinv, ?_⟩
  exact callsV_step f133_at body133 (st.seq (StepV.block ht.loop)) rfl (v := undef) rfl (by kernel_rfl) (fun i o h => h) (by kernel_rfl)
/-- extract. -/
theorem extract_z {a : Int} (ha : inR a) (h0 : 0 ≤ a) : ∃ R : Nat, (R * R : Nat) ≤ a.toNat ∧ a.toNat < (R + 1) * (R + 1) ∧ PureX Tryz.prog 141 #[wz a] (rt (xv R (a.toNat - R * R))) := by
  obtain ⟨x, rfl⟩ := Int.eq_ofNat_of_zero_le h0
  have hx : x < 57896044618658097711785492504343953926634992332820282019728792003956564819968 := by unfold inR at ha; omega
  obtain ⟨R, hR, hc⟩ := bits_c hx
  refine ⟨R, hR.low, by have := hR.high; rw [Nat.pow_zero] at this; exact this, ?_⟩
  have hs := sign_z ha
  have hd : decide ((x : Int).sign < 0) = false := by
    rcases (show (x : Int) = 0 ∨ 0 < (x : Int) by omega) with h | h
    · rw [h]; rfl
    · rw [Int.sign_eq_one_of_pos h]; rfl
  rw [← wz_nat] at hs ⊢
  have hr := runA_pure mix (rf_ok x (x : Int).sign) ⟨hs, hd, trivial⟩ rfl rfl
  exact runB_pure mix (ex_raw x R (x - R * R)) ⟨hr, hc, trivial⟩ rfl rfl

end Go.Proofs.YtlioffkonfkflaaGreat

/- The functions of package root. -/
namespace Go.Proofs.YtlioffkonfkflaaGreat
open Go Go.RowKit
set_option linter.unusedSimpArgs false
set_option linter.unusedVariables false

theorem fl_ok (x r l : Nat) : runA Tryz.prog 102 #[wv x] [] [(141, rt (xv r l))] =
    some (rt (tp [wv r, .int .i64 (0)]), [PureX Tryz.prog 141 #[wv x] (rt (xv r l))]) := by kernel_rfl
theorem fl_pan (x : Nat) (v : Int) : runA Tryz.prog 102 #[wv x] [] [(141, errs v)] =
    some (rt (tp [wv 0, .int .i64 (v)]), [PureX Tryz.prog 141 #[wv x] (errs v)]) := by kernel_rfl
theorem ex_pan (x : Nat) (v : Int) : runA Tryz.prog 141 #[wv x] [] [(180, errs v)] =
    some (errs v, [PureX Tryz.prog 180 #[wv x] (errs v)]) := by kernel_rfl
theorem ce_ex (x r l : Nat) : runA Tryz.prog 104 #[wv x] [] [(141, rt (xv r l)), (143, rt (bb (true)))] =
    some (rt (tp [wv r, .int .i64 (0)]), [PureX Tryz.prog 141 #[wv x] (rt (xv r l)), PureX Tryz.prog 143 #[xv r l] (rt (bb (true)))]) := by kernel_rfl
theorem ce_nx (x r l z : Nat) : runA Tryz.prog 104 #[wv x] [] [(141, rt (xv r l)), (143, rt (bb (false))), (144, rt (wv z))] =
    some (rt (tp [wv z, .int .i64 (0)]), [PureX Tryz.prog 141 #[wv x] (rt (xv r l)), PureX Tryz.prog 143 #[xv r l] (rt (bb (false))), PureX Tryz.prog 144 #[wv r] (rt (wv z))]) := by kernel_rfl
theorem ce_pan (x : Nat) (v : Int) : runA Tryz.prog 104 #[wv x] [] [(141, errs v)] =
    some (rt (tp [wv 0, .int .i64 (v)]), [PureX Tryz.prog 141 #[wv x] (errs v)]) := by kernel_rfl
theorem nx_raw (x z y : Nat) (o : Bool) : runA Tryz.prog 144 #[wv x] [] [(78, rt (wv y)), (184, rt (tp [wv z, bb (o)]))] =
    some (rt (wv z), [PureX Tryz.prog 78 #[.int .i64 (1)] (rt (wv y)), PureX Tryz.prog 184 #[wv x, wv y] (rt (tp [wv z, bb (o)]))]) := by kernel_rfl
theorem xe_raw (r l : Nat) : runA Tryz.prog 143 #[xv r l] [] [] =
    some (rt (bb (eqv l 0)), []) := by kernel_rfl
theorem sq_uniq {x R S : Nat} (h1 : R * R ≤ x) (h2 : x < (R + 1) * (R + 1)) (h3 : S * S ≤ x) (h4 : x < (S + 1) * (S + 1)) : R = S := by
  rcases Nat.lt_trichotomy R S with h | h | h
  · have := Nat.mul_le_mul (show R + 1 ≤ S from h) (show R + 1 ≤ S from h)
    omega
  · exact h
  · have := Nat.mul_le_mul (show S + 1 ≤ R from h) (show S + 1 ≤ R from h)
    omega
/-- The whole root. -/
def isq (x : Nat) : Nat := fin x 0 128
theorem isq_ok {x : Nat} (hx : x < 57896044618658097711785492504343953926634992332820282019728792003956564819968) : isq x * isq x ≤ x ∧ x < (isq x + 1) * (isq x + 1) := by
  have h := InvR.fin (a := x) 128 0 ⟨hx, by omega, Nat.zero_mod _, Nat.zero_le _, Nat.lt_trans hx (by decide)⟩
  have h2 := h.high
  rw [Nat.pow_zero] at h2
  exact ⟨h.low, h2⟩
theorem isq_lt {x : Nat} (hx : x < 57896044618658097711785492504343953926634992332820282019728792003956564819968) : isq x < 340282366920938463463374607431768211456 := by
  refine Nat.lt_of_not_le (fun hc => ?_)
  have h2 : 340282366920938463463374607431768211456 * 340282366920938463463374607431768211456 ≤ isq x * isq x := Nat.mul_le_mul hc hc
  have := (isq_ok hx).1
  omega
theorem extr_z {x : Nat} (hx : x < 57896044618658097711785492504343953926634992332820282019728792003956564819968) : PureX Tryz.prog 141 #[wz (x : Int)] (rt (xv (isq x) (x - isq x * isq x))) := by
  obtain ⟨R, h1, h2, h3⟩ := extract_z (a := (x : Int)) (by unfold inR; omega) (by omega)
  rw [show ((x : Int)).toNat = x by omega] at h1 h2 h3
  obtain ⟨k1, k2⟩ := isq_ok hx
  rw [← sq_uniq h1 h2 k1 k2]
  exact h3
theorem ref_pan {a : Int} (ha : inR a) (h : a < 0) : PureX Tryz.prog 180 #[wz a] (errs 2) := by
  have hs := sign_z ha
  rw [Int.sign_eq_neg_one_of_neg h] at hs
  exact runA_pure mix (rf_pan (nz a) (-1)) ⟨hs, rfl, trivial⟩ rfl rfl
theorem ref_ok {a : Int} (ha : inR a) (h : 0 ≤ a) : PureX Tryz.prog 180 #[wz a] (rt undef) := by
  have hs := sign_z ha
  have hd : decide (a.sign < 0) = false := by
    rcases (show a = 0 ∨ 0 < a by omega) with h | h
    · rw [h]; rfl
    · rw [Int.sign_eq_one_of_pos h]; rfl
  exact runA_pure mix (rf_ok (nz a) a.sign) ⟨hs, hd, trivial⟩ rfl rfl
theorem extr_pan {a : Int} (ha : inR a) (h : a < 0) : PureX Tryz.prog 141 #[wz a] (errs 2) := runA_pure mix (ex_pan (nz a) 2) ⟨ref_pan ha h, trivial⟩ rfl rfl
theorem rfl_z {x : Nat} (hx : x < 57896044618658097711785492504343953926634992332820282019728792003956564819968) : PureX Tryz.prog 102 #[wz (x : Int)] (rt (tp [wz (isq x : Int), .int .i64 0])) := by
  have h := extr_z hx
  rw [← wz_nat] at h ⊢
  rw [← wz_nat]
  exact runA_pure mix (fl_ok x (isq x) (x - isq x * isq x)) ⟨h, trivial⟩ rfl rfl
theorem rfl_neg {a : Int} (ha : inR a) (h : a < 0) : PureX Tryz.prog 102 #[wz a] (rt (tp [wz 0, .int .i64 2])) := runA_pure mix (fl_pan (nz a) 2) ⟨extr_pan ha h, trivial⟩ rfl rfl
theorem exact_c {r l : Nat} (hl : l < Mw) : PureX Tryz.prog 143 #[xv r l] (rt (bb (decide (l = 0)))) := by
  have h := runA_pure mix (xe_raw r l) trivial rfl rfl
  rw [eqv_dec, Nat.zero_mod, Nat.mod_eq_of_lt hl] at h
  exact h
theorem next_c {x : Nat} (hx : x < 340282366920938463463374607431768211456) : PureX Tryz.prog 144 #[wv x] (rt (wv (x + 1))) := by
  have h1 := of_z (x := 1) (by decide)
  have h2 := add_z (x := (x : Int)) (y := 1) (by unfold inR; omega) (by decide)
  rw [show (x : Int) + 1 = ((x + 1 : Nat) : Int) by omega, ← wz_nat, ← wz_nat] at h2
  exact runA_pure mix (nx_raw x (x + 1) (nz 1) _) ⟨h1, h2, trivial⟩ rfl rfl
theorem rce_z {x : Nat} (hx : x < 57896044618658097711785492504343953926634992332820282019728792003956564819968) : PureX Tryz.prog 104 #[wz (x : Int)] (rt (tp [wz ((if isq x * isq x = x then isq x else isq x + 1 : Nat) : Int), .int .i64 0])) := by
  have h := extr_z hx
  have he := exact_c (r := isq x) (l := x - isq x * isq x) (by unfold Mw; omega)
  have hlow := (isq_ok hx).1
  rw [← wz_nat] at h ⊢
  rw [← wz_nat]
  by_cases hc : isq x * isq x = x
  · rw [if_pos hc]
    rw [decide_eq_true (by omega)] at he
    exact runA_pure mix (ce_ex x (isq x) (x - isq x * isq x)) ⟨h, he, trivial⟩ rfl rfl
  · rw [if_neg hc]
    rw [decide_eq_false (by omega)] at he
    exact runA_pure mix (ce_nx x (isq x) (x - isq x * isq x) (isq x + 1)) ⟨h, he, next_c (isq_lt hx), trivial⟩ rfl rfl
theorem rce_neg {a : Int} (ha : inR a) (h : a < 0) : PureX Tryz.prog 104 #[wz a] (rt (tp [wz 0, .int .i64 2])) := runA_pure mix (ce_pan (nz a) 2) ⟨extr_pan ha h, trivial⟩ rfl rfl
theorem side_uniq {x y p q : Int} (hp : OnSide (x - y * p) y) (hq : OnSide (x - y * q) y) (h0 : y ≠ 0) : p = q := by
  have key : ∀ d : Int, 1 ≤ d → y.natAbs ≤ (y * d).natAbs := fun d hd => by
    rw [Int.natAbs_mul]
    exact Nat.le_mul_of_pos_right _ (by omega)
  have e : (x - y * p) - (x - y * q) = y * (q - p) := by rw [Int.mul_sub]; omega
  rcases Int.lt_trichotomy p q with h | h | h
  · have k := key (q - p) (by omega)
    rw [← e] at k
    unfold OnSide at hp hq
    omega
  · exact h
  · have k := key (p - q) (by omega)
    have e2 : y * (p - q) = -((x - y * p) - (x - y * q)) := by rw [e, ← Int.mul_neg]; congr 1; omega
    rw [e2] at k
    unfold OnSide at hp hq
    omega
theorem flI_nat {x y : Nat} (hy : 0 < y) : flI (x : Int) (y : Int) = ((x / y : Nat) : Int) := by
  have h := flI_side (x := (x : Int)) (y := (y : Int)) (by omega)
  refine side_uniq (x := (x : Int)) (y := (y : Int)) h ?_ (by omega)
  have e : (x : Int) - (y : Int) * ((x / y : Nat) : Int) = ((x % y : Nat) : Int) := by
    have := Nat.div_add_mod x y
    have h2 : ((y * (x / y) + x % y : Nat) : Int) = (x : Int) := by rw [this]
    rw [Int.natCast_add, Int.natCast_mul] at h2
    omega
  rw [e]
  have := Nat.mod_lt x hy
  exact .inl ⟨by omega, by omega⟩
theorem nat_in {x : Nat} (hx : x < 57896044618658097711785492504343953926634992332820282019728792003956564819968) : inR (x : Int) ∧ (x : Int) ≠ least := by
  have : (x : Int) ≠ -57896044618658097711785492504343953926634992332820282019728792003956564819968 := by omega
  exact ⟨by unfold inR; omega, this⟩
theorem isq_is {x R : Nat} (hx : x < 57896044618658097711785492504343953926634992332820282019728792003956564819968) (h1 : R * R ≤ x) (h2 : x < (R + 1) * (R + 1)) : isq x = R := sq_uniq (isq_ok hx).1 (isq_ok hx).2 h1 h2
end Go.Proofs.YtlioffkonfkflaaGreat
