/- Numbers lifted and lowered by some bits: what they come to. -/
import Derived.Test.YtpbhoamojocbpaaD8
import Derived.Test.YtpbhoamojocbpaaD8w
namespace Go.Proofs.Ytpbhoamojocbpaa
open Go Go.RowKit
set_option linter.unusedSimpArgs false
set_option linter.unusedVariables false

/-- Words, in a row. -/
def V5 (l : List Nat) : Value := .agg ⟨l.map u⟩
def loW (x s : Nat) : Nat := 2 ^ s * (x % 2 ^ (64 - s))
def hiW (x s : Nat) : Nat := x / 2 ^ (64 - s)
theorem lohi (x s : Nat) (hs : s < 64) : loW x s + hiW x s * 18446744073709551616 = x * 2 ^ s := split_word x s hs
theorem hi_lt {x s : Nat} (hx : x < 18446744073709551616) (hs : s < 64) : hiW x s < 2 ^ s := by
  unfold hiW
  rw [Nat.div_lt_iff_lt_mul (Nat.pow_pos (by omega)), ← Nat.pow_add, show s + (64 - s) = 64 by omega]
  exact hx
theorem two_le {s : Nat} (hs : s < 64) : 2 ^ s ≤ 9223372036854775808 := by
  have : (2 : Nat) ^ s ≤ 2 ^ 63 := Nat.pow_le_pow_right (by omega) (by omega)
  exact this
theorem fdiv_nat (x k : Nat) : Int.fdiv (Int.ofNat x) (2 ^ k) = ((x / 2 ^ k : Nat) : Int) := by
  have e : ((2 : Int) ^ k) = ((2 ^ k : Nat) : Int) := by simp
  rw [e, Int.fdiv_eq_ediv_of_nonneg _ (Int.natCast_nonneg _)]
  rfl
theorem lif1_eq {x y s : Nat} (hx : x < 18446744073709551616) (hy : y < 18446744073709551616) (hs : s < 64) : lif1 x y s = u (hiW x s + loW y s) := by
  unfold lif1 u
  congr 1
  rw [fdiv_nat]
  have h1 : x / 2 ^ (64 - s) < 2 ^ s := hi_lt hx hs
  have := shl_or y (x / 2 ^ (64 - s)) s hy (Nat.lt_of_le_of_lt (Nat.div_le_self _ _) hx)
  exact this.trans (congrArg Int.ofNat (or_parts hs h1))
theorem lif0_eq {y s : Nat} (hy : y < 18446744073709551616) (hs : s < 64) : Value.int .u64 (bits BinOp.or IntKind.u64 0 (IntKind.u64.wrap (Int.ofNat y * 2 ^ s))) = u (loW y s) := by
  unfold u
  congr 1
  have := shl_or y 0 s hy (by omega)
  refine this.trans (congrArg Int.ofNat ?_)
  rw [or_parts hs (Nat.pow_pos (by omega)), Nat.zero_add]
  rfl
theorem low1_eq {x y s : Nat} (hx : x < 18446744073709551616) (hy : y < 18446744073709551616) (hs : s < 64) : ∃ z, low1 x y s = u z ∧ z < 18446744073709551616 ∧ 2 ^ s * z + x % 2 ^ s = x + y % 2 ^ s * 18446744073709551616 := by
  have hp : (0 : Nat) < 2 ^ s := Nat.pow_pos (by omega)
  have e : (18446744073709551616 : Nat) = 2 ^ s * 2 ^ (64 - s) := by rw [← Nat.pow_add, show s + (64 - s) = 64 by omega]
  refine ⟨x / 2 ^ s ||| y * 2 ^ (64 - s) % 18446744073709551616, ?_, Nat.or_lt_two_pow (n := 64) (Nat.lt_of_le_of_lt (Nat.div_le_self _ _) hx) (Nat.mod_lt _ (by omega)), ?_⟩
  · unfold low1 u
    congr 1
    rw [fdiv_nat]
    exact shl_or y (x / 2 ^ s) (64 - s) hy (Nat.lt_of_le_of_lt (Nat.div_le_self _ _) hx)
  · have hm : x = 2 ^ s * (x / 2 ^ s) + x % 2 ^ s := (Nat.div_add_mod _ _).symm
    have key : x / 2 ^ s ||| y * 2 ^ (64 - s) % 18446744073709551616 = x / 2 ^ s + 2 ^ (64 - s) * (y % 2 ^ s) := by
      by_cases h0 : s = 0
      · subst h0
        rw [Nat.pow_zero, Nat.div_one, show (64 - 0 : Nat) = 64 from rfl, show (2 : Nat) ^ 64 = 18446744073709551616 from rfl, Nat.mul_mod_left, Nat.or_zero, Nat.mod_one, Nat.mul_zero, Nat.add_zero]
      · have h1 := or_parts (x := y) (y := x / 2 ^ s) (s := 64 - s) (by omega) (by rw [Nat.div_lt_iff_lt_mul hp, Nat.mul_comm, ← e]; exact hx)
        rw [h1, show 64 - (64 - s) = s by omega]
    rw [key, Nat.mul_add, ← Nat.mul_assoc, ← e, Nat.mul_comm (y % 2 ^ s)]
    omega

theorem W4_words {x : Nat} : ∃ a b c d, wv x = W4 a b c d ∧ a < 18446744073709551616 ∧ b < 18446744073709551616 ∧ c < 18446744073709551616 ∧ d < 18446744073709551616 ∧ nvl [a, b, c, d] = x % Mw := by
  obtain ⟨a, b, c, d, ha, hb, hc, hd, e, e2, -⟩ := vl_wv x
  refine ⟨a, b, c, d, e2, ha, hb, hc, hd, ?_⟩
  rw [← e]
  rfl
theorem wv_nvl {a b c d : Nat} (ha : a < 18446744073709551616) (hb : b < 18446744073709551616) (hc : c < 18446744073709551616) (hd : d < 18446744073709551616) : wv (nvl [a, b, c, d]) = W4 a b c d := by
  rw [← wv_vl ha hb hc hd]
  congr 1

theorem lift_sum {l0 l1 l2 l3 h0 h1 h2 h3 p x0 x1 x2 x3 : Nat} (e0 : l0 + h0 * 18446744073709551616 = x0 * p) (e1 : l1 + h1 * 18446744073709551616 = x1 * p) (e2 : l2 + h2 * 18446744073709551616 = x2 * p) (e3 : l3 + h3 * 18446744073709551616 = x3 * p) :
    nvl [l0, h0 + l1, h1 + l2, h2 + l3, h3] = nvl [x0, x1, x2, x3] * p := by
  simp only [nvl, Nat.mul_zero, Nat.add_zero]
  rw [Nat.add_mul, Nat.mul_assoc, Nat.add_mul, Nat.mul_assoc, Nat.add_mul, Nat.mul_assoc, ← e0, ← e1, ← e2, ← e3]
  omega

/-- A number, lifted by some bits, in five words. -/
theorem lifted_c {x s : Nat} (hx : x < Mw) (hs : s < 64) : PureX Try.prog 124 #[wv x, .int .i64 (Int.ofNat s)] (rt (V5 (ws 5 (x * 2 ^ s)))) ∧ x * 2 ^ s < 18446744073709551616 ^ 5 := by
  obtain ⟨a, b, c, d, e, ha, hb, hc, hd, hv⟩ := W4_words (x := x)
  rw [Nat.mod_eq_of_lt hx] at hv
  have h := runA_pure mix (lf_raw a b c d s hs) trivial rfl rfl
  have hsum := lift_sum (lohi a s hs) (lohi b s hs) (lohi c s hs) (lohi d s hs)
  have t := two_le hs
  have g : ∀ {z}, z < 18446744073709551616 → hiW z s < 2 ^ s := fun hz => hi_lt hz hs
  have lo : ∀ z, loW z s + 2 ^ s ≤ 18446744073709551616 := fun z => by
    unfold loW
    have e : (18446744073709551616 : Nat) = 2 ^ s * 2 ^ (64 - s) := by rw [← Nat.pow_add, show s + (64 - s) = 64 by omega]
    have h1 : z % 2 ^ (64 - s) + 1 ≤ 2 ^ (64 - s) := Nat.mod_lt _ (Nat.pow_pos (by omega))
    have h2 := Nat.mul_le_mul_left (2 ^ s) h1
    rw [Nat.mul_add, Nat.mul_one, ← e] at h2
    exact h2
  have hsm : sm64 [loW a s, hiW a s + loW b s, hiW b s + loW c s, hiW c s + loW d s, hiW d s] := by
    have a1 := g ha; have b1 := g hb; have c1 := g hc; have d1 := g hd
    have l0 := lo a; have l1 := lo b; have l2 := lo c; have l3 := lo d
    exact sm_cons (by omega) (sm_cons (by omega) (sm_cons (by omega) (sm_cons (by omega) (sm_cons (by omega) sm_nil))))
  have hlt := nvl_lt _ hsm
  have hw := ws_nvl _ hsm
  rw [hsum, hv] at hlt hw
  refine ⟨?_, hlt⟩
  rw [lif0_eq ha hs, lif1_eq ha hb hs, lif1_eq hb hc hs, lif1_eq hc hd hs, fdiv_nat] at h
  rw [e]
  have hw' : ws 5 (x * 2 ^ s) = [loW a s, hiW a s + loW b s, hiW b s + loW c s, hiW c s + loW d s, hiW d s] := hw
  rw [hw']
  exact h

theorem low_sum {p z0 z1 z2 z3 a0 a1 a2 a3 r0 r1 r2 r3 r4 : Nat} (e0 : p * z0 + r0 = a0 + r1 * 18446744073709551616) (e1 : p * z1 + r1 = a1 + r2 * 18446744073709551616) (e2 : p * z2 + r2 = a2 + r3 * 18446744073709551616) (e3 : p * z3 + r3 = a3 + r4 * 18446744073709551616) :
    p * nvl [z0, z1, z2, z3] + r0 = nvl [a0, a1, a2, a3, r4] := by
  simp only [nvl, Nat.mul_zero, Nat.add_zero]
  have k : ∀ A B, p * (A + 18446744073709551616 * B) = p * A + 18446744073709551616 * (p * B) := fun A B => by rw [Nat.mul_add, Nat.mul_left_comm]
  rw [k, k, k]
  omega
/-- .. and lowered. -/
theorem lowered_c {r s : Nat} (hr : r < Mw) (hs : s < 64) : PureX Try.prog 127 #[V5 (ws 5 (r * 2 ^ s)), .int .i64 (Int.ofNat s)] (rt (wv r)) := by
  have hlt := (lifted_c hr hs).2
  have hsm := ws_sm 5 (r * 2 ^ s)
  have hv := nvl_ws 5 _ hlt
  obtain ⟨a0, a1, a2, a3, a4, hw⟩ : ∃ a0 a1 a2 a3 a4, ws 5 (r * 2 ^ s) = [a0, a1, a2, a3, a4] := ⟨_, _, _, _, _, rfl⟩
  rw [hw] at hsm hv ⊢
  have h := runA_pure mix (lw_raw a0 a1 a2 a3 a4 s hs) trivial rfl rfl
  have g0 := hsm a0 (by simp); have g1 := hsm a1 (by simp); have g2 := hsm a2 (by simp); have g3 := hsm a3 (by simp); have g4 := hsm a4 (by simp)
  obtain ⟨z0, f0, k0, e0⟩ := low1_eq g0 g1 hs
  obtain ⟨z1, f1, k1, e1⟩ := low1_eq g1 g2 hs
  obtain ⟨z2, f2, k2, e2⟩ := low1_eq g2 g3 hs
  obtain ⟨z3, f3, k3, e3⟩ := low1_eq g3 g4 hs
  rw [f0, f1, f2, f3] at h
  have hp : (0 : Nat) < 2 ^ s := Nat.pow_pos (by omega)
  have e4 : a0 % 2 ^ s = 0 := by
    have h1 : a0 = (r * 2 ^ s) % 18446744073709551616 := by
      have := congrArg (fun l : List Nat => l.headD 0) hw
      exact this.symm
    have e : (18446744073709551616 : Nat) = 2 ^ s * 2 ^ (64 - s) := by rw [← Nat.pow_add, show s + (64 - s) = 64 by omega]
    rw [h1, e, Nat.mul_comm r, Nat.mul_mod_mul_left, Nat.mul_mod_right]
  have h5 : a4 < 2 ^ s := by
    have h6 : nvl [a0, a1, a2, a3] + 18446744073709551616 ^ 4 * a4 = r * 2 ^ s := by
      rw [← hv]
      simp only [nvl, Nat.mul_zero, Nat.add_zero]
      omega
    have h7 : r * 2 ^ s < 18446744073709551616 ^ 4 * 2 ^ s := Nat.mul_lt_mul_of_pos_right (show r < 18446744073709551616 ^ 4 from hr) hp
    refine Nat.lt_of_not_le (fun h8 => ?_)
    have := Nat.mul_le_mul_left (18446744073709551616 ^ 4) h8
    omega
  have hs' := low_sum e0 e1 e2 e3
  rw [Nat.mod_eq_of_lt h5, hv, e4, Nat.add_zero, Nat.mul_comm r] at hs'
  have hz : nvl [z0, z1, z2, z3] = r := Nat.eq_of_mul_eq_mul_left hp hs'
  rw [← hz, wv_nvl k0 k1 k2 k3]
  exact h

end Go.Proofs.Ytpbhoamojocbpaa
