/- Texts of the seat, joined. -/
import Derived.Test.YtcmfgabhgodlaaaGreatDoorZz11
import Derived.Test.YtcmfgabhgodlaaaGreatDoorZz12
import Derived.Test.YtcmfgabhgodlaaaGreatDoorZz6
import Derived.Test.YtcmfgabhgodlaaaGreatDoorZz4
/- Numbers lifted and lowered by some bits: what they come to. -/
namespace Go.Proofs.YtcmfgabhgodlaaaGreatDoor
open Go Go.RowKit
set_option linter.unusedSimpArgs false
set_option linter.unusedVariables false

/-- Words, in a row. -/
def V5 (l : List Nat) : Value := .agg ⟨l.map u⟩
def loW (x s : Nat) : Nat := 2 ^ s * (x % 2 ^ (64 - s))
def hiW (x s : Nat) : Nat := x / 2 ^ (64 - s)
theorem lohi (x s : Nat) (hs : s < 64) : loW x s + hiW x s * 18446744073709551616 = x * 2 ^ s := split_word x s hs
theorem hi_lt {x s : Nat} (hx : x < 18446744073709551616) (hs : s < 64) : hiW x s < 2 ^ s := by
  unfold hiW
  rw [Nat.div_lt_iff_lt_mul (Nat.pow_pos (by omega)), ← Nat.pow_add, show s + (64 - s) = 64 by omega]
  exact hx
theorem two_le {s : Nat} (hs : s < 64) : 2 ^ s ≤ 9223372036854775808 := by
  have : (2 : Nat) ^ s ≤ 2 ^ 63 := Nat.pow_le_pow_right (by omega) (by omega)
  exact this
theorem fdiv_nat (x k : Nat) : Int.fdiv (Int.ofNat x) (2 ^ k) = ((x / 2 ^ k : Nat) : Int) := by
  have e : ((2 : Int) ^ k) = ((2 ^ k : Nat) : Int) := by simp
  rw [e, Int.fdiv_eq_ediv_of_nonneg _ (Int.natCast_nonneg _)]
  rfl
theorem lif1_eq {x y s : Nat} (hx : x < 18446744073709551616) (hy : y < 18446744073709551616) (hs : s < 64) : lif1 x y s = u (hiW x s + loW y s) := by
  unfold lif1 u
  congr 1
  rw [fdiv_nat]
  have h1 : x / 2 ^ (64 - s) < 2 ^ s := hi_lt hx hs
  have := shl_or y (x / 2 ^ (64 - s)) s hy (Nat.lt_of_le_of_lt (Nat.div_le_self _ _) hx)
  exact this.trans (congrArg Int.ofNat (or_parts hs h1))
theorem lif0_eq {y s : Nat} (hy : y < 18446744073709551616) (hs : s < 64) : Value.int .u64 (bits BinOp.or IntKind.u64 0 (IntKind.u64.wrap (Int.ofNat y * 2 ^ s))) = u (loW y s) := by
  unfold u
  congr 1
  have := shl_or y 0 s hy (by omega)
  refine this.trans (congrArg Int.ofNat ?_)
  rw [or_parts hs (Nat.pow_pos (by omega)), Nat.zero_add]
  rfl
theorem low1_eq {x y s : Nat} (hx : x < 18446744073709551616) (hy : y < 18446744073709551616) (hs : s < 64) : ∃ z, low1 x y s = u z ∧ z < 18446744073709551616 ∧ 2 ^ s * z + x % 2 ^ s = x + y % 2 ^ s * 18446744073709551616 := by
  have hp : (0 : Nat) < 2 ^ s := Nat.pow_pos (by omega)
  have e : (18446744073709551616 : Nat) = 2 ^ s * 2 ^ (64 - s) := by rw [← Nat.pow_add, show s + (64 - s) = 64 by omega]
  refine ⟨x / 2 ^ s ||| y * 2 ^ (64 - s) % 18446744073709551616, ?_, Nat.or_lt_two_pow (n := 64) (Nat.lt_of_le_of_lt (Nat.div_le_self _ _) hx) (Nat.mod_lt _ (by omega)), ?_⟩
  · unfold low1 u
    congr 1
    rw [fdiv_nat]
    exact shl_or y (x / 2 ^ s) (64 - s) hy (Nat.lt_of_le_of_lt (Nat.div_le_self _ _) hx)
  · have hm : x = 2 ^ s * (x / 2 ^ s) + x % 2 ^ s := (Nat.div_add_mod _ _).symm
    have key : x / 2 ^ s ||| y * 2 ^ (64 - s) % 18446744073709551616 = x / 2 ^ s + 2 ^ (64 - s) * (y % 2 ^ s) := by
      by_cases h0 : s = 0
      · subst h0
        rw [Nat.pow_zero, Nat.div_one, show (64 - 0 : Nat) = 64 from rfl, show (2 : Nat) ^ 64 = 18446744073709551616 from rfl, Nat.mul_mod_left, Nat.or_zero, Nat.mod_one, Nat.mul_zero, Nat.add_zero]
      · have h1 := or_parts (x := y) (y := x / 2 ^ s) (s := 64 - s) (by omega) (by rw [Nat.div_lt_iff_lt_mul hp, Nat.mul_comm, ← e]; exact hx)
        rw [h1, show 64 - (64 - s) = s by omega]
    rw [key, Nat.mul_add, ← Nat.mul_assoc, ← e, Nat.mul_comm (y % 2 ^ s)]
    omega

theorem W4_words {x : Nat} : ∃ a b c d, wv x = W4 a b c d ∧ a < 18446744073709551616 ∧ b < 18446744073709551616 ∧ c < 18446744073709551616 ∧ d < 18446744073709551616 ∧ nvl [a, b, c, d] = x % Mw := by
  obtain ⟨a, b, c, d, ha, hb, hc, hd, e, e2, -⟩ := vl_wv x
  refine ⟨a, b, c, d, e2, ha, hb, hc, hd, ?_⟩
  rw [← e]
  rfl
theorem wv_nvl {a b c d : Nat} (ha : a < 18446744073709551616) (hb : b < 18446744073709551616) (hc : c < 18446744073709551616) (hd : d < 18446744073709551616) : wv (nvl [a, b, c, d]) = W4 a b c d := by
  rw [← wv_vl ha hb hc hd]
  congr 1

theorem lift_sum {l0 l1 l2 l3 h0 h1 h2 h3 p x0 x1 x2 x3 : Nat} (e0 : l0 + h0 * 18446744073709551616 = x0 * p) (e1 : l1 + h1 * 18446744073709551616 = x1 * p) (e2 : l2 + h2 * 18446744073709551616 = x2 * p) (e3 : l3 + h3 * 18446744073709551616 = x3 * p) :
    nvl [l0, h0 + l1, h1 + l2, h2 + l3, h3] = nvl [x0, x1, x2, x3] * p := by
  simp only [nvl, Nat.mul_zero, Nat.add_zero]
  rw [Nat.add_mul, Nat.mul_assoc, Nat.add_mul, Nat.mul_assoc, Nat.add_mul, Nat.mul_assoc, ← e0, ← e1, ← e2, ← e3]
  omega

/-- A number, lifted by some bits, in five words. -/
theorem lifted_c {x s : Nat} (hx : x < Mw) (hs : s < 64) : PureX Tryz.prog 110 #[wv x, .int .i64 (Int.ofNat s)] (rt (V5 (ws 5 (x * 2 ^ s)))) ∧ x * 2 ^ s < 18446744073709551616 ^ 5 := by
  obtain ⟨a, b, c, d, e, ha, hb, hc, hd, hv⟩ := W4_words (x := x)
  rw [Nat.mod_eq_of_lt hx] at hv
  have h := runA_pure mix (lf_raw a b c d s hs) trivial rfl rfl
  have hsum := lift_sum (lohi a s hs) (lohi b s hs) (lohi c s hs) (lohi d s hs)
  have t := two_le hs
  have g : ∀ {z}, z < 18446744073709551616 → hiW z s < 2 ^ s := fun hz => hi_lt hz hs
  have lo : ∀ z, loW z s + 2 ^ s ≤ 18446744073709551616 := fun z => by
    unfold loW
    have e : (18446744073709551616 : Nat) = 2 ^ s * 2 ^ (64 - s) := by rw [← Nat.pow_add, show s + (64 - s) = 64 by omega]
    have h1 : z % 2 ^ (64 - s) + 1 ≤ 2 ^ (64 - s) := Nat.mod_lt _ (Nat.pow_pos (by omega))
    have h2 := Nat.mul_le_mul_left (2 ^ s) h1
    rw [Nat.mul_add, Nat.mul_one, ← e] at h2
    exact h2
  have hsm : sm64 [loW a s, hiW a s + loW b s, hiW b s + loW c s, hiW c s + loW d s, hiW d s] := by
    have a1 := g ha; have b1 := g hb; have c1 := g hc; have d1 := g hd
    have l0 := lo a; have l1 := lo b; have l2 := lo c; have l3 := lo d
    exact sm_cons (by omega) (sm_cons (by omega) (sm_cons (by omega) (sm_cons (by omega) (sm_cons (by omega) sm_nil))))
  have hlt := nvl_lt _ hsm
  have hw := ws_nvl _ hsm
  rw [hsum, hv] at hlt hw
  refine ⟨?_, hlt⟩
  rw [lif0_eq ha hs, lif1_eq ha hb hs, lif1_eq hb hc hs, lif1_eq hc hd hs, fdiv_nat] at h
  rw [e]
  have hw' : ws 5 (x * 2 ^ s) = [loW a s, hiW a s + loW b s, hiW b s + loW c s, hiW c s + loW d s, hiW d s] := hw
  rw [hw']
  exact h

theorem low_sum {p z0 z1 z2 z3 a0 a1 a2 a3 r0 r1 r2 r3 r4 : Nat} (e0 : p * z0 + r0 = a0 + r1 * 18446744073709551616) (e1 : p * z1 + r1 = a1 + r2 * 18446744073709551616) (e2 : p * z2 + r2 = a2 + r3 * 18446744073709551616) (e3 : p * z3 + r3 = a3 + r4 * 18446744073709551616) :
    p * nvl [z0, z1, z2, z3] + r0 = nvl [a0, a1, a2, a3, r4] := by
  simp only [nvl, Nat.mul_zero, Nat.add_zero]
  have k : ∀ A B, p * (A + 18446744073709551616 * B) = p * A + 18446744073709551616 * (p * B) := fun A B => by rw [Nat.mul_add, Nat.mul_left_comm]
  rw [k, k, k]
  omega
/-- .. and lowered. -/
theorem lowered_c {r s : Nat} (hr : r < Mw) (hs : s < 64) : PureX Tryz.prog 113 #[V5 (ws 5 (r * 2 ^ s)), .int .i64 (Int.ofNat s)] (rt (wv r)) := by
  have hlt := (lifted_c hr hs).2
  have hsm := ws_sm 5 (r * 2 ^ s)
  have hv := nvl_ws 5 _ hlt
  obtain ⟨a0, a1, a2, a3, a4, hw⟩ : ∃ a0 a1 a2 a3 a4, ws 5 (r * 2 ^ s) = [a0, a1, a2, a3, a4] := ⟨_, _, _, _, _, rfl⟩
  rw [hw] at hsm hv ⊢
  have h := runA_pure mix (lw_raw a0 a1 a2 a3 a4 s hs) trivial rfl rfl
  have g0 := hsm a0 (by simp); have g1 := hsm a1 (by simp); have g2 := hsm a2 (by simp); have g3 := hsm a3 (by simp); have g4 := hsm a4 (by simp)
  obtain ⟨z0, f0, k0, e0⟩ := low1_eq g0 g1 hs
  obtain ⟨z1, f1, k1, e1⟩ := low1_eq g1 g2 hs
  obtain ⟨z2, f2, k2, e2⟩ := low1_eq g2 g3 hs
  obtain ⟨z3, f3, k3, e3⟩ := low1_eq g3 g4 hs
  rw [f0, f1, f2, f3] at h
  have hp : (0 : Nat) < 2 ^ s := Nat.pow_pos (by omega)
  have e4 : a0 % 2 ^ s = 0 := by
    have h1 : a0 = (r * 2 ^ s) % 18446744073709551616 := by
      have := congrArg (fun l : List Nat => l.headD 0) hw
      exact this.symm
    have e : (18446744073709551616 : Nat) = 2 ^ s * 2 ^ (64 - s) := by rw [← Nat.pow_add, show s + (64 - s) = 64 by omega]
    rw [h1, e, Nat.mul_comm r, Nat.mul_mod_mul_left, Nat.mul_mod_right]
  have h5 : a4 < 2 ^ s := by
    have h6 : nvl [a0, a1, a2, a3] + 18446744073709551616 ^ 4 * a4 = r * 2 ^ s := by
      rw [← hv]
      simp only [nvl, Nat.mul_zero, Nat.add_zero]
      omega
    have h7 : r * 2 ^ s < 18446744073709551616 ^ 4 * 2 ^ s := Nat.mul_lt_mul_of_pos_right (show r < 18446744073709551616 ^ 4 from hr) hp
    refine Nat.lt_of_not_le (fun h8 => ?_)
    have := Nat.mul_le_mul_left (18446744073709551616 ^ 4) h8
    omega
  have hs' := low_sum e0 e1 e2 e3
  rw [Nat.mod_eq_of_lt h5, hv, e4, Nat.add_zero, Nat.mul_comm r] at hs'
  have hz : nvl [z0, z1, z2, z3] = r := Nat.eq_of_mul_eq_mul_left hp hs'
  rw [← hz, wv_nvl k0 k1 k2 k3]
  exact h

end Go.Proofs.YtcmfgabhgodlaaaGreatDoor

/- The order of wide numbers, as the program tells it. -/
namespace Go.Proofs.YtcmfgabhgodlaaaGreatDoor
open Go Go.RowKit
set_option linter.unusedSimpArgs false
set_option linter.unusedVariables false

def liftW (n : Nat) : Nat := if 9223372036854775808 ≤ n then n - 9223372036854775808 else n + 9223372036854775808
theorem xor_top (a : Nat) (ha : a < 18446744073709551616) : bits BinOp.xor IntKind.u64 (a : Int) 9223372036854775808 = (liftW a : Int) := by
  have h := bits_xor_u64_nat a 9223372036854775808 ha (by omega)
  have e : bits BinOp.xor IntKind.u64 (a : Int) 9223372036854775808 = ((a ^^^ 9223372036854775808 : Nat) : Int) := h
  rw [e]
  congr 1
  have h2 : a ^^^ 9223372036854775808 = liftW a := by
    have m1 : (a ^^^ 2 ^ 63) % 2 ^ 63 = a % 2 ^ 63 ^^^ 2 ^ 63 % 2 ^ 63 := Nat.xor_mod_two_pow
    have m2 : (a ^^^ 2 ^ 63) / 2 ^ 63 = a / 2 ^ 63 ^^^ 2 ^ 63 / 2 ^ 63 := Nat.xor_div_two_pow
    rw [show (2 : Nat) ^ 63 % 2 ^ 63 = 0 from rfl, Nat.xor_zero] at m1
    rw [show (2 : Nat) ^ 63 / 2 ^ 63 = 1 from rfl] at m2
    have h3 : a / 2 ^ 63 = 0 ∨ a / 2 ^ 63 = 1 := by omega
    rw [show (2 : Nat) ^ 63 = 9223372036854775808 from rfl] at m1 m2 h3
    generalize a ^^^ 9223372036854775808 = x at *
    unfold liftW
    rcases h3 with h3 | h3
    · rw [h3, show (0 ^^^ 1 : Nat) = 1 from rfl] at m2
      rw [if_neg (by omega)]
      omega
    · rw [h3, show (1 ^^^ 1 : Nat) = 0 from rfl] at m2
      rw [if_pos (by omega)]
      omega
  exact h2

theorem cp_raw_lt (x y : Nat) : runA Tryz.prog 66 #[u x, u y] [f, f, t] [] = some (rt (.int .i64 (-1)), [(Int.ofNat x != Int.ofNat x) = false, (Int.ofNat y != Int.ofNat y) = false, decide (Int.ofNat x < Int.ofNat y) = true]) := by kernel_rfl
theorem cp_raw_gt (x y : Nat) : runA Tryz.prog 66 #[u x, u y] [f, f, f, t] [] = some (rt (.int .i64 1), [(Int.ofNat x != Int.ofNat x) = false, (Int.ofNat y != Int.ofNat y) = false, decide (Int.ofNat x < Int.ofNat y) = false, decide (Int.ofNat y < Int.ofNat x) = true]) := by kernel_rfl
theorem lf4_raw (x0 x1 x2 x3 : Nat) : runA Tryz.prog 64 #[W4 x0 x1 x2 x3] [] [] = some (rt (.agg #[u x0, u x1, u x2, .int .u64 (bits BinOp.xor IntKind.u64 (Int.ofNat x3) 9223372036854775808)]), []) := by kernel_rfl
/-- The order of two words that are not the same. -/
theorem cp_c {x y : Nat} (h : x ≠ y) : PureX Tryz.prog 66 #[u x, u y] (rt (.int .i64 ((x : Int) - y).sign)) := by
  have e : ∀ z : Int, (z != z) = false := fun z => by simp
  rcases Nat.lt_or_gt_of_ne h with h | h
  · rw [show ((x : Int) - y).sign = -1 from Int.sign_eq_neg_one_of_neg (by omega)]
    exact runA_pure mix (cp_raw_lt x y) ⟨e _, e _, decide_eq_true (show (x : Int) < (y : Int) by omega), trivial⟩ rfl rfl
  · rw [show ((x : Int) - y).sign = 1 from Int.sign_eq_one_of_pos (by omega)]
    exact runA_pure mix (cp_raw_gt x y) ⟨e _, e _, decide_eq_false (show ¬ (x : Int) < (y : Int) by omega), decide_eq_true (show (y : Int) < (x : Int) by omega), trivial⟩ rfl rfl
theorem lf4_c {x0 x1 x2 x3 : Nat} (h : x3 < 18446744073709551616) : PureX Tryz.prog 64 #[W4 x0 x1 x2 x3] (rt (W4 x0 x1 x2 (liftW x3))) := by
  have := runA_pure mix (lf4_raw x0 x1 x2 x3) trivial rfl rfl
  rw [show bits BinOp.xor IntKind.u64 (Int.ofNat x3) 9223372036854775808 = Int.ofNat (liftW x3) from xor_top x3 h] at this
  exact this

theorem cm_0 (a0 a1 a2 a3 b0 b1 b2 b3 x0 x1 x2 x3 y0 y1 y2 y3 : Nat) : runA Tryz.prog 46 #[W4 a0 a1 a2 a3, W4 b0 b1 b2 b3] [n, f, n, n, f, n, n, f, n, n, f, n, n] [(64, rt (W4 y0 y1 y2 y3)), (64, rt (W4 x0 x1 x2 x3))] = some (rt (.int .i64 0), [PureX Tryz.prog 64 #[W4 b0 b1 b2 b3] (rt (W4 y0 y1 y2 y3)), PureX Tryz.prog 64 #[W4 a0 a1 a2 a3] (rt (W4 x0 x1 x2 x3)), (Int.ofNat x0 != Int.ofNat y0) = false, (Int.ofNat x1 != Int.ofNat y1) = false, (Int.ofNat x2 != Int.ofNat y2) = false, (Int.ofNat x3 != Int.ofNat y3) = false]) := by kernel_rfl
theorem cm_1 (a0 a1 a2 a3 b0 b1 b2 b3 x0 x1 x2 x3 y0 y1 y2 y3 : Nat) (c0 : Int) : runA Tryz.prog 46 #[W4 a0 a1 a2 a3, W4 b0 b1 b2 b3] [n, t, n, n, f, n, n, f, n, n, f, n, n] [(64, rt (W4 y0 y1 y2 y3)), (64, rt (W4 x0 x1 x2 x3)), (66, rt (.int .i64 c0))] = some (rt (.int .i64 c0), [PureX Tryz.prog 64 #[W4 b0 b1 b2 b3] (rt (W4 y0 y1 y2 y3)), PureX Tryz.prog 64 #[W4 a0 a1 a2 a3] (rt (W4 x0 x1 x2 x3)), (Int.ofNat x0 != Int.ofNat y0) = true, PureX Tryz.prog 66 #[u x0, u y0] (rt (.int .i64 c0)), (Int.ofNat x1 != Int.ofNat y1) = false, (Int.ofNat x2 != Int.ofNat y2) = false, (Int.ofNat x3 != Int.ofNat y3) = false]) := by kernel_rfl
theorem cm_2 (a0 a1 a2 a3 b0 b1 b2 b3 x0 x1 x2 x3 y0 y1 y2 y3 : Nat) (c1 : Int) : runA Tryz.prog 46 #[W4 a0 a1 a2 a3, W4 b0 b1 b2 b3] [n, f, n, n, t, n, n, f, n, n, f, n, n] [(64, rt (W4 y0 y1 y2 y3)), (64, rt (W4 x0 x1 x2 x3)), (66, rt (.int .i64 c1))] = some (rt (.int .i64 c1), [PureX Tryz.prog 64 #[W4 b0 b1 b2 b3] (rt (W4 y0 y1 y2 y3)), PureX Tryz.prog 64 #[W4 a0 a1 a2 a3] (rt (W4 x0 x1 x2 x3)), (Int.ofNat x0 != Int.ofNat y0) = false, (Int.ofNat x1 != Int.ofNat y1) = true, PureX Tryz.prog 66 #[u x1, u y1] (rt (.int .i64 c1)), (Int.ofNat x2 != Int.ofNat y2) = false, (Int.ofNat x3 != Int.ofNat y3) = false]) := by kernel_rfl
theorem cm_3 (a0 a1 a2 a3 b0 b1 b2 b3 x0 x1 x2 x3 y0 y1 y2 y3 : Nat) (c0 c1 : Int) : runA Tryz.prog 46 #[W4 a0 a1 a2 a3, W4 b0 b1 b2 b3] [n, t, n, n, t, n, n, f, n, n, f, n, n] [(64, rt (W4 y0 y1 y2 y3)), (64, rt (W4 x0 x1 x2 x3)), (66, rt (.int .i64 c0)), (66, rt (.int .i64 c1))] = some (rt (.int .i64 c1), [PureX Tryz.prog 64 #[W4 b0 b1 b2 b3] (rt (W4 y0 y1 y2 y3)), PureX Tryz.prog 64 #[W4 a0 a1 a2 a3] (rt (W4 x0 x1 x2 x3)), (Int.ofNat x0 != Int.ofNat y0) = true, PureX Tryz.prog 66 #[u x0, u y0] (rt (.int .i64 c0)), (Int.ofNat x1 != Int.ofNat y1) = true, PureX Tryz.prog 66 #[u x1, u y1] (rt (.int .i64 c1)), (Int.ofNat x2 != Int.ofNat y2) = false, (Int.ofNat x3 != Int.ofNat y3) = false]) := by kernel_rfl
theorem cm_4 (a0 a1 a2 a3 b0 b1 b2 b3 x0 x1 x2 x3 y0 y1 y2 y3 : Nat) (c2 : Int) : runA Tryz.prog 46 #[W4 a0 a1 a2 a3, W4 b0 b1 b2 b3] [n, f, n, n, f, n, n, t, n, n, f, n, n] [(64, rt (W4 y0 y1 y2 y3)), (64, rt (W4 x0 x1 x2 x3)), (66, rt (.int .i64 c2))] = some (rt (.int .i64 c2), [PureX Tryz.prog 64 #[W4 b0 b1 b2 b3] (rt (W4 y0 y1 y2 y3)), PureX Tryz.prog 64 #[W4 a0 a1 a2 a3] (rt (W4 x0 x1 x2 x3)), (Int.ofNat x0 != Int.ofNat y0) = false, (Int.ofNat x1 != Int.ofNat y1) = false, (Int.ofNat x2 != Int.ofNat y2) = true, PureX Tryz.prog 66 #[u x2, u y2] (rt (.int .i64 c2)), (Int.ofNat x3 != Int.ofNat y3) = false]) := by kernel_rfl
theorem cm_5 (a0 a1 a2 a3 b0 b1 b2 b3 x0 x1 x2 x3 y0 y1 y2 y3 : Nat) (c0 c2 : Int) : runA Tryz.prog 46 #[W4 a0 a1 a2 a3, W4 b0 b1 b2 b3] [n, t, n, n, f, n, n, t, n, n, f, n, n] [(64, rt (W4 y0 y1 y2 y3)), (64, rt (W4 x0 x1 x2 x3)), (66, rt (.int .i64 c0)), (66, rt (.int .i64 c2))] = some (rt (.int .i64 c2), [PureX Tryz.prog 64 #[W4 b0 b1 b2 b3] (rt (W4 y0 y1 y2 y3)), PureX Tryz.prog 64 #[W4 a0 a1 a2 a3] (rt (W4 x0 x1 x2 x3)), (Int.ofNat x0 != Int.ofNat y0) = true, PureX Tryz.prog 66 #[u x0, u y0] (rt (.int .i64 c0)), (Int.ofNat x1 != Int.ofNat y1) = false, (Int.ofNat x2 != Int.ofNat y2) = true, PureX Tryz.prog 66 #[u x2, u y2] (rt (.int .i64 c2)), (Int.ofNat x3 != Int.ofNat y3) = false]) := by kernel_rfl
theorem cm_6 (a0 a1 a2 a3 b0 b1 b2 b3 x0 x1 x2 x3 y0 y1 y2 y3 : Nat) (c1 c2 : Int) : runA Tryz.prog 46 #[W4 a0 a1 a2 a3, W4 b0 b1 b2 b3] [n, f, n, n, t, n, n, t, n, n, f, n, n] [(64, rt (W4 y0 y1 y2 y3)), (64, rt (W4 x0 x1 x2 x3)), (66, rt (.int .i64 c1)), (66, rt (.int .i64 c2))] = some (rt (.int .i64 c2), [PureX Tryz.prog 64 #[W4 b0 b1 b2 b3] (rt (W4 y0 y1 y2 y3)), PureX Tryz.prog 64 #[W4 a0 a1 a2 a3] (rt (W4 x0 x1 x2 x3)), (Int.ofNat x0 != Int.ofNat y0) = false, (Int.ofNat x1 != Int.ofNat y1) = true, PureX Tryz.prog 66 #[u x1, u y1] (rt (.int .i64 c1)), (Int.ofNat x2 != Int.ofNat y2) = true, PureX Tryz.prog 66 #[u x2, u y2] (rt (.int .i64 c2)), (Int.ofNat x3 != Int.ofNat y3) = false]) := by kernel_rfl
theorem cm_7 (a0 a1 a2 a3 b0 b1 b2 b3 x0 x1 x2 x3 y0 y1 y2 y3 : Nat) (c0 c1 c2 : Int) : runA Tryz.prog 46 #[W4 a0 a1 a2 a3, W4 b0 b1 b2 b3] [n, t, n, n, t, n, n, t, n, n, f, n, n] [(64, rt (W4 y0 y1 y2 y3)), (64, rt (W4 x0 x1 x2 x3)), (66, rt (.int .i64 c0)), (66, rt (.int .i64 c1)), (66, rt (.int .i64 c2))] = some (rt (.int .i64 c2), [PureX Tryz.prog 64 #[W4 b0 b1 b2 b3] (rt (W4 y0 y1 y2 y3)), PureX Tryz.prog 64 #[W4 a0 a1 a2 a3] (rt (W4 x0 x1 x2 x3)), (Int.ofNat x0 != Int.ofNat y0) = true, PureX Tryz.prog 66 #[u x0, u y0] (rt (.int .i64 c0)), (Int.ofNat x1 != Int.ofNat y1) = true, PureX Tryz.prog 66 #[u x1, u y1] (rt (.int .i64 c1)), (Int.ofNat x2 != Int.ofNat y2) = true, PureX Tryz.prog 66 #[u x2, u y2] (rt (.int .i64 c2)), (Int.ofNat x3 != Int.ofNat y3) = false]) := by kernel_rfl
theorem cm_8 (a0 a1 a2 a3 b0 b1 b2 b3 x0 x1 x2 x3 y0 y1 y2 y3 : Nat) (c3 : Int) : runA Tryz.prog 46 #[W4 a0 a1 a2 a3, W4 b0 b1 b2 b3] [n, f, n, n, f, n, n, f, n, n, t, n, n] [(64, rt (W4 y0 y1 y2 y3)), (64, rt (W4 x0 x1 x2 x3)), (66, rt (.int .i64 c3))] = some (rt (.int .i64 c3), [PureX Tryz.prog 64 #[W4 b0 b1 b2 b3] (rt (W4 y0 y1 y2 y3)), PureX Tryz.prog 64 #[W4 a0 a1 a2 a3] (rt (W4 x0 x1 x2 x3)), (Int.ofNat x0 != Int.ofNat y0) = false, (Int.ofNat x1 != Int.ofNat y1) = false, (Int.ofNat x2 != Int.ofNat y2) = false, (Int.ofNat x3 != Int.ofNat y3) = true, PureX Tryz.prog 66 #[u x3, u y3] (rt (.int .i64 c3))]) := by kernel_rfl
theorem cm_9 (a0 a1 a2 a3 b0 b1 b2 b3 x0 x1 x2 x3 y0 y1 y2 y3 : Nat) (c0 c3 : Int) : runA Tryz.prog 46 #[W4 a0 a1 a2 a3, W4 b0 b1 b2 b3] [n, t, n, n, f, n, n, f, n, n, t, n, n] [(64, rt (W4 y0 y1 y2 y3)), (64, rt (W4 x0 x1 x2 x3)), (66, rt (.int .i64 c0)), (66, rt (.int .i64 c3))] = some (rt (.int .i64 c3), [PureX Tryz.prog 64 #[W4 b0 b1 b2 b3] (rt (W4 y0 y1 y2 y3)), PureX Tryz.prog 64 #[W4 a0 a1 a2 a3] (rt (W4 x0 x1 x2 x3)), (Int.ofNat x0 != Int.ofNat y0) = true, PureX Tryz.prog 66 #[u x0, u y0] (rt (.int .i64 c0)), (Int.ofNat x1 != Int.ofNat y1) = false, (Int.ofNat x2 != Int.ofNat y2) = false, (Int.ofNat x3 != Int.ofNat y3) = true, PureX Tryz.prog 66 #[u x3, u y3] (rt (.int .i64 c3))]) := by kernel_rfl
theorem cm_10 (a0 a1 a2 a3 b0 b1 b2 b3 x0 x1 x2 x3 y0 y1 y2 y3 : Nat) (c1 c3 : Int) : runA Tryz.prog 46 #[W4 a0 a1 a2 a3, W4 b0 b1 b2 b3] [n, f, n, n, t, n, n, f, n, n, t, n, n] [(64, rt (W4 y0 y1 y2 y3)), (64, rt (W4 x0 x1 x2 x3)), (66, rt (.int .i64 c1)), (66, rt (.int .i64 c3))] = some (rt (.int .i64 c3), [PureX Tryz.prog 64 #[W4 b0 b1 b2 b3] (rt (W4 y0 y1 y2 y3)), PureX Tryz.prog 64 #[W4 a0 a1 a2 a3] (rt (W4 x0 x1 x2 x3)), (Int.ofNat x0 != Int.ofNat y0) = false, (Int.ofNat x1 != Int.ofNat y1) = true, PureX Tryz.prog 66 #[u x1, u y1] (rt (.int .i64 c1)), (Int.ofNat x2 != Int.ofNat y2) = false, (Int.ofNat x3 != Int.ofNat y3) = true, PureX Tryz.prog 66 #[u x3, u y3] (rt (.int .i64 c3))]) := by kernel_rfl
theorem cm_11 (a0 a1 a2 a3 b0 b1 b2 b3 x0 x1 x2 x3 y0 y1 y2 y3 : Nat) (c0 c1 c3 : Int) : runA Tryz.prog 46 #[W4 a0 a1 a2 a3, W4 b0 b1 b2 b3] [n, t, n, n, t, n, n, f, n, n, t, n, n] [(64, rt (W4 y0 y1 y2 y3)), (64, rt (W4 x0 x1 x2 x3)), (66, rt (.int .i64 c0)), (66, rt (.int .i64 c1)), (66, rt (.int .i64 c3))] = some (rt (.int .i64 c3), [PureX Tryz.prog 64 #[W4 b0 b1 b2 b3] (rt (W4 y0 y1 y2 y3)), PureX Tryz.prog 64 #[W4 a0 a1 a2 a3] (rt (W4 x0 x1 x2 x3)), (Int.ofNat x0 != Int.ofNat y0) = true, PureX Tryz.prog 66 #[u x0, u y0] (rt (.int .i64 c0)), (Int.ofNat x1 != Int.ofNat y1) = true, PureX Tryz.prog 66 #[u x1, u y1] (rt (.int .i64 c1)), (Int.ofNat x2 != Int.ofNat y2) = false, (Int.ofNat x3 != Int.ofNat y3) = true, PureX Tryz.prog 66 #[u x3, u y3] (rt (.int .i64 c3))]) := by kernel_rfl
theorem cm_12 (a0 a1 a2 a3 b0 b1 b2 b3 x0 x1 x2 x3 y0 y1 y2 y3 : Nat) (c2 c3 : Int) : runA Tryz.prog 46 #[W4 a0 a1 a2 a3, W4 b0 b1 b2 b3] [n, f, n, n, f, n, n, t, n, n, t, n, n] [(64, rt (W4 y0 y1 y2 y3)), (64, rt (W4 x0 x1 x2 x3)), (66, rt (.int .i64 c2)), (66, rt (.int .i64 c3))] = some (rt (.int .i64 c3), [PureX Tryz.prog 64 #[W4 b0 b1 b2 b3] (rt (W4 y0 y1 y2 y3)), PureX Tryz.prog 64 #[W4 a0 a1 a2 a3] (rt (W4 x0 x1 x2 x3)), (Int.ofNat x0 != Int.ofNat y0) = false, (Int.ofNat x1 != Int.ofNat y1) = false, (Int.ofNat x2 != Int.ofNat y2) = true, PureX Tryz.prog 66 #[u x2, u y2] (rt (.int .i64 c2)), (Int.ofNat x3 != Int.ofNat y3) = true, PureX Tryz.prog 66 #[u x3, u y3] (rt (.int .i64 c3))]) := by kernel_rfl
theorem cm_13 (a0 a1 a2 a3 b0 b1 b2 b3 x0 x1 x2 x3 y0 y1 y2 y3 : Nat) (c0 c2 c3 : Int) : runA Tryz.prog 46 #[W4 a0 a1 a2 a3, W4 b0 b1 b2 b3] [n, t, n, n, f, n, n, t, n, n, t, n, n] [(64, rt (W4 y0 y1 y2 y3)), (64, rt (W4 x0 x1 x2 x3)), (66, rt (.int .i64 c0)), (66, rt (.int .i64 c2)), (66, rt (.int .i64 c3))] = some (rt (.int .i64 c3), [PureX Tryz.prog 64 #[W4 b0 b1 b2 b3] (rt (W4 y0 y1 y2 y3)), PureX Tryz.prog 64 #[W4 a0 a1 a2 a3] (rt (W4 x0 x1 x2 x3)), (Int.ofNat x0 != Int.ofNat y0) = true, PureX Tryz.prog 66 #[u x0, u y0] (rt (.int .i64 c0)), (Int.ofNat x1 != Int.ofNat y1) = false, (Int.ofNat x2 != Int.ofNat y2) = true, PureX Tryz.prog 66 #[u x2, u y2] (rt (.int .i64 c2)), (Int.ofNat x3 != Int.ofNat y3) = true, PureX Tryz.prog 66 #[u x3, u y3] (rt (.int .i64 c3))]) := by kernel_rfl
theorem cm_14 (a0 a1 a2 a3 b0 b1 b2 b3 x0 x1 x2 x3 y0 y1 y2 y3 : Nat) (c1 c2 c3 : Int) : runA Tryz.prog 46 #[W4 a0 a1 a2 a3, W4 b0 b1 b2 b3] [n, f, n, n, t, n, n, t, n, n, t, n, n] [(64, rt (W4 y0 y1 y2 y3)), (64, rt (W4 x0 x1 x2 x3)), (66, rt (.int .i64 c1)), (66, rt (.int .i64 c2)), (66, rt (.int .i64 c3))] = some (rt (.int .i64 c3), [PureX Tryz.prog 64 #[W4 b0 b1 b2 b3] (rt (W4 y0 y1 y2 y3)), PureX Tryz.prog 64 #[W4 a0 a1 a2 a3] (rt (W4 x0 x1 x2 x3)), (Int.ofNat x0 != Int.ofNat y0) = false, (Int.ofNat x1 != Int.ofNat y1) = true, PureX Tryz.prog 66 #[u x1, u y1] (rt (.int .i64 c1)), (Int.ofNat x2 != Int.ofNat y2) = true, PureX Tryz.prog 66 #[u x2, u y2] (rt (.int .i64 c2)), (Int.ofNat x3 != Int.ofNat y3) = true, PureX Tryz.prog 66 #[u x3, u y3] (rt (.int .i64 c3))]) := by kernel_rfl
theorem cm_15 (a0 a1 a2 a3 b0 b1 b2 b3 x0 x1 x2 x3 y0 y1 y2 y3 : Nat) (c0 c1 c2 c3 : Int) : runA Tryz.prog 46 #[W4 a0 a1 a2 a3, W4 b0 b1 b2 b3] [n, t, n, n, t, n, n, t, n, n, t, n, n] [(64, rt (W4 y0 y1 y2 y3)), (64, rt (W4 x0 x1 x2 x3)), (66, rt (.int .i64 c0)), (66, rt (.int .i64 c1)), (66, rt (.int .i64 c2)), (66, rt (.int .i64 c3))] = some (rt (.int .i64 c3), [PureX Tryz.prog 64 #[W4 b0 b1 b2 b3] (rt (W4 y0 y1 y2 y3)), PureX Tryz.prog 64 #[W4 a0 a1 a2 a3] (rt (W4 x0 x1 x2 x3)), (Int.ofNat x0 != Int.ofNat y0) = true, PureX Tryz.prog 66 #[u x0, u y0] (rt (.int .i64 c0)), (Int.ofNat x1 != Int.ofNat y1) = true, PureX Tryz.prog 66 #[u x1, u y1] (rt (.int .i64 c1)), (Int.ofNat x2 != Int.ofNat y2) = true, PureX Tryz.prog 66 #[u x2, u y2] (rt (.int .i64 c2)), (Int.ofNat x3 != Int.ofNat y3) = true, PureX Tryz.prog 66 #[u x3, u y3] (rt (.int .i64 c3))]) := by kernel_rfl

theorem sign_top {x y X Y : Nat} (hx : x < 18446744073709551616) (hy : y < 18446744073709551616) (h : X ≠ Y) : (((x + 18446744073709551616 * X : Nat) : Int) - ((y + 18446744073709551616 * Y : Nat) : Int)).sign = ((X : Int) - Y).sign := by
  rcases Nat.lt_or_gt_of_ne h with h | h
  · rw [Int.sign_eq_neg_one_of_neg (show (X : Int) - Y < 0 by omega), Int.sign_eq_neg_one_of_neg (by omega)]
  · rw [Int.sign_eq_one_of_pos (show 0 < (X : Int) - Y by omega), Int.sign_eq_one_of_pos (by omega)]
theorem sign_low {x y X : Nat} : (((x + 18446744073709551616 * X : Nat) : Int) - ((y + 18446744073709551616 * X : Nat) : Int)).sign = ((x : Int) - y).sign := by
  congr 1
  omega
theorem ne_test {x y : Nat} (h : x ≠ y) : (Int.ofNat x != Int.ofNat y) = true := by
  rw [bne_iff_ne]; exact fun e => h (Int.ofNat.inj e)
theorem eq_test (x : Nat) : (Int.ofNat x != Int.ofNat x) = false := by simp
set_option maxRecDepth 100000 in
/-- The order of two rows of words. -/
theorem cmp_w {a0 a1 a2 a3 b0 b1 b2 b3 : Nat} (ha0 : a0 < 18446744073709551616) (ha1 : a1 < 18446744073709551616) (ha2 : a2 < 18446744073709551616) (ha3 : a3 < 18446744073709551616) (hb0 : b0 < 18446744073709551616) (hb1 : b1 < 18446744073709551616) (hb2 : b2 < 18446744073709551616) (hb3 : b3 < 18446744073709551616) :
    PureX Tryz.prog 46 #[W4 a0 a1 a2 a3, W4 b0 b1 b2 b3] (rt (.int .i64 ((nvl [a0, a1, a2, liftW a3] : Int) - (nvl [b0, b1, b2, liftW b3] : Int)).sign)) := by
  have la := lf4_c (x0 := a0) (x1 := a1) (x2 := a2) ha3
  have lb := lf4_c (x0 := b0) (x1 := b1) (x2 := b2) hb3
  have hA : liftW a3 < 18446744073709551616 := by unfold liftW; split <;> omega
  have hB : liftW b3 < 18446744073709551616 := by unfold liftW; split <;> omega
  generalize liftW a3 = A at *
  generalize liftW b3 = B at *
  simp only [nvl, Nat.mul_zero, Nat.add_zero]
  by_cases e3 : A = B
  · subst e3
    by_cases e2 : a2 = b2
    · subst e2
      by_cases e1 : a1 = b1
      · subst e1
        by_cases e0 : a0 = b0
        · subst e0
          have r := runA_pure mix (cm_0 a0 a1 a2 a3 a0 a1 a2 b3 a0 a1 a2 A a0 a1 a2 A ) ⟨lb, la, eq_test _, eq_test _, eq_test _, eq_test _, trivial⟩ rfl rfl
          rw [Int.sub_self]; exact r
        · have r := runA_pure mix (cm_1 a0 a1 a2 a3 b0 a1 a2 b3 a0 a1 a2 A b0 a1 a2 A _) ⟨lb, la, ne_test e0, cp_c e0, eq_test _, eq_test _, eq_test _, trivial⟩ rfl rfl
          rw [sign_low]; exact r
      · by_cases e0 : a0 = b0
        · subst e0
          have r := runA_pure mix (cm_2 a0 a1 a2 a3 a0 b1 a2 b3 a0 a1 a2 A a0 b1 a2 A _) ⟨lb, la, eq_test _, ne_test e1, cp_c e1, eq_test _, eq_test _, trivial⟩ rfl rfl
          rw [sign_top ha0 ha0 (by omega), sign_low]; exact r
        · have r := runA_pure mix (cm_3 a0 a1 a2 a3 b0 b1 a2 b3 a0 a1 a2 A b0 b1 a2 A _ _) ⟨lb, la, ne_test e0, cp_c e0, ne_test e1, cp_c e1, eq_test _, eq_test _, trivial⟩ rfl rfl
          rw [sign_top ha0 hb0 (by omega), sign_low]; exact r
    · by_cases e1 : a1 = b1
      · subst e1
        by_cases e0 : a0 = b0
        · subst e0
          have r := runA_pure mix (cm_4 a0 a1 a2 a3 a0 a1 b2 b3 a0 a1 a2 A a0 a1 b2 A _) ⟨lb, la, eq_test _, eq_test _, ne_test e2, cp_c e2, eq_test _, trivial⟩ rfl rfl
          rw [sign_top ha0 ha0 (by omega), sign_top ha1 ha1 (by omega), sign_low]; exact r
        · have r := runA_pure mix (cm_5 a0 a1 a2 a3 b0 a1 b2 b3 a0 a1 a2 A b0 a1 b2 A _ _) ⟨lb, la, ne_test e0, cp_c e0, eq_test _, ne_test e2, cp_c e2, eq_test _, trivial⟩ rfl rfl
          rw [sign_top ha0 hb0 (by omega), sign_top ha1 ha1 (by omega), sign_low]; exact r
      · by_cases e0 : a0 = b0
        · subst e0
          have r := runA_pure mix (cm_6 a0 a1 a2 a3 a0 b1 b2 b3 a0 a1 a2 A a0 b1 b2 A _ _) ⟨lb, la, eq_test _, ne_test e1, cp_c e1, ne_test e2, cp_c e2, eq_test _, trivial⟩ rfl rfl
          rw [sign_top ha0 ha0 (by omega), sign_top ha1 hb1 (by omega), sign_low]; exact r
        · have r := runA_pure mix (cm_7 a0 a1 a2 a3 b0 b1 b2 b3 a0 a1 a2 A b0 b1 b2 A _ _ _) ⟨lb, la, ne_test e0, cp_c e0, ne_test e1, cp_c e1, ne_test e2, cp_c e2, eq_test _, trivial⟩ rfl rfl
          rw [sign_top ha0 hb0 (by omega), sign_top ha1 hb1 (by omega), sign_low]; exact r
  · by_cases e2 : a2 = b2
    · subst e2
      by_cases e1 : a1 = b1
      · subst e1
        by_cases e0 : a0 = b0
        · subst e0
          have r := runA_pure mix (cm_8 a0 a1 a2 a3 a0 a1 a2 b3 a0 a1 a2 A a0 a1 a2 B _) ⟨lb, la, eq_test _, eq_test _, eq_test _, ne_test e3, cp_c e3, trivial⟩ rfl rfl
          rw [sign_top ha0 ha0 (by omega), sign_top ha1 ha1 (by omega), sign_top ha2 ha2 e3]; exact r
        · have r := runA_pure mix (cm_9 a0 a1 a2 a3 b0 a1 a2 b3 a0 a1 a2 A b0 a1 a2 B _ _) ⟨lb, la, ne_test e0, cp_c e0, eq_test _, eq_test _, ne_test e3, cp_c e3, trivial⟩ rfl rfl
          rw [sign_top ha0 hb0 (by omega), sign_top ha1 ha1 (by omega), sign_top ha2 ha2 e3]; exact r
      · by_cases e0 : a0 = b0
        · subst e0
          have r := runA_pure mix (cm_10 a0 a1 a2 a3 a0 b1 a2 b3 a0 a1 a2 A a0 b1 a2 B _ _) ⟨lb, la, eq_test _, ne_test e1, cp_c e1, eq_test _, ne_test e3, cp_c e3, trivial⟩ rfl rfl
          rw [sign_top ha0 ha0 (by omega), sign_top ha1 hb1 (by omega), sign_top ha2 ha2 e3]; exact r
        · have r := runA_pure mix (cm_11 a0 a1 a2 a3 b0 b1 a2 b3 a0 a1 a2 A b0 b1 a2 B _ _ _) ⟨lb, la, ne_test e0, cp_c e0, ne_test e1, cp_c e1, eq_test _, ne_test e3, cp_c e3, trivial⟩ rfl rfl
          rw [sign_top ha0 hb0 (by omega), sign_top ha1 hb1 (by omega), sign_top ha2 ha2 e3]; exact r
    · by_cases e1 : a1 = b1
      · subst e1
        by_cases e0 : a0 = b0
        · subst e0
          have r := runA_pure mix (cm_12 a0 a1 a2 a3 a0 a1 b2 b3 a0 a1 a2 A a0 a1 b2 B _ _) ⟨lb, la, eq_test _, eq_test _, ne_test e2, cp_c e2, ne_test e3, cp_c e3, trivial⟩ rfl rfl
          rw [sign_top ha0 ha0 (by omega), sign_top ha1 ha1 (by omega), sign_top ha2 hb2 e3]; exact r
        · have r := runA_pure mix (cm_13 a0 a1 a2 a3 b0 a1 b2 b3 a0 a1 a2 A b0 a1 b2 B _ _ _) ⟨lb, la, ne_test e0, cp_c e0, eq_test _, ne_test e2, cp_c e2, ne_test e3, cp_c e3, trivial⟩ rfl rfl
          rw [sign_top ha0 hb0 (by omega), sign_top ha1 ha1 (by omega), sign_top ha2 hb2 e3]; exact r
      · by_cases e0 : a0 = b0
        · subst e0
          have r := runA_pure mix (cm_14 a0 a1 a2 a3 a0 b1 b2 b3 a0 a1 a2 A a0 b1 b2 B _ _ _) ⟨lb, la, eq_test _, ne_test e1, cp_c e1, ne_test e2, cp_c e2, ne_test e3, cp_c e3, trivial⟩ rfl rfl
          rw [sign_top ha0 ha0 (by omega), sign_top ha1 hb1 (by omega), sign_top ha2 hb2 e3]; exact r
        · have r := runA_pure mix (cm_15 a0 a1 a2 a3 b0 b1 b2 b3 a0 a1 a2 A b0 b1 b2 B _ _ _ _) ⟨lb, la, ne_test e0, cp_c e0, ne_test e1, cp_c e1, ne_test e2, cp_c e2, ne_test e3, cp_c e3, trivial⟩ rfl rfl
          rw [sign_top ha0 hb0 (by omega), sign_top ha1 hb1 (by omega), sign_top ha2 hb2 e3]; exact r

theorem lift_z {x : Int} (hx : inR x) : ∃ a0 a1 a2 a3, wz x = W4 a0 a1 a2 a3 ∧ a0 < 18446744073709551616 ∧ a1 < 18446744073709551616 ∧ a2 < 18446744073709551616 ∧ a3 < 18446744073709551616 ∧ ((nvl [a0, a1, a2, liftW a3] : Nat) : Int) = x + 57896044618658097711785492504343953926634992332820282019728792003956564819968 := by
  obtain ⟨a0, a1, a2, a3, e, h0, h1, h2, h3, hv⟩ := W4_words (x := nz x)
  refine ⟨a0, a1, a2, a3, e, h0, h1, h2, h3, ?_⟩
  have hc := nz_cast x
  rw [Nat.mod_eq_of_lt (nz_lt x)] at hv
  unfold inR at hx
  unfold Mw at hc
  unfold liftW
  simp only [nvl, Nat.mul_zero, Nat.add_zero] at hv ⊢
  split <;> omega
/-- Cmp. -/
theorem cmp_z {x y : Int} (hx : inR x) (hy : inR y) : PureX Tryz.prog 46 #[wz x, wz y] (rt (.int .i64 (x - y).sign)) := by
  obtain ⟨a0, a1, a2, a3, ea, ha0, ha1, ha2, ha3, hva⟩ := lift_z hx
  obtain ⟨b0, b1, b2, b3, eb, hb0, hb1, hb2, hb3, hvb⟩ := lift_z hy
  have h := cmp_w ha0 ha1 ha2 ha3 hb0 hb1 hb2 hb3
  rw [hva, hvb, show x + 57896044618658097711785492504343953926634992332820282019728792003956564819968 - (y + 57896044618658097711785492504343953926634992332820282019728792003956564819968) = x - y by omega] at h
  rw [ea, eb]
  exact h

end Go.Proofs.YtcmfgabhgodlaaaGreatDoor

/- Near; numbers of ints. -/
namespace Go.Proofs.YtcmfgabhgodlaaaGreatDoor
open Go Go.RowKit
set_option linter.unusedSimpArgs false
set_option linter.unusedVariables false

/-- The nearest. -/
def neI (x y : Int) : Int := wholeI x y (x.natAbs / y.natAbs) (decide (y.natAbs - x.natAbs % y.natAbs ≤ x.natAbs % y.natAbs))
theorem ofs_raw (x : Int) : runA Tryz.prog 53 #[.int .i64 (x)] [] [] =
    some (rt (.agg ⟨[.int .u64 (IntKind.u64.wrap x), .int .u64 (IntKind.u64.wrap (x.fdiv (2 ^ 63))), .int .u64 (IntKind.u64.wrap (x.fdiv (2 ^ 63))), .int .u64 (IntKind.u64.wrap (x.fdiv (2 ^ 63)))]⟩), []) := by kernel_rfl
theorem int_raw (x y : Nat) : runA Tryz.prog 37 #[wv x] [f] [(53, rt (wv y))] =
    some (rt (tp [.int .i64 (IntKind.i64.wrap (Int.ofNat (x % 18446744073709551616))), bb (true)]), [PureX Tryz.prog 53 #[.int .i64 (IntKind.i64.wrap (Int.ofNat (x % 18446744073709551616)))] (rt (wv y)), (!(eqv y x)) = false]) := by kernel_rfl
theorem int_raw2 (x y : Nat) : runA Tryz.prog 37 #[wv x] [t] [(53, rt (wv y))] =
    some (rt (tp [.int .i64 (0), bb (false)]), [PureX Tryz.prog 53 #[.int .i64 (IntKind.i64.wrap (Int.ofNat (x % 18446744073709551616)))] (rt (wv y)), (!(eqv y x)) = true]) := by kernel_rfl
def isI (x : Int) : Prop := -9223372036854775808 ≤ x ∧ x < 9223372036854775808
instance (x : Int) : Decidable (isI x) := by unfold isI; infer_instance
theorem isI_in {x : Int} (h : isI x) : inR x := by unfold isI at h; unfold inR; omega
theorem of_z {x : Int} (h : isI x) : PureX Tryz.prog 53 #[.int .i64 x] (rt (wz x)) := by
  have r := runA_pure mix (ofs_raw x) trivial rfl rfl
  unfold isI at h
  obtain ⟨A, hA⟩ : ∃ A : Nat, (A : Int) = x % 18446744073709551616 := ⟨(x % 18446744073709551616).toNat, Int.toNat_of_nonneg (Int.emod_nonneg _ (by decide))⟩
  obtain ⟨S, hS, hS1, hS2⟩ : ∃ S : Nat, IntKind.u64.wrap (x.fdiv (2 ^ 63)) = Int.ofNat S ∧ (0 ≤ x → S = 0) ∧ (x < 0 → S = 18446744073709551615) := by
    rw [show ((2 : Int) ^ 63) = 9223372036854775808 from rfl, IntKind.wrap_u64, Int.fdiv_eq_ediv_of_nonneg _ (by decide)]
    rcases (show x < 0 ∨ 0 ≤ x by omega) with h0 | h0
    · exact ⟨18446744073709551615, by rw [show x / 9223372036854775808 = -1 by omega]; rfl, fun h => by omega, fun _ => rfl⟩
    · exact ⟨0, by rw [show x / 9223372036854775808 = 0 by omega]; rfl, fun _ => rfl, fun h => by omega⟩
  rw [hS, IntKind.wrap_u64, ← hA] at r
  have hAl : A < 18446744073709551616 := by omega
  have hSl : S < 18446744073709551616 := by omega
  have e : nvl [A, S, S, S] = nz x := by
    have hc := nz_cast x
    unfold Mw at hc
    simp only [nvl, Nat.mul_zero, Nat.add_zero]
    rcases (show x < 0 ∨ 0 ≤ x by omega) with h0 | h0
    · have := hS2 h0
      omega
    · have := hS1 h0
      omega
  show PureX Tryz.prog 53 #[.int .i64 x] (rt (wv (nz x)))
  rw [← e, wv_nvl hAl hSl hSl hSl]
  exact r
/-- Int. -/
theorem int_z {x : Int} (hx : inR x) : PureX Tryz.prog 37 #[wz x] (rt (tp [.int .i64 (if isI x then x else 0), bb (decide (isI x))])) := by
  obtain ⟨y, hy⟩ : ∃ y, IntKind.i64.wrap (Int.ofNat (nz x % 18446744073709551616)) = y := ⟨_, rfl⟩
  have hyI : isI y ∧ (isI x → y = x) := by
    have hc := nz_cast x
    unfold Mw at hc
    rw [IntKind.wrap_i64, show Int.ofNat (nz x % 18446744073709551616) = (nz x : Int) % 18446744073709551616 by simp, hc] at hy
    unfold isI
    unfold inR at hx
    subst hy
    rw [Int.emod_emod_of_dvd _ (by decide)]
    omega
  have ho := of_z hyI.1
  have he := eqv_z (isI_in hyI.1) hx
  by_cases h : isI x
  · rw [if_pos h, decide_eq_true h]
    have r := runA_pure mix (int_raw (nz x) (nz y)) ⟨by rw [hy]; exact ho, by rw [he, decide_eq_true (hyI.2 h)]; rfl, trivial⟩ rfl rfl
    rw [hy, hyI.2 h] at r
    exact r
  · rw [if_neg h, decide_eq_false h]
    exact runA_pure mix (int_raw2 (nz x) (nz y)) ⟨by rw [hy]; exact ho, by rw [he, decide_eq_false (show ¬ y = x from fun e => h (by rw [← e]; exact hyI.1))]; rfl, trivial⟩ rfl rfl

end Go.Proofs.YtcmfgabhgodlaaaGreatDoor

/- How long a number is, and the long division, way by way. -/
namespace Go.Proofs.YtcmfgabhgodlaaaGreatDoor
open Go Go.RowKit
set_option linter.unusedSimpArgs false
set_option linter.unusedVariables false

theorem len_1 (x0 x1 x2 x3 : Nat) : runA Tryz.prog 108 #[W4 x0 x1 x2 x3] [n, f, n, n, f, n, n, f, n, n, t, n] [] = some (rt (.int .i64 1), [(Int.ofNat x3 != 0) = false, (Int.ofNat x2 != 0) = false, (Int.ofNat x1 != 0) = false, (Int.ofNat x0 != 0) = true]) := by kernel_rfl
theorem len_2 (x0 x1 x2 x3 : Nat) : runA Tryz.prog 108 #[W4 x0 x1 x2 x3] [n, f, n, n, f, n, n, t, n] [] = some (rt (.int .i64 2), [(Int.ofNat x3 != 0) = false, (Int.ofNat x2 != 0) = false, (Int.ofNat x1 != 0) = true]) := by kernel_rfl
theorem len_3 (x0 x1 x2 x3 : Nat) : runA Tryz.prog 108 #[W4 x0 x1 x2 x3] [n, f, n, n, t, n] [] = some (rt (.int .i64 3), [(Int.ofNat x3 != 0) = false, (Int.ofNat x2 != 0) = true]) := by kernel_rfl
theorem len_4 (x0 x1 x2 x3 : Nat) : runA Tryz.prog 108 #[W4 x0 x1 x2 x3] [n, t, n] [] = some (rt (.int .i64 4), [(Int.ofNat x3 != 0) = true]) := by kernel_rfl
theorem dv_1 (a0 a1 a2 a3 b0 b1 b2 b3 s x0 x1 x2 x3 x4 v0 v1 v2 v3 v4 r r30 q3 r20 q2 r10 q1 r00 q0 : Nat) : runB Tryz.prog 99 #[W4 a0 a1 a2 a3, W4 b0 b1 b2 b3] [] [] [(108, rt (.int .i64 1)), (109, rt (.int .i64 (Int.ofNat s))), (110, rt (V5 [x0, x1, x2, x3, x4])), (110, rt (V5 [v0, v1, v2, v3, v4])), (113, rt (wv r))] [(112, rt (u q3), HD [x0, x1, x2, r30, 0] [v0, v1, v2, v3, v4]), (112, rt (u q2), HD [x0, x1, r20, 0, 0] [v0, v1, v2, v3, v4]), (112, rt (u q1), HD [x0, r10, 0, 0, 0] [v0, v1, v2, v3, v4]), (112, rt (u q0), HD [r00, 0, 0, 0, 0] [v0, v1, v2, v3, v4])] =
    some (rt (tp [W4 q0 q1 q2 q3, wv r]), [], [PureX Tryz.prog 108 #[W4 b0 b1 b2 b3] (rt (.int .i64 1)), PureX Tryz.prog 109 #[u b0] (rt (.int .i64 (Int.ofNat s))), PureX Tryz.prog 110 #[W4 a0 a1 a2 a3, .int .i64 (Int.ofNat s)] (rt (V5 [x0, x1, x2, x3, x4])), PureX Tryz.prog 110 #[W4 b0 b1 b2 b3, .int .i64 (Int.ofNat s)] (rt (V5 [v0, v1, v2, v3, v4])), CallsV Tryz.prog (.func 112) #[slU 3 1, slV 1] (HD [x0, x1, x2, x3, x4] [v0, v1, v2, v3, v4]) (rt (u q3)) (HD [x0, x1, x2, r30, 0] [v0, v1, v2, v3, v4]), CallsV Tryz.prog (.func 112) #[slU 2 1, slV 1] (HD [x0, x1, x2, r30, 0] [v0, v1, v2, v3, v4]) (rt (u q2)) (HD [x0, x1, r20, 0, 0] [v0, v1, v2, v3, v4]), CallsV Tryz.prog (.func 112) #[slU 1 1, slV 1] (HD [x0, x1, r20, 0, 0] [v0, v1, v2, v3, v4]) (rt (u q1)) (HD [x0, r10, 0, 0, 0] [v0, v1, v2, v3, v4]), CallsV Tryz.prog (.func 112) #[slU 0 1, slV 1] (HD [x0, r10, 0, 0, 0] [v0, v1, v2, v3, v4]) (rt (u q0)) (HD [r00, 0, 0, 0, 0] [v0, v1, v2, v3, v4]), PureX Tryz.prog 113 #[V5 [r00, 0, 0, 0, 0], .int .i64 (Int.ofNat s)] (rt (wv r))]) := by kernel_rfl
theorem dv_2 (a0 a1 a2 a3 b0 b1 b2 b3 s x0 x1 x2 x3 x4 v0 v1 v2 v3 v4 r r20 r21 q2 r10 r11 q1 r00 r01 q0 : Nat) : runB Tryz.prog 99 #[W4 a0 a1 a2 a3, W4 b0 b1 b2 b3] [] [] [(108, rt (.int .i64 2)), (109, rt (.int .i64 (Int.ofNat s))), (110, rt (V5 [x0, x1, x2, x3, x4])), (110, rt (V5 [v0, v1, v2, v3, v4])), (113, rt (wv r))] [(112, rt (u q2), HD [x0, x1, r20, r21, 0] [v0, v1, v2, v3, v4]), (112, rt (u q1), HD [x0, r10, r11, 0, 0] [v0, v1, v2, v3, v4]), (112, rt (u q0), HD [r00, r01, 0, 0, 0] [v0, v1, v2, v3, v4])] =
    some (rt (tp [W4 q0 q1 q2 0, wv r]), [], [PureX Tryz.prog 108 #[W4 b0 b1 b2 b3] (rt (.int .i64 2)), PureX Tryz.prog 109 #[u b1] (rt (.int .i64 (Int.ofNat s))), PureX Tryz.prog 110 #[W4 a0 a1 a2 a3, .int .i64 (Int.ofNat s)] (rt (V5 [x0, x1, x2, x3, x4])), PureX Tryz.prog 110 #[W4 b0 b1 b2 b3, .int .i64 (Int.ofNat s)] (rt (V5 [v0, v1, v2, v3, v4])), CallsV Tryz.prog (.func 112) #[slU 2 2, slV 2] (HD [x0, x1, x2, x3, x4] [v0, v1, v2, v3, v4]) (rt (u q2)) (HD [x0, x1, r20, r21, 0] [v0, v1, v2, v3, v4]), CallsV Tryz.prog (.func 112) #[slU 1 2, slV 2] (HD [x0, x1, r20, r21, 0] [v0, v1, v2, v3, v4]) (rt (u q1)) (HD [x0, r10, r11, 0, 0] [v0, v1, v2, v3, v4]), CallsV Tryz.prog (.func 112) #[slU 0 2, slV 2] (HD [x0, r10, r11, 0, 0] [v0, v1, v2, v3, v4]) (rt (u q0)) (HD [r00, r01, 0, 0, 0] [v0, v1, v2, v3, v4]), PureX Tryz.prog 113 #[V5 [r00, r01, 0, 0, 0], .int .i64 (Int.ofNat s)] (rt (wv r))]) := by kernel_rfl
theorem dv_3 (a0 a1 a2 a3 b0 b1 b2 b3 s x0 x1 x2 x3 x4 v0 v1 v2 v3 v4 r r10 r11 r12 q1 r00 r01 r02 q0 : Nat) : runB Tryz.prog 99 #[W4 a0 a1 a2 a3, W4 b0 b1 b2 b3] [] [] [(108, rt (.int .i64 3)), (109, rt (.int .i64 (Int.ofNat s))), (110, rt (V5 [x0, x1, x2, x3, x4])), (110, rt (V5 [v0, v1, v2, v3, v4])), (113, rt (wv r))] [(112, rt (u q1), HD [x0, r10, r11, r12, 0] [v0, v1, v2, v3, v4]), (112, rt (u q0), HD [r00, r01, r02, 0, 0] [v0, v1, v2, v3, v4])] =
    some (rt (tp [W4 q0 q1 0 0, wv r]), [], [PureX Tryz.prog 108 #[W4 b0 b1 b2 b3] (rt (.int .i64 3)), PureX Tryz.prog 109 #[u b2] (rt (.int .i64 (Int.ofNat s))), PureX Tryz.prog 110 #[W4 a0 a1 a2 a3, .int .i64 (Int.ofNat s)] (rt (V5 [x0, x1, x2, x3, x4])), PureX Tryz.prog 110 #[W4 b0 b1 b2 b3, .int .i64 (Int.ofNat s)] (rt (V5 [v0, v1, v2, v3, v4])), CallsV Tryz.prog (.func 112) #[slU 1 3, slV 3] (HD [x0, x1, x2, x3, x4] [v0, v1, v2, v3, v4]) (rt (u q1)) (HD [x0, r10, r11, r12, 0] [v0, v1, v2, v3, v4]), CallsV Tryz.prog (.func 112) #[slU 0 3, slV 3] (HD [x0, r10, r11, r12, 0] [v0, v1, v2, v3, v4]) (rt (u q0)) (HD [r00, r01, r02, 0, 0] [v0, v1, v2, v3, v4]), PureX Tryz.prog 113 #[V5 [r00, r01, r02, 0, 0], .int .i64 (Int.ofNat s)] (rt (wv r))]) := by kernel_rfl
theorem dv_4 (a0 a1 a2 a3 b0 b1 b2 b3 s x0 x1 x2 x3 x4 v0 v1 v2 v3 v4 r r00 r01 r02 r03 q0 : Nat) : runB Tryz.prog 99 #[W4 a0 a1 a2 a3, W4 b0 b1 b2 b3] [] [] [(108, rt (.int .i64 4)), (109, rt (.int .i64 (Int.ofNat s))), (110, rt (V5 [x0, x1, x2, x3, x4])), (110, rt (V5 [v0, v1, v2, v3, v4])), (113, rt (wv r))] [(112, rt (u q0), HD [r00, r01, r02, r03, 0] [v0, v1, v2, v3, v4])] =
    some (rt (tp [W4 q0 0 0 0, wv r]), [], [PureX Tryz.prog 108 #[W4 b0 b1 b2 b3] (rt (.int .i64 4)), PureX Tryz.prog 109 #[u b3] (rt (.int .i64 (Int.ofNat s))), PureX Tryz.prog 110 #[W4 a0 a1 a2 a3, .int .i64 (Int.ofNat s)] (rt (V5 [x0, x1, x2, x3, x4])), PureX Tryz.prog 110 #[W4 b0 b1 b2 b3, .int .i64 (Int.ofNat s)] (rt (V5 [v0, v1, v2, v3, v4])), CallsV Tryz.prog (.func 112) #[slU 0 4, slV 4] (HD [x0, x1, x2, x3, x4] [v0, v1, v2, v3, v4]) (rt (u q0)) (HD [r00, r01, r02, r03, 0] [v0, v1, v2, v3, v4]), PureX Tryz.prog 113 #[V5 [r00, r01, r02, r03, 0], .int .i64 (Int.ofNat s)] (rt (wv r))]) := by kernel_rfl

theorem lead_top {x : Nat} (h0 : x ≠ 0) (h1 : x < 18446744073709551616) : ∃ s : Nat, 64 - (Lib.bitLen x : Int) = (s : Int) ∧ s < 64 ∧ 9223372036854775808 ≤ x * 2 ^ s ∧ (x + 1) * 2 ^ s ≤ 18446744073709551616 := by
  obtain ⟨b1, b2, b3⟩ := Lib.bitLenAux_bounds 64 x (by omega) h0
  have b4 : Lib.bitLen x ≤ 64 := Lib.bitLen_le x 64 (Nat.le_refl _) (by omega)
  have e : Lib.bitLenAux 64 x = Lib.bitLen x := rfl
  rw [e] at b1 b2 b3
  clear e
  generalize Lib.bitLen x = L at *
  refine ⟨64 - L, by omega, by omega, ?_, ?_⟩
  · have h2 : 2 ^ (L - 1) * 2 ^ (64 - L) ≤ x * 2 ^ (64 - L) := Nat.mul_le_mul_right _ b2
    rw [← Nat.pow_add, show L - 1 + (64 - L) = 63 by omega] at h2
    exact h2
  · have h2 : (x + 1) * 2 ^ (64 - L) ≤ 2 ^ L * 2 ^ (64 - L) := Nat.mul_le_mul_right _ b3
    rw [← Nat.pow_add, show L + (64 - L) = 64 by omega] at h2
    exact h2
/-- How many noughts stand ahead: so many that the highest bit comes to the top. -/
theorem lead_c {x : Nat} (h0 : x ≠ 0) (h1 : x < 18446744073709551616) : ∃ s : Nat, s < 64 ∧ 9223372036854775808 ≤ x * 2 ^ s ∧ (x + 1) * 2 ^ s ≤ 18446744073709551616 ∧ PureX Tryz.prog 109 #[u x] (rt (.int .i64 (Int.ofNat s))) := by
  obtain ⟨s, e, hs, k1, k2⟩ := lead_top h0 h1
  refine ⟨s, hs, k1, k2, fun w _ => ?_⟩
  have h := Tryz.bits_LeadingZeros64 (x : Int) w (by omega) (by omega)
  rw [show ((x : Int)).toNat = x by omega, e] at h
  refine h.mono ?_
  rintro e w' ⟨rfl, rfl⟩
  exact ⟨rfl, Below.refl _ _⟩

end Go.Proofs.YtcmfgabhgodlaaaGreatDoor

/- The long division of sizes. -/
namespace Go.Proofs.YtcmfgabhgodlaaaGreatDoor
open Go Go.RowKit
set_option linter.unusedSimpArgs false
set_option linter.unusedVariables false

theorem ws_grow : ∀ (k x : Nat), x < 18446744073709551616 ^ k → ws (k + 1) x = ws k x ++ [0]
  | 0, x, h => by
    have : x = 0 := by simpa using h
    subst this
    rfl
  | k + 1, x, h => by
    rw [ws, ws_grow k (x / 18446744073709551616) (Nat.div_lt_of_lt_mul (by rw [Nat.mul_comm]; exact h)), ws]
    rfl
theorem ws_grows (k x : Nat) (h : x < 18446744073709551616 ^ k) : ∀ j, ws (k + j) x = ws k x ++ List.replicate j 0
  | 0 => by simp
  | j + 1 => by
    have h2 : x < 18446744073709551616 ^ (k + j) := Nat.lt_of_lt_of_le h (Nat.pow_le_pow_right (by omega) (by omega))
    rw [← Nat.add_assoc, ws_grow (k + j) x h2, ws_grows k x h j, List.append_assoc, List.replicate_succ']
theorem top_bounds {L t P p : Nat} (hL : L < P) (hp : 0 < p) (k1 : 9223372036854775808 ≤ t * p) (k2 : (t + 1) * p ≤ 18446744073709551616) :
    P * 9223372036854775808 ≤ (L + P * t) * p ∧ (L + P * t) * p < P * 18446744073709551616 := by
  have h1 := Nat.mul_le_mul_left P k1
  have h2 := Nat.mul_le_mul_left P k2
  have h3 : L * p < P * p := Nat.mul_lt_mul_of_pos_right hL hp
  rw [Nat.add_mul, Nat.mul_assoc]
  rw [Nat.add_mul, Nat.one_mul, Nat.mul_add] at h2
  omega
theorem ofNat_ne {x : Nat} (h : x ≠ 0) : (Int.ofNat x != 0) = true := by
  rw [bne_iff_ne]
  intro e
  exact h (Int.ofNat.inj e)
theorem lt_next {x R W : Nat} (hx : x < 18446744073709551616) (hR : R < W) : x + 18446744073709551616 * R < W * 18446744073709551616 := by omega
theorem div_uniq {U W Q R a b p : Nat} (hU : U = a * p) (hW : W = b * p) (hp : 0 < p) (hb : 0 < b) (h : R + Q * W = U) (hR : R < W) : Q = a / b ∧ R = a % b * p := by
  subst hU hW
  have h1 : a * p / (b * p) = Q ∧ a * p % (b * p) = R := by
    exact (Nat.div_mod_unique (Nat.mul_pos hb hp)).2 ⟨by rw [Nat.mul_comm (b * p)]; exact h, hR⟩
  rw [Nat.mul_div_mul_right a b hp, Nat.mul_mod_mul_right] at h1
  exact ⟨h1.1.symm, h1.2.symm⟩

set_option maxRecDepth 100000 in
theorem div_1 {a b0 : Nat} (ha : a < Mw) (hb0 : b0 < 18446744073709551616) (hne : b0 ≠ 0) :
    PureX Tryz.prog 99 #[wv a, W4 b0 0 0 0] (rt (tp [wv (a / nvl [b0, 0, 0, 0]), wv (a % nvl [b0, 0, 0, 0])])) := by
  obtain ⟨s, hs, k1, k2, hlead⟩ := lead_c hne hb0
  have hp : 0 < 2 ^ s := Nat.pow_pos (by omega)
  have h2s := two_le hs
  obtain ⟨b, hb⟩ : ∃ b, nvl [b0, 0, 0, 0] = b := ⟨_, rfl⟩
  obtain ⟨W, hW⟩ : ∃ W, b * 2 ^ s = W := ⟨_, rfl⟩
  obtain ⟨U, hU⟩ : ∃ U, a * 2 ^ s = U := ⟨_, rfl⟩
  have hbM : b < Mw := by
    rw [← hb]
    simp only [nvl, Nat.mul_zero, Nat.add_zero, Nat.zero_add]
    unfold Mw
    omega
  have hWb : 1 * 9223372036854775808 ≤ W ∧ W < 1 * 18446744073709551616 := by
    rw [← hW, ← hb]
    have := top_bounds (L := nvl []) (P := 1) (t := b0) (by simp only [nvl, Nat.mul_zero, Nat.add_zero] <;> omega) hp k1 k2
    have e : nvl [] + 1 * b0 = nvl [b0, 0, 0, 0] := by simp only [nvl, Nat.mul_zero, Nat.add_zero, Nat.zero_add] <;> omega
    rw [e] at this
    exact this
  have hUb : U < 115792089237316195423570985008687907853269984665640564039457584007913129639936 * 9223372036854775808 := by
    rw [← hU]
    exact Nat.lt_of_lt_of_le (Nat.mul_lt_mul_of_pos_right ha hp) (Nat.mul_le_mul_left _ h2s)
  have hbp : 0 < b := by
    rcases Nat.eq_zero_or_pos b with h | h
    · subst h; rw [Nat.zero_mul] at hW; omega
    · exact h
  obtain ⟨ca, -⟩ := lifted_c ha hs
  obtain ⟨cb, hW5⟩ := lifted_c hbM hs
  have hU5 := (lifted_c ha hs).2
  rw [hU] at ca hU5
  rw [hW] at cb hW5
  obtain ⟨a0, a1, a2, a3, ea, -⟩ := W4_words (x := a)
  have eb : wv b = W4 b0 0 0 0 := by rw [← hb]; exact wv_nvl hb0 (Nat.succ_pos _) (Nat.succ_pos _) (Nat.succ_pos _)
  rw [ea] at ca ⊢
  rw [eb] at cb
  have hlen := runA_pure mix (len_1 b0 0 0 0) ⟨rfl, rfl, rfl, ofNat_ne hne, trivial⟩ rfl rfl
  obtain ⟨v0, v1, v2, v3, v4, hV5, hVn⟩ : ∃ v0 v1 v2 v3 v4, ws 5 W = [v0, v1, v2, v3, v4] ∧ ws 1 W = [v0] := ⟨_, _, _, _, _, rfl, rfl⟩
  have gs := ws_sm 5 W
  rw [hV5] at cb gs
  have g0 := gs v0 (by simp); have g1 := gs v1 (by simp); have g2 := gs v2 (by simp); have g3 := gs v3 (by simp); have g4 := gs v4 (by simp)
  have eW : nvl [v0] = W := by rw [← hVn]; exact nvl_ws 1 W (by omega)
  have hy : 9223372036854775808 ≤ v0 := by
    have := eW
    simp only [nvl, Nat.mul_zero, Nat.add_zero] at this
    omega
  have hsx := ws_sm 5 U
  have eU := nvl_ws 5 U hU5
  obtain ⟨x0, x1, x2, x3, x4, hX5⟩ : ∃ x0 x1 x2 x3 x4, ws 5 U = [x0, x1, x2, x3, x4] := ⟨_, _, _, _, _, rfl⟩
  rw [hX5] at ca hsx eU
  have h0 := hsx x0 (by simp); have h1 := hsx x1 (by simp); have h2 := hsx x2 (by simp); have h3 := hsx x3 (by simp); have h4 := hsx x4 (by simp)
  have z := Nat.succ_pos 18446744073709551615
  have hWp : 0 < W := by omega
  have lt3 : nvl [x3, x4] < W * 18446744073709551616 := by
    have := eU
    simp only [nvl, Nat.mul_zero, Nat.add_zero] at this ⊢
    omega
  have d3 := dgc_13 h0 h1 h2 h3 h4 g0 g1 g2 g3 g4 hy (by rw [eW]; exact lt3)
  rw [eW] at d3
  obtain ⟨R3, hRe3⟩ : ∃ R, nvl [x3, x4] % W = R := ⟨_, rfl⟩
  obtain ⟨q3, hQe3⟩ : ∃ Q, nvl [x3, x4] / W = Q := ⟨_, rfl⟩
  have hR3 : R3 < W := hRe3 ▸ Nat.mod_lt _ hWp
  have hq3 : q3 < 18446744073709551616 := hQe3 ▸ Nat.div_lt_of_lt_mul lt3
  have hm3 := Nat.div_add_mod' (nvl [x3, x4]) W
  rw [hRe3, hQe3] at hm3 d3
  have hRn3 : R3 < 18446744073709551616 ^ 1 := Nat.lt_trans hR3 (by omega)
  rw [ws_grow 1 R3 hRn3] at d3
  have hsr3 := ws_sm 1 R3
  have en3 := nvl_ws 1 R3 hRn3
  have gr3 := ws_grows 1 R3 hRn3 4
  obtain ⟨r30, hr3⟩ : ∃ r30, ws 1 R3 = [r30] := ⟨_, rfl⟩
  rw [hr3] at d3 hsr3 en3 gr3
  have hr30 := hsr3 r30 (by simp)
  have lt2 : nvl [x2, r30] < W * 18446744073709551616 := by
    rw [nvl, en3]
    exact lt_next h2 hR3
  have d2 := dgc_12 h0 h1 h2 hr30 z g0 g1 g2 g3 g4 hy (by rw [eW]; exact lt2)
  rw [eW] at d2
  obtain ⟨R2, hRe2⟩ : ∃ R, nvl [x2, r30] % W = R := ⟨_, rfl⟩
  obtain ⟨q2, hQe2⟩ : ∃ Q, nvl [x2, r30] / W = Q := ⟨_, rfl⟩
  have hR2 : R2 < W := hRe2 ▸ Nat.mod_lt _ hWp
  have hq2 : q2 < 18446744073709551616 := hQe2 ▸ Nat.div_lt_of_lt_mul lt2
  have hm2 := Nat.div_add_mod' (nvl [x2, r30]) W
  rw [hRe2, hQe2] at hm2 d2
  have hRn2 : R2 < 18446744073709551616 ^ 1 := Nat.lt_trans hR2 (by omega)
  rw [ws_grow 1 R2 hRn2] at d2
  have hsr2 := ws_sm 1 R2
  have en2 := nvl_ws 1 R2 hRn2
  have gr2 := ws_grows 1 R2 hRn2 4
  obtain ⟨r20, hr2⟩ : ∃ r20, ws 1 R2 = [r20] := ⟨_, rfl⟩
  rw [hr2] at d2 hsr2 en2 gr2
  have hr20 := hsr2 r20 (by simp)
  have lt1 : nvl [x1, r20] < W * 18446744073709551616 := by
    rw [nvl, en2]
    exact lt_next h1 hR2
  have d1 := dgc_11 h0 h1 hr20 z z g0 g1 g2 g3 g4 hy (by rw [eW]; exact lt1)
  rw [eW] at d1
  obtain ⟨R1, hRe1⟩ : ∃ R, nvl [x1, r20] % W = R := ⟨_, rfl⟩
  obtain ⟨q1, hQe1⟩ : ∃ Q, nvl [x1, r20] / W = Q := ⟨_, rfl⟩
  have hR1 : R1 < W := hRe1 ▸ Nat.mod_lt _ hWp
  have hq1 : q1 < 18446744073709551616 := hQe1 ▸ Nat.div_lt_of_lt_mul lt1
  have hm1 := Nat.div_add_mod' (nvl [x1, r20]) W
  rw [hRe1, hQe1] at hm1 d1
  have hRn1 : R1 < 18446744073709551616 ^ 1 := Nat.lt_trans hR1 (by omega)
  rw [ws_grow 1 R1 hRn1] at d1
  have hsr1 := ws_sm 1 R1
  have en1 := nvl_ws 1 R1 hRn1
  have gr1 := ws_grows 1 R1 hRn1 4
  obtain ⟨r10, hr1⟩ : ∃ r10, ws 1 R1 = [r10] := ⟨_, rfl⟩
  rw [hr1] at d1 hsr1 en1 gr1
  have hr10 := hsr1 r10 (by simp)
  have lt0 : nvl [x0, r10] < W * 18446744073709551616 := by
    rw [nvl, en1]
    exact lt_next h0 hR1
  have d0 := dgc_10 h0 hr10 z z z g0 g1 g2 g3 g4 hy (by rw [eW]; exact lt0)
  rw [eW] at d0
  obtain ⟨R0, hRe0⟩ : ∃ R, nvl [x0, r10] % W = R := ⟨_, rfl⟩
  obtain ⟨q0, hQe0⟩ : ∃ Q, nvl [x0, r10] / W = Q := ⟨_, rfl⟩
  have hR0 : R0 < W := hRe0 ▸ Nat.mod_lt _ hWp
  have hq0 : q0 < 18446744073709551616 := hQe0 ▸ Nat.div_lt_of_lt_mul lt0
  have hm0 := Nat.div_add_mod' (nvl [x0, r10]) W
  rw [hRe0, hQe0] at hm0 d0
  have hRn0 : R0 < 18446744073709551616 ^ 1 := Nat.lt_trans hR0 (by omega)
  rw [ws_grow 1 R0 hRn0] at d0
  have hsr0 := ws_sm 1 R0
  have en0 := nvl_ws 1 R0 hRn0
  have gr0 := ws_grows 1 R0 hRn0 4
  obtain ⟨r00, hr0⟩ : ∃ r00, ws 1 R0 = [r00] := ⟨_, rfl⟩
  rw [hr0] at d0 hsr0 en0 gr0
  have hr00 := hsr0 r00 (by simp)
  have hfin : R0 + nvl [q0, q1, q2, q3] * W = U := by
    rw [← eU]
    simp only [nvl, Nat.mul_zero, Nat.add_zero, Nat.zero_add, Nat.zero_mul, Nat.add_mul, Nat.mul_assoc] at hm0 hm1 hm2 hm3 en0 en1 en2 en3 ⊢
    generalize q0 * W = T0 at *
    generalize q1 * W = T1 at *
    generalize q2 * W = T2 at *
    generalize q3 * W = T3 at *
    omega
  obtain ⟨eq, er⟩ := div_uniq hU.symm hW.symm hp hbp hfin hR0
  have hlow := lowered_c (r := a % b) (s := s) (Nat.lt_trans (Nat.mod_lt _ hbp) hbM) hs
  rw [← er, show (5 : Nat) = 1 + 4 from rfl, gr0] at hlow
  rw [hb, ← eq, wv_nvl hq0 hq1 hq2 hq3]
  exact runB_pure mix (dv_1 a0 a1 a2 a3 b0 0 0 0 s x0 x1 x2 x3 x4 v0 v1 v2 v3 v4 (a % b) r30 q3 r20 q2 r10 q1 r00 q0) ⟨hlen, hlead, ca, cb, d3, d2, d1, d0, hlow, trivial⟩ rfl rfl
set_option maxRecDepth 100000 in
theorem div_2 {a b0 b1 : Nat} (ha : a < Mw) (hb0 : b0 < 18446744073709551616) (hb1 : b1 < 18446744073709551616) (hne : b1 ≠ 0) :
    PureX Tryz.prog 99 #[wv a, W4 b0 b1 0 0] (rt (tp [wv (a / nvl [b0, b1, 0, 0]), wv (a % nvl [b0, b1, 0, 0])])) := by
  obtain ⟨s, hs, k1, k2, hlead⟩ := lead_c hne hb1
  have hp : 0 < 2 ^ s := Nat.pow_pos (by omega)
  have h2s := two_le hs
  obtain ⟨b, hb⟩ : ∃ b, nvl [b0, b1, 0, 0] = b := ⟨_, rfl⟩
  obtain ⟨W, hW⟩ : ∃ W, b * 2 ^ s = W := ⟨_, rfl⟩
  obtain ⟨U, hU⟩ : ∃ U, a * 2 ^ s = U := ⟨_, rfl⟩
  have hbM : b < Mw := by
    rw [← hb]
    simp only [nvl, Nat.mul_zero, Nat.add_zero, Nat.zero_add]
    unfold Mw
    omega
  have hWb : 18446744073709551616 * 9223372036854775808 ≤ W ∧ W < 18446744073709551616 * 18446744073709551616 := by
    rw [← hW, ← hb]
    have := top_bounds (L := nvl [b0]) (P := 18446744073709551616) (t := b1) (by simp only [nvl, Nat.mul_zero, Nat.add_zero] <;> omega) hp k1 k2
    have e : nvl [b0] + 18446744073709551616 * b1 = nvl [b0, b1, 0, 0] := by simp only [nvl, Nat.mul_zero, Nat.add_zero, Nat.zero_add] <;> omega
    rw [e] at this
    exact this
  have hUb : U < 115792089237316195423570985008687907853269984665640564039457584007913129639936 * 9223372036854775808 := by
    rw [← hU]
    exact Nat.lt_of_lt_of_le (Nat.mul_lt_mul_of_pos_right ha hp) (Nat.mul_le_mul_left _ h2s)
  have hbp : 0 < b := by
    rcases Nat.eq_zero_or_pos b with h | h
    · subst h; rw [Nat.zero_mul] at hW; omega
    · exact h
  obtain ⟨ca, -⟩ := lifted_c ha hs
  obtain ⟨cb, hW5⟩ := lifted_c hbM hs
  have hU5 := (lifted_c ha hs).2
  rw [hU] at ca hU5
  rw [hW] at cb hW5
  obtain ⟨a0, a1, a2, a3, ea, -⟩ := W4_words (x := a)
  have eb : wv b = W4 b0 b1 0 0 := by rw [← hb]; exact wv_nvl hb0 hb1 (Nat.succ_pos _) (Nat.succ_pos _)
  rw [ea] at ca ⊢
  rw [eb] at cb
  have hlen := runA_pure mix (len_2 b0 b1 0 0) ⟨rfl, rfl, ofNat_ne hne, trivial⟩ rfl rfl
  obtain ⟨v0, v1, v2, v3, v4, hV5, hVn⟩ : ∃ v0 v1 v2 v3 v4, ws 5 W = [v0, v1, v2, v3, v4] ∧ ws 2 W = [v0, v1] := ⟨_, _, _, _, _, rfl, rfl⟩
  have gs := ws_sm 5 W
  rw [hV5] at cb gs
  have g0 := gs v0 (by simp); have g1 := gs v1 (by simp); have g2 := gs v2 (by simp); have g3 := gs v3 (by simp); have g4 := gs v4 (by simp)
  have eW : nvl [v0, v1] = W := by rw [← hVn]; exact nvl_ws 2 W (by omega)
  have hy : 9223372036854775808 ≤ v1 := by
    have := eW
    simp only [nvl, Nat.mul_zero, Nat.add_zero] at this
    omega
  have hsx := ws_sm 5 U
  have eU := nvl_ws 5 U hU5
  obtain ⟨x0, x1, x2, x3, x4, hX5⟩ : ∃ x0 x1 x2 x3 x4, ws 5 U = [x0, x1, x2, x3, x4] := ⟨_, _, _, _, _, rfl⟩
  rw [hX5] at ca hsx eU
  have h0 := hsx x0 (by simp); have h1 := hsx x1 (by simp); have h2 := hsx x2 (by simp); have h3 := hsx x3 (by simp); have h4 := hsx x4 (by simp)
  have z := Nat.succ_pos 18446744073709551615
  have hWp : 0 < W := by omega
  have lt2 : nvl [x2, x3, x4] < W * 18446744073709551616 := by
    have := eU
    simp only [nvl, Nat.mul_zero, Nat.add_zero] at this ⊢
    omega
  have d2 := dgc_22 h0 h1 h2 h3 h4 g0 g1 g2 g3 g4 hy (by rw [eW]; exact lt2)
  rw [eW] at d2
  obtain ⟨R2, hRe2⟩ : ∃ R, nvl [x2, x3, x4] % W = R := ⟨_, rfl⟩
  obtain ⟨q2, hQe2⟩ : ∃ Q, nvl [x2, x3, x4] / W = Q := ⟨_, rfl⟩
  have hR2 : R2 < W := hRe2 ▸ Nat.mod_lt _ hWp
  have hq2 : q2 < 18446744073709551616 := hQe2 ▸ Nat.div_lt_of_lt_mul lt2
  have hm2 := Nat.div_add_mod' (nvl [x2, x3, x4]) W
  rw [hRe2, hQe2] at hm2 d2
  have hRn2 : R2 < 18446744073709551616 ^ 2 := Nat.lt_trans hR2 (by omega)
  rw [ws_grow 2 R2 hRn2] at d2
  have hsr2 := ws_sm 2 R2
  have en2 := nvl_ws 2 R2 hRn2
  have gr2 := ws_grows 2 R2 hRn2 3
  obtain ⟨r20, r21, hr2⟩ : ∃ r20 r21, ws 2 R2 = [r20, r21] := ⟨_, _, rfl⟩
  rw [hr2] at d2 hsr2 en2 gr2
  have hr20 := hsr2 r20 (by simp)
  have hr21 := hsr2 r21 (by simp)
  have lt1 : nvl [x1, r20, r21] < W * 18446744073709551616 := by
    rw [nvl, en2]
    exact lt_next h1 hR2
  have d1 := dgc_21 h0 h1 hr20 hr21 z g0 g1 g2 g3 g4 hy (by rw [eW]; exact lt1)
  rw [eW] at d1
  obtain ⟨R1, hRe1⟩ : ∃ R, nvl [x1, r20, r21] % W = R := ⟨_, rfl⟩
  obtain ⟨q1, hQe1⟩ : ∃ Q, nvl [x1, r20, r21] / W = Q := ⟨_, rfl⟩
  have hR1 : R1 < W := hRe1 ▸ Nat.mod_lt _ hWp
  have hq1 : q1 < 18446744073709551616 := hQe1 ▸ Nat.div_lt_of_lt_mul lt1
  have hm1 := Nat.div_add_mod' (nvl [x1, r20, r21]) W
  rw [hRe1, hQe1] at hm1 d1
  have hRn1 : R1 < 18446744073709551616 ^ 2 := Nat.lt_trans hR1 (by omega)
  rw [ws_grow 2 R1 hRn1] at d1
  have hsr1 := ws_sm 2 R1
  have en1 := nvl_ws 2 R1 hRn1
  have gr1 := ws_grows 2 R1 hRn1 3
  obtain ⟨r10, r11, hr1⟩ : ∃ r10 r11, ws 2 R1 = [r10, r11] := ⟨_, _, rfl⟩
  rw [hr1] at d1 hsr1 en1 gr1
  have hr10 := hsr1 r10 (by simp)
  have hr11 := hsr1 r11 (by simp)
  have lt0 : nvl [x0, r10, r11] < W * 18446744073709551616 := by
    rw [nvl, en1]
    exact lt_next h0 hR1
  have d0 := dgc_20 h0 hr10 hr11 z z g0 g1 g2 g3 g4 hy (by rw [eW]; exact lt0)
  rw [eW] at d0
  obtain ⟨R0, hRe0⟩ : ∃ R, nvl [x0, r10, r11] % W = R := ⟨_, rfl⟩
  obtain ⟨q0, hQe0⟩ : ∃ Q, nvl [x0, r10, r11] / W = Q := ⟨_, rfl⟩
  have hR0 : R0 < W := hRe0 ▸ Nat.mod_lt _ hWp
  have hq0 : q0 < 18446744073709551616 := hQe0 ▸ Nat.div_lt_of_lt_mul lt0
  have hm0 := Nat.div_add_mod' (nvl [x0, r10, r11]) W
  rw [hRe0, hQe0] at hm0 d0
  have hRn0 : R0 < 18446744073709551616 ^ 2 := Nat.lt_trans hR0 (by omega)
  rw [ws_grow 2 R0 hRn0] at d0
  have hsr0 := ws_sm 2 R0
  have en0 := nvl_ws 2 R0 hRn0
  have gr0 := ws_grows 2 R0 hRn0 3
  obtain ⟨r00, r01, hr0⟩ : ∃ r00 r01, ws 2 R0 = [r00, r01] := ⟨_, _, rfl⟩
  rw [hr0] at d0 hsr0 en0 gr0
  have hr00 := hsr0 r00 (by simp)
  have hr01 := hsr0 r01 (by simp)
  have hfin : R0 + nvl [q0, q1, q2, 0] * W = U := by
    rw [← eU]
    simp only [nvl, Nat.mul_zero, Nat.add_zero, Nat.zero_add, Nat.zero_mul, Nat.add_mul, Nat.mul_assoc] at hm0 hm1 hm2 en0 en1 en2 ⊢
    generalize q0 * W = T0 at *
    generalize q1 * W = T1 at *
    generalize q2 * W = T2 at *
    omega
  obtain ⟨eq, er⟩ := div_uniq hU.symm hW.symm hp hbp hfin hR0
  have hlow := lowered_c (r := a % b) (s := s) (Nat.lt_trans (Nat.mod_lt _ hbp) hbM) hs
  rw [← er, show (5 : Nat) = 2 + 3 from rfl, gr0] at hlow
  rw [hb, ← eq, wv_nvl hq0 hq1 hq2 z]
  exact runB_pure mix (dv_2 a0 a1 a2 a3 b0 b1 0 0 s x0 x1 x2 x3 x4 v0 v1 v2 v3 v4 (a % b) r20 r21 q2 r10 r11 q1 r00 r01 q0) ⟨hlen, hlead, ca, cb, d2, d1, d0, hlow, trivial⟩ rfl rfl
set_option maxRecDepth 100000 in
theorem div_3 {a b0 b1 b2 : Nat} (ha : a < Mw) (hb0 : b0 < 18446744073709551616) (hb1 : b1 < 18446744073709551616) (hb2 : b2 < 18446744073709551616) (hne : b2 ≠ 0) :
    PureX Tryz.prog 99 #[wv a, W4 b0 b1 b2 0] (rt (tp [wv (a / nvl [b0, b1, b2, 0]), wv (a % nvl [b0, b1, b2, 0])])) := by
  obtain ⟨s, hs, k1, k2, hlead⟩ := lead_c hne hb2
  have hp : 0 < 2 ^ s := Nat.pow_pos (by omega)
  have h2s := two_le hs
  obtain ⟨b, hb⟩ : ∃ b, nvl [b0, b1, b2, 0] = b := ⟨_, rfl⟩
  obtain ⟨W, hW⟩ : ∃ W, b * 2 ^ s = W := ⟨_, rfl⟩
  obtain ⟨U, hU⟩ : ∃ U, a * 2 ^ s = U := ⟨_, rfl⟩
  have hbM : b < Mw := by
    rw [← hb]
    simp only [nvl, Nat.mul_zero, Nat.add_zero, Nat.zero_add]
    unfold Mw
    omega
  have hWb : 340282366920938463463374607431768211456 * 9223372036854775808 ≤ W ∧ W < 340282366920938463463374607431768211456 * 18446744073709551616 := by
    rw [← hW, ← hb]
    have := top_bounds (L := nvl [b0, b1]) (P := 340282366920938463463374607431768211456) (t := b2) (by simp only [nvl, Nat.mul_zero, Nat.add_zero] <;> omega) hp k1 k2
    have e : nvl [b0, b1] + 340282366920938463463374607431768211456 * b2 = nvl [b0, b1, b2, 0] := by simp only [nvl, Nat.mul_zero, Nat.add_zero, Nat.zero_add] <;> omega
    rw [e] at this
    exact this
  have hUb : U < 115792089237316195423570985008687907853269984665640564039457584007913129639936 * 9223372036854775808 := by
    rw [← hU]
    exact Nat.lt_of_lt_of_le (Nat.mul_lt_mul_of_pos_right ha hp) (Nat.mul_le_mul_left _ h2s)
  have hbp : 0 < b := by
    rcases Nat.eq_zero_or_pos b with h | h
    · subst h; rw [Nat.zero_mul] at hW; omega
    · exact h
  obtain ⟨ca, -⟩ := lifted_c ha hs
  obtain ⟨cb, hW5⟩ := lifted_c hbM hs
  have hU5 := (lifted_c ha hs).2
  rw [hU] at ca hU5
  rw [hW] at cb hW5
  obtain ⟨a0, a1, a2, a3, ea, -⟩ := W4_words (x := a)
  have eb : wv b = W4 b0 b1 b2 0 := by rw [← hb]; exact wv_nvl hb0 hb1 hb2 (Nat.succ_pos _)
  rw [ea] at ca ⊢
  rw [eb] at cb
  have hlen := runA_pure mix (len_3 b0 b1 b2 0) ⟨rfl, ofNat_ne hne, trivial⟩ rfl rfl
  obtain ⟨v0, v1, v2, v3, v4, hV5, hVn⟩ : ∃ v0 v1 v2 v3 v4, ws 5 W = [v0, v1, v2, v3, v4] ∧ ws 3 W = [v0, v1, v2] := ⟨_, _, _, _, _, rfl, rfl⟩
  have gs := ws_sm 5 W
  rw [hV5] at cb gs
  have g0 := gs v0 (by simp); have g1 := gs v1 (by simp); have g2 := gs v2 (by simp); have g3 := gs v3 (by simp); have g4 := gs v4 (by simp)
  have eW : nvl [v0, v1, v2] = W := by rw [← hVn]; exact nvl_ws 3 W (by omega)
  have hy : 9223372036854775808 ≤ v2 := by
    have := eW
    simp only [nvl, Nat.mul_zero, Nat.add_zero] at this
    omega
  have hsx := ws_sm 5 U
  have eU := nvl_ws 5 U hU5
  obtain ⟨x0, x1, x2, x3, x4, hX5⟩ : ∃ x0 x1 x2 x3 x4, ws 5 U = [x0, x1, x2, x3, x4] := ⟨_, _, _, _, _, rfl⟩
  rw [hX5] at ca hsx eU
  have h0 := hsx x0 (by simp); have h1 := hsx x1 (by simp); have h2 := hsx x2 (by simp); have h3 := hsx x3 (by simp); have h4 := hsx x4 (by simp)
  have z := Nat.succ_pos 18446744073709551615
  have hWp : 0 < W := by omega
  have lt1 : nvl [x1, x2, x3, x4] < W * 18446744073709551616 := by
    have := eU
    simp only [nvl, Nat.mul_zero, Nat.add_zero] at this ⊢
    omega
  have d1 := dgc_31 h0 h1 h2 h3 h4 g0 g1 g2 g3 g4 hy (by rw [eW]; exact lt1)
  rw [eW] at d1
  obtain ⟨R1, hRe1⟩ : ∃ R, nvl [x1, x2, x3, x4] % W = R := ⟨_, rfl⟩
  obtain ⟨q1, hQe1⟩ : ∃ Q, nvl [x1, x2, x3, x4] / W = Q := ⟨_, rfl⟩
  have hR1 : R1 < W := hRe1 ▸ Nat.mod_lt _ hWp
  have hq1 : q1 < 18446744073709551616 := hQe1 ▸ Nat.div_lt_of_lt_mul lt1
  have hm1 := Nat.div_add_mod' (nvl [x1, x2, x3, x4]) W
  rw [hRe1, hQe1] at hm1 d1
  have hRn1 : R1 < 18446744073709551616 ^ 3 := Nat.lt_trans hR1 (by omega)
  rw [ws_grow 3 R1 hRn1] at d1
  have hsr1 := ws_sm 3 R1
  have en1 := nvl_ws 3 R1 hRn1
  have gr1 := ws_grows 3 R1 hRn1 2
  obtain ⟨r10, r11, r12, hr1⟩ : ∃ r10 r11 r12, ws 3 R1 = [r10, r11, r12] := ⟨_, _, _, rfl⟩
  rw [hr1] at d1 hsr1 en1 gr1
  have hr10 := hsr1 r10 (by simp)
  have hr11 := hsr1 r11 (by simp)
  have hr12 := hsr1 r12 (by simp)
  have lt0 : nvl [x0, r10, r11, r12] < W * 18446744073709551616 := by
    rw [nvl, en1]
    exact lt_next h0 hR1
  have d0 := dgc_30 h0 hr10 hr11 hr12 z g0 g1 g2 g3 g4 hy (by rw [eW]; exact lt0)
  rw [eW] at d0
  obtain ⟨R0, hRe0⟩ : ∃ R, nvl [x0, r10, r11, r12] % W = R := ⟨_, rfl⟩
  obtain ⟨q0, hQe0⟩ : ∃ Q, nvl [x0, r10, r11, r12] / W = Q := ⟨_, rfl⟩
  have hR0 : R0 < W := hRe0 ▸ Nat.mod_lt _ hWp
  have hq0 : q0 < 18446744073709551616 := hQe0 ▸ Nat.div_lt_of_lt_mul lt0
  have hm0 := Nat.div_add_mod' (nvl [x0, r10, r11, r12]) W
  rw [hRe0, hQe0] at hm0 d0
  have hRn0 : R0 < 18446744073709551616 ^ 3 := Nat.lt_trans hR0 (by omega)
  rw [ws_grow 3 R0 hRn0] at d0
  have hsr0 := ws_sm 3 R0
  have en0 := nvl_ws 3 R0 hRn0
  have gr0 := ws_grows 3 R0 hRn0 2
  obtain ⟨r00, r01, r02, hr0⟩ : ∃ r00 r01 r02, ws 3 R0 = [r00, r01, r02] := ⟨_, _, _, rfl⟩
  rw [hr0] at d0 hsr0 en0 gr0
  have hr00 := hsr0 r00 (by simp)
  have hr01 := hsr0 r01 (by simp)
  have hr02 := hsr0 r02 (by simp)
  have hfin : R0 + nvl [q0, q1, 0, 0] * W = U := by
    rw [← eU]
    simp only [nvl, Nat.mul_zero, Nat.add_zero, Nat.zero_add, Nat.zero_mul, Nat.add_mul, Nat.mul_assoc] at hm0 hm1 en0 en1 ⊢
    generalize q0 * W = T0 at *
    generalize q1 * W = T1 at *
    omega
  obtain ⟨eq, er⟩ := div_uniq hU.symm hW.symm hp hbp hfin hR0
  have hlow := lowered_c (r := a % b) (s := s) (Nat.lt_trans (Nat.mod_lt _ hbp) hbM) hs
  rw [← er, show (5 : Nat) = 3 + 2 from rfl, gr0] at hlow
  rw [hb, ← eq, wv_nvl hq0 hq1 z z]
  exact runB_pure mix (dv_3 a0 a1 a2 a3 b0 b1 b2 0 s x0 x1 x2 x3 x4 v0 v1 v2 v3 v4 (a % b) r10 r11 r12 q1 r00 r01 r02 q0) ⟨hlen, hlead, ca, cb, d1, d0, hlow, trivial⟩ rfl rfl
set_option maxRecDepth 100000 in
theorem div_4 {a b0 b1 b2 b3 : Nat} (ha : a < Mw) (hb0 : b0 < 18446744073709551616) (hb1 : b1 < 18446744073709551616) (hb2 : b2 < 18446744073709551616) (hb3 : b3 < 18446744073709551616) (hne : b3 ≠ 0) :
    PureX Tryz.prog 99 #[wv a, W4 b0 b1 b2 b3] (rt (tp [wv (a / nvl [b0, b1, b2, b3]), wv (a % nvl [b0, b1, b2, b3])])) := by
  obtain ⟨s, hs, k1, k2, hlead⟩ := lead_c hne hb3
  have hp : 0 < 2 ^ s := Nat.pow_pos (by omega)
  have h2s := two_le hs
  obtain ⟨b, hb⟩ : ∃ b, nvl [b0, b1, b2, b3] = b := ⟨_, rfl⟩
  obtain ⟨W, hW⟩ : ∃ W, b * 2 ^ s = W := ⟨_, rfl⟩
  obtain ⟨U, hU⟩ : ∃ U, a * 2 ^ s = U := ⟨_, rfl⟩
  have hbM : b < Mw := by
    rw [← hb]
    simp only [nvl, Nat.mul_zero, Nat.add_zero, Nat.zero_add]
    unfold Mw
    omega
  have hWb : 6277101735386680763835789423207666416102355444464034512896 * 9223372036854775808 ≤ W ∧ W < 6277101735386680763835789423207666416102355444464034512896 * 18446744073709551616 := by
    rw [← hW, ← hb]
    have := top_bounds (L := nvl [b0, b1, b2]) (P := 6277101735386680763835789423207666416102355444464034512896) (t := b3) (by simp only [nvl, Nat.mul_zero, Nat.add_zero] <;> omega) hp k1 k2
    have e : nvl [b0, b1, b2] + 6277101735386680763835789423207666416102355444464034512896 * b3 = nvl [b0, b1, b2, b3] := by simp only [nvl, Nat.mul_zero, Nat.add_zero, Nat.zero_add] <;> omega
    rw [e] at this
    exact this
  have hUb : U < 115792089237316195423570985008687907853269984665640564039457584007913129639936 * 9223372036854775808 := by
    rw [← hU]
    exact Nat.lt_of_lt_of_le (Nat.mul_lt_mul_of_pos_right ha hp) (Nat.mul_le_mul_left _ h2s)
  have hbp : 0 < b := by
    rcases Nat.eq_zero_or_pos b with h | h
    · subst h; rw [Nat.zero_mul] at hW; omega
    · exact h
  obtain ⟨ca, -⟩ := lifted_c ha hs
  obtain ⟨cb, hW5⟩ := lifted_c hbM hs
  have hU5 := (lifted_c ha hs).2
  rw [hU] at ca hU5
  rw [hW] at cb hW5
  obtain ⟨a0, a1, a2, a3, ea, -⟩ := W4_words (x := a)
  have eb : wv b = W4 b0 b1 b2 b3 := by rw [← hb]; exact wv_nvl hb0 hb1 hb2 hb3
  rw [ea] at ca ⊢
  rw [eb] at cb
  have hlen := runA_pure mix (len_4 b0 b1 b2 b3) ⟨ofNat_ne hne, trivial⟩ rfl rfl
  obtain ⟨v0, v1, v2, v3, v4, hV5, hVn⟩ : ∃ v0 v1 v2 v3 v4, ws 5 W = [v0, v1, v2, v3, v4] ∧ ws 4 W = [v0, v1, v2, v3] := ⟨_, _, _, _, _, rfl, rfl⟩
  have gs := ws_sm 5 W
  rw [hV5] at cb gs
  have g0 := gs v0 (by simp); have g1 := gs v1 (by simp); have g2 := gs v2 (by simp); have g3 := gs v3 (by simp); have g4 := gs v4 (by simp)
  have eW : nvl [v0, v1, v2, v3] = W := by rw [← hVn]; exact nvl_ws 4 W (by omega)
  have hy : 9223372036854775808 ≤ v3 := by
    have := eW
    simp only [nvl, Nat.mul_zero, Nat.add_zero] at this
    omega
  have hsx := ws_sm 5 U
  have eU := nvl_ws 5 U hU5
  obtain ⟨x0, x1, x2, x3, x4, hX5⟩ : ∃ x0 x1 x2 x3 x4, ws 5 U = [x0, x1, x2, x3, x4] := ⟨_, _, _, _, _, rfl⟩
  rw [hX5] at ca hsx eU
  have h0 := hsx x0 (by simp); have h1 := hsx x1 (by simp); have h2 := hsx x2 (by simp); have h3 := hsx x3 (by simp); have h4 := hsx x4 (by simp)
  have z := Nat.succ_pos 18446744073709551615
  have hWp : 0 < W := by omega
  have lt0 : nvl [x0, x1, x2, x3, x4] < W * 18446744073709551616 := by
    have := eU
    simp only [nvl, Nat.mul_zero, Nat.add_zero] at this ⊢
    omega
  have d0 := dgc_40 h0 h1 h2 h3 h4 g0 g1 g2 g3 g4 hy (by rw [eW]; exact lt0)
  rw [eW] at d0
  obtain ⟨R0, hRe0⟩ : ∃ R, nvl [x0, x1, x2, x3, x4] % W = R := ⟨_, rfl⟩
  obtain ⟨q0, hQe0⟩ : ∃ Q, nvl [x0, x1, x2, x3, x4] / W = Q := ⟨_, rfl⟩
  have hR0 : R0 < W := hRe0 ▸ Nat.mod_lt _ hWp
  have hq0 : q0 < 18446744073709551616 := hQe0 ▸ Nat.div_lt_of_lt_mul lt0
  have hm0 := Nat.div_add_mod' (nvl [x0, x1, x2, x3, x4]) W
  rw [hRe0, hQe0] at hm0 d0
  have hRn0 : R0 < 18446744073709551616 ^ 4 := Nat.lt_trans hR0 (by omega)
  rw [ws_grow 4 R0 hRn0] at d0
  have hsr0 := ws_sm 4 R0
  have en0 := nvl_ws 4 R0 hRn0
  have gr0 := ws_grows 4 R0 hRn0 1
  obtain ⟨r00, r01, r02, r03, hr0⟩ : ∃ r00 r01 r02 r03, ws 4 R0 = [r00, r01, r02, r03] := ⟨_, _, _, _, rfl⟩
  rw [hr0] at d0 hsr0 en0 gr0
  have hr00 := hsr0 r00 (by simp)
  have hr01 := hsr0 r01 (by simp)
  have hr02 := hsr0 r02 (by simp)
  have hr03 := hsr0 r03 (by simp)
  have hfin : R0 + nvl [q0, 0, 0, 0] * W = U := by
    rw [← eU]
    simp only [nvl, Nat.mul_zero, Nat.add_zero, Nat.zero_add, Nat.zero_mul, Nat.add_mul, Nat.mul_assoc] at hm0 en0 ⊢
    generalize q0 * W = T0 at *
    omega
  obtain ⟨eq, er⟩ := div_uniq hU.symm hW.symm hp hbp hfin hR0
  have hlow := lowered_c (r := a % b) (s := s) (Nat.lt_trans (Nat.mod_lt _ hbp) hbM) hs
  rw [← er, show (5 : Nat) = 4 + 1 from rfl, gr0] at hlow
  rw [hb, ← eq, wv_nvl hq0 z z z]
  exact runB_pure mix (dv_4 a0 a1 a2 a3 b0 b1 b2 b3 s x0 x1 x2 x3 x4 v0 v1 v2 v3 v4 (a % b) r00 r01 r02 r03 q0) ⟨hlen, hlead, ca, cb, d0, hlow, trivial⟩ rfl rfl

theorem div_ok : DivOK := by
  intro a b ha hb0 hb
  obtain ⟨b0, b1, b2, b3, eb, h0, h1, h2, h3, hv⟩ := W4_words (x := b)
  rw [Nat.mod_eq_of_lt hb] at hv
  rw [eb, ← hv]
  by_cases c3 : b3 = 0
  · subst c3
    by_cases c2 : b2 = 0
    · subst c2
      by_cases c1 : b1 = 0
      · subst c1
        refine div_1 ha h0 (fun c0 => ?_)
        subst c0
        simp [nvl] at hv
        omega
      · exact div_2 ha h0 h1 c1
    · exact div_3 ha h0 h1 h2 c2
  · exact div_4 ha h0 h1 h2 h3 c3

end Go.Proofs.YtcmfgabhgodlaaaGreatDoor

/- Rests, shifts, ints by ints; what the law's examples come to. -/
namespace Go.Proofs.YtcmfgabhgodlaaaGreatDoor
open Go Go.RowKit
set_option linter.unusedSimpArgs false
set_option linter.unusedVariables false

/-- A whole quotient is in range. -/
theorem who_in {x y : Int} (hx : inR x) (hx1 : x ≠ least) (h0 : y ≠ 0) (far : Bool) (hf : far = true → x.natAbs % y.natAbs ≠ 0) : inR (wholeI x y (x.natAbs / y.natAbs) far) := by
  have hl : x.natAbs < 57896044618658097711785492504343953926634992332820282019728792003956564819968 := by
    have : x ≠ -57896044618658097711785492504343953926634992332820282019728792003956564819968 := hx1
    unfold inR at hx
    omega
  have hq := Nat.div_le_self x.natAbs y.natAbs
  have hb : x.natAbs / y.natAbs + (if far = true then 1 else 0) < 57896044618658097711785492504343953926634992332820282019728792003956564819968 := by
    cases far with
    | false => simp only [Bool.false_eq_true, if_false, Nat.add_zero]; exact Nat.lt_of_le_of_lt hq hl
    | true =>
      have h1 := hf rfl
      have h2 : 2 ≤ y.natAbs := by
        rcases (show y.natAbs = 1 ∨ 2 ≤ y.natAbs by omega) with h | h
        · rw [h, Nat.mod_one] at h1; exact absurd rfl h1
        · exact h
      have h3 : x.natAbs / y.natAbs * 2 ≤ x.natAbs := Nat.le_trans (Nat.mul_le_mul_left _ h2) (Nat.div_mul_le_self _ _)
      simp only [if_true]
      generalize x.natAbs / y.natAbs = q at *
      omega
  unfold wholeI inR
  generalize x.natAbs / y.natAbs = q at *
  have e : (((if far = true then 1 else 0 : Nat)) : Int) = (if far = true then 1 else 0 : Int) := by split <;> rfl
  rw [← e]
  generalize (if far = true then 1 else 0 : Nat) = f at *
  split <;> omega
theorem flI_in {x y : Int} (hx : inR x) (hx1 : x ≠ least) (h0 : y ≠ 0) : inR (flI x y) := who_in hx hx1 h0 _ (by simp)
theorem ceI_in {x y : Int} (hx : inR x) (hx1 : x ≠ least) (h0 : y ≠ 0) : inR (ceI x y) := who_in hx hx1 h0 _ (by simp)
theorem neI_in {x y : Int} (hx : inR x) (hx1 : x ≠ least) (h0 : y ≠ 0) : inR (neI x y) := who_in hx hx1 h0 _ (by
  intro h
  have h2 := of_decide_eq_true h
  omega)
theorem eu_div (x y : Int) : x.natAbs = y.natAbs * (x.natAbs / y.natAbs) + x.natAbs % y.natAbs := (Nat.div_add_mod _ _).symm
theorem flI_side {x y : Int} (h0 : y ≠ 0) : OnSide (x - y * flI x y) y := floor_int h0 (eu_div x y) (Nat.mod_lt _ (by omega))
theorem ceI_side {x y : Int} (h0 : y ≠ 0) : OnSide (y * ceI x y - x) y := ceil_int h0 (eu_div x y) (Nat.mod_lt _ (by omega))
theorem neI_near {x y : Int} (h0 : y ≠ 0) : Nearest x y (neI x y) := near_int h0 (eu_div x y) (Nat.mod_lt _ (by omega))

theorem sub_any (x p : Int) : ∃ o, PureX Tryz.prog 91 #[wz x, wz p] (rt (tp [wz (x - p), bb o])) := by
  have h := sub_x (nz x) (nz p)
  rw [(dif_wv x p).1] at h
  exact ⟨_, h⟩
theorem ii_in {x y : Int} (hx : isI x) (hy : isI y) : inR (x * y) ∧ x * y ≠ least := by
  unfold isI at hx hy
  have h1 : (x * y).natAbs ≤ 9223372036854775808 * 9223372036854775808 := by
    rw [Int.natAbs_mul]
    exact Nat.mul_le_mul (by omega) (by omega)
  have hne : x * y ≠ -57896044618658097711785492504343953926634992332820282019728792003956564819968 := by omega
  exact ⟨by unfold inR; omega, hne⟩
theorem isI_ne {x : Int} (h : isI x) : x ≠ least := by
  unfold isI at h
  have : x ≠ -57896044618658097711785492504343953926634992332820282019728792003956564819968 := by omega
  exact this
end Go.Proofs.YtcmfgabhgodlaaaGreatDoor

/- Rest and Left, where they are left by an error. -/
namespace Go.Proofs.YtcmfgabhgodlaaaGreatDoor
open Go Go.RowKit
set_option linter.unusedSimpArgs false
set_option linter.unusedVariables false

/-- A block with a wide number; a pointer to a block. -/
def wo (x : Nat) : Obj := .cells (wv x).cells 41 (0, 0)
def io (k : Int) : Obj := .cells #[.int .i64 k] 3 (0, 0)
def pt (b : Nat) : Value := .pointer (some { block := b, off := 0 })
end Go.Proofs.YtcmfgabhgodlaaaGreatDoor
