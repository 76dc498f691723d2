/- The long division of sizes. -/
import Derived.Test.YtpbhoamojocbpaaD10
namespace Go.Proofs.Ytpbhoamojocbpaa
open Go Go.RowKit
set_option linter.unusedSimpArgs false
set_option linter.unusedVariables false

theorem ws_grow : ∀ (k x : Nat), x < 18446744073709551616 ^ k → ws (k + 1) x = ws k x ++ [0]
  | 0, x, h => by
    have : x = 0 := by simpa using h
    subst this
    rfl
  | k + 1, x, h => by
    rw [ws, ws_grow k (x / 18446744073709551616) (Nat.div_lt_of_lt_mul (by rw [Nat.mul_comm]; exact h)), ws]
    rfl
theorem ws_grows (k x : Nat) (h : x < 18446744073709551616 ^ k) : ∀ j, ws (k + j) x = ws k x ++ List.replicate j 0
  | 0 => by simp
  | j + 1 => by
    have h2 : x < 18446744073709551616 ^ (k + j) := Nat.lt_of_lt_of_le h (Nat.pow_le_pow_right (by omega) (by omega))
    rw [← Nat.add_assoc, ws_grow (k + j) x h2, ws_grows k x h j, List.append_assoc, List.replicate_succ']
theorem top_bounds {L t P p : Nat} (hL : L < P) (hp : 0 < p) (k1 : 9223372036854775808 ≤ t * p) (k2 : (t + 1) * p ≤ 18446744073709551616) :
    P * 9223372036854775808 ≤ (L + P * t) * p ∧ (L + P * t) * p < P * 18446744073709551616 := by
  have h1 := Nat.mul_le_mul_left P k1
  have h2 := Nat.mul_le_mul_left P k2
  have h3 : L * p < P * p := Nat.mul_lt_mul_of_pos_right hL hp
  rw [Nat.add_mul, Nat.mul_assoc]
  rw [Nat.add_mul, Nat.one_mul, Nat.mul_add] at h2
  omega
theorem ofNat_ne {x : Nat} (h : x ≠ 0) : (Int.ofNat x != 0) = true := by
  rw [bne_iff_ne]
  intro e
  exact h (Int.ofNat.inj e)
theorem lt_next {x R W : Nat} (hx : x < 18446744073709551616) (hR : R < W) : x + 18446744073709551616 * R < W * 18446744073709551616 := by omega
theorem div_uniq {U W Q R a b p : Nat} (hU : U = a * p) (hW : W = b * p) (hp : 0 < p) (hb : 0 < b) (h : R + Q * W = U) (hR : R < W) : Q = a / b ∧ R = a % b * p := by
  subst hU hW
  have h1 : a * p / (b * p) = Q ∧ a * p % (b * p) = R := by
    exact (Nat.div_mod_unique (Nat.mul_pos hb hp)).2 ⟨by rw [Nat.mul_comm (b * p)]; exact h, hR⟩
  rw [Nat.mul_div_mul_right a b hp, Nat.mul_mod_mul_right] at h1
  exact ⟨h1.1.symm, h1.2.symm⟩

set_option maxRecDepth 100000 in
theorem div_1 {a b0 : Nat} (ha : a < Mw) (hb0 : b0 < 18446744073709551616) (hne : b0 ≠ 0) :
    PureX Try.prog 100 #[wv a, W4 b0 0 0 0] (rt (tp [wv (a / nvl [b0, 0, 0, 0]), wv (a % nvl [b0, 0, 0, 0])])) := by
  obtain ⟨s, hs, k1, k2, hlead⟩ := lead_c hne hb0
  have hp : 0 < 2 ^ s := Nat.pow_pos (by omega)
  have h2s := two_le hs
  obtain ⟨b, hb⟩ : ∃ b, nvl [b0, 0, 0, 0] = b := ⟨_, rfl⟩
  obtain ⟨W, hW⟩ : ∃ W, b * 2 ^ s = W := ⟨_, rfl⟩
  obtain ⟨U, hU⟩ : ∃ U, a * 2 ^ s = U := ⟨_, rfl⟩
  have hbM : b < Mw := by
    rw [← hb]
    simp only [nvl, Nat.mul_zero, Nat.add_zero, Nat.zero_add]
    unfold Mw
    omega
  have hWb : 1 * 9223372036854775808 ≤ W ∧ W < 1 * 18446744073709551616 := by
    rw [← hW, ← hb]
    have := top_bounds (L := nvl []) (P := 1) (t := b0) (by simp only [nvl, Nat.mul_zero, Nat.add_zero] <;> omega) hp k1 k2
    have e : nvl [] + 1 * b0 = nvl [b0, 0, 0, 0] := by simp only [nvl, Nat.mul_zero, Nat.add_zero, Nat.zero_add] <;> omega
    rw [e] at this
    exact this
  have hUb : U < 115792089237316195423570985008687907853269984665640564039457584007913129639936 * 9223372036854775808 := by
    rw [← hU]
    exact Nat.lt_of_lt_of_le (Nat.mul_lt_mul_of_pos_right ha hp) (Nat.mul_le_mul_left _ h2s)
  have hbp : 0 < b := by
    rcases Nat.eq_zero_or_pos b with h | h
    · subst h; rw [Nat.zero_mul] at hW; omega
    · exact h
  obtain ⟨ca, -⟩ := lifted_c ha hs
  obtain ⟨cb, hW5⟩ := lifted_c hbM hs
  have hU5 := (lifted_c ha hs).2
  rw [hU] at ca hU5
  rw [hW] at cb hW5
  obtain ⟨a0, a1, a2, a3, ea, -⟩ := W4_words (x := a)
  have eb : wv b = W4 b0 0 0 0 := by rw [← hb]; exact wv_nvl hb0 (Nat.succ_pos _) (Nat.succ_pos _) (Nat.succ_pos _)
  rw [ea] at ca ⊢
  rw [eb] at cb
  have hlen := runA_pure mix (len_1 b0 0 0 0) ⟨rfl, rfl, rfl, ofNat_ne hne, trivial⟩ rfl rfl
  obtain ⟨v0, v1, v2, v3, v4, hV5, hVn⟩ : ∃ v0 v1 v2 v3 v4, ws 5 W = [v0, v1, v2, v3, v4] ∧ ws 1 W = [v0] := ⟨_, _, _, _, _, rfl, rfl⟩
  have gs := ws_sm 5 W
  rw [hV5] at cb gs
  have g0 := gs v0 (by simp); have g1 := gs v1 (by simp); have g2 := gs v2 (by simp); have g3 := gs v3 (by simp); have g4 := gs v4 (by simp)
  have eW : nvl [v0] = W := by rw [← hVn]; exact nvl_ws 1 W (by omega)
  have hy : 9223372036854775808 ≤ v0 := by
    have := eW
    simp only [nvl, Nat.mul_zero, Nat.add_zero] at this
    omega
  have hsx := ws_sm 5 U
  have eU := nvl_ws 5 U hU5
  obtain ⟨x0, x1, x2, x3, x4, hX5⟩ : ∃ x0 x1 x2 x3 x4, ws 5 U = [x0, x1, x2, x3, x4] := ⟨_, _, _, _, _, rfl⟩
  rw [hX5] at ca hsx eU
  have h0 := hsx x0 (by simp); have h1 := hsx x1 (by simp); have h2 := hsx x2 (by simp); have h3 := hsx x3 (by simp); have h4 := hsx x4 (by simp)
  have z := Nat.succ_pos 18446744073709551615
  have hWp : 0 < W := by omega
  have lt3 : nvl [x3, x4] < W * 18446744073709551616 := by
    have := eU
    simp only [nvl, Nat.mul_zero, Nat.add_zero] at this ⊢
    omega
  have d3 := dgc_13 h0 h1 h2 h3 h4 g0 g1 g2 g3 g4 hy (by rw [eW]; exact lt3)
  rw [eW] at d3
  obtain ⟨R3, hRe3⟩ : ∃ R, nvl [x3, x4] % W = R := ⟨_, rfl⟩
  obtain ⟨q3, hQe3⟩ : ∃ Q, nvl [x3, x4] / W = Q := ⟨_, rfl⟩
  have hR3 : R3 < W := hRe3 ▸ Nat.mod_lt _ hWp
  have hq3 : q3 < 18446744073709551616 := hQe3 ▸ Nat.div_lt_of_lt_mul lt3
  have hm3 := Nat.div_add_mod' (nvl [x3, x4]) W
  rw [hRe3, hQe3] at hm3 d3
  have hRn3 : R3 < 18446744073709551616 ^ 1 := Nat.lt_trans hR3 (by omega)
  rw [ws_grow 1 R3 hRn3] at d3
  have hsr3 := ws_sm 1 R3
  have en3 := nvl_ws 1 R3 hRn3
  have gr3 := ws_grows 1 R3 hRn3 4
  obtain ⟨r30, hr3⟩ : ∃ r30, ws 1 R3 = [r30] := ⟨_, rfl⟩
  rw [hr3] at d3 hsr3 en3 gr3
  have hr30 := hsr3 r30 (by simp)
  have lt2 : nvl [x2, r30] < W * 18446744073709551616 := by
    rw [nvl, en3]
    exact lt_next h2 hR3
  have d2 := dgc_12 h0 h1 h2 hr30 z g0 g1 g2 g3 g4 hy (by rw [eW]; exact lt2)
  rw [eW] at d2
  obtain ⟨R2, hRe2⟩ : ∃ R, nvl [x2, r30] % W = R := ⟨_, rfl⟩
  obtain ⟨q2, hQe2⟩ : ∃ Q, nvl [x2, r30] / W = Q := ⟨_, rfl⟩
  have hR2 : R2 < W := hRe2 ▸ Nat.mod_lt _ hWp
  have hq2 : q2 < 18446744073709551616 := hQe2 ▸ Nat.div_lt_of_lt_mul lt2
  have hm2 := Nat.div_add_mod' (nvl [x2, r30]) W
  rw [hRe2, hQe2] at hm2 d2
  have hRn2 : R2 < 18446744073709551616 ^ 1 := Nat.lt_trans hR2 (by omega)
  rw [ws_grow 1 R2 hRn2] at d2
  have hsr2 := ws_sm 1 R2
  have en2 := nvl_ws 1 R2 hRn2
  have gr2 := ws_grows 1 R2 hRn2 4
  obtain ⟨r20, hr2⟩ : ∃ r20, ws 1 R2 = [r20] := ⟨_, rfl⟩
  rw [hr2] at d2 hsr2 en2 gr2
  have hr20 := hsr2 r20 (by simp)
  have lt1 : nvl [x1, r20] < W * 18446744073709551616 := by
    rw [nvl, en2]
    exact lt_next h1 hR2
  have d1 := dgc_11 h0 h1 hr20 z z g0 g1 g2 g3 g4 hy (by rw [eW]; exact lt1)
  rw [eW] at d1
  obtain ⟨R1, hRe1⟩ : ∃ R, nvl [x1, r20] % W = R := ⟨_, rfl⟩
  obtain ⟨q1, hQe1⟩ : ∃ Q, nvl [x1, r20] / W = Q := ⟨_, rfl⟩
  have hR1 : R1 < W := hRe1 ▸ Nat.mod_lt _ hWp
  have hq1 : q1 < 18446744073709551616 := hQe1 ▸ Nat.div_lt_of_lt_mul lt1
  have hm1 := Nat.div_add_mod' (nvl [x1, r20]) W
  rw [hRe1, hQe1] at hm1 d1
  have hRn1 : R1 < 18446744073709551616 ^ 1 := Nat.lt_trans hR1 (by omega)
  rw [ws_grow 1 R1 hRn1] at d1
  have hsr1 := ws_sm 1 R1
  have en1 := nvl_ws 1 R1 hRn1
  have gr1 := ws_grows 1 R1 hRn1 4
  obtain ⟨r10, hr1⟩ : ∃ r10, ws 1 R1 = [r10] := ⟨_, rfl⟩
  rw [hr1] at d1 hsr1 en1 gr1
  have hr10 := hsr1 r10 (by simp)
  have lt0 : nvl [x0, r10] < W * 18446744073709551616 := by
    rw [nvl, en1]
    exact lt_next h0 hR1
  have d0 := dgc_10 h0 hr10 z z z g0 g1 g2 g3 g4 hy (by rw [eW]; exact lt0)
  rw [eW] at d0
  obtain ⟨R0, hRe0⟩ : ∃ R, nvl [x0, r10] % W = R := ⟨_, rfl⟩
  obtain ⟨q0, hQe0⟩ : ∃ Q, nvl [x0, r10] / W = Q := ⟨_, rfl⟩
  have hR0 : R0 < W := hRe0 ▸ Nat.mod_lt _ hWp
  have hq0 : q0 < 18446744073709551616 := hQe0 ▸ Nat.div_lt_of_lt_mul lt0
  have hm0 := Nat.div_add_mod' (nvl [x0, r10]) W
  rw [hRe0, hQe0] at hm0 d0
  have hRn0 : R0 < 18446744073709551616 ^ 1 := Nat.lt_trans hR0 (by omega)
  rw [ws_grow 1 R0 hRn0] at d0
  have hsr0 := ws_sm 1 R0
  have en0 := nvl_ws 1 R0 hRn0
  have gr0 := ws_grows 1 R0 hRn0 4
  obtain ⟨r00, hr0⟩ : ∃ r00, ws 1 R0 = [r00] := ⟨_, rfl⟩
  rw [hr0] at d0 hsr0 en0 gr0
  have hr00 := hsr0 r00 (by simp)
  have hfin : R0 + nvl [q0, q1, q2, q3] * W = U := by
    rw [← eU]
    simp only [nvl, Nat.mul_zero, Nat.add_zero, Nat.zero_add, Nat.zero_mul, Nat.add_mul, Nat.mul_assoc] at hm0 hm1 hm2 hm3 en0 en1 en2 en3 ⊢
    generalize q0 * W = T0 at *
    generalize q1 * W = T1 at *
    generalize q2 * W = T2 at *
    generalize q3 * W = T3 at *
    omega
  obtain ⟨eq, er⟩ := div_uniq hU.symm hW.symm hp hbp hfin hR0
  have hlow := lowered_c (r := a % b) (s := s) (Nat.lt_trans (Nat.mod_lt _ hbp) hbM) hs
  rw [← er, show (5 : Nat) = 1 + 4 from rfl, gr0] at hlow
  rw [hb, ← eq, wv_nvl hq0 hq1 hq2 hq3]
  exact runB_pure mix (dv_1 a0 a1 a2 a3 b0 0 0 0 s x0 x1 x2 x3 x4 v0 v1 v2 v3 v4 (a % b) r30 q3 r20 q2 r10 q1 r00 q0) ⟨hlen, hlead, ca, cb, d3, d2, d1, d0, hlow, trivial⟩ rfl rfl
set_option maxRecDepth 100000 in
theorem div_2 {a b0 b1 : Nat} (ha : a < Mw) (hb0 : b0 < 18446744073709551616) (hb1 : b1 < 18446744073709551616) (hne : b1 ≠ 0) :
    PureX Try.prog 100 #[wv a, W4 b0 b1 0 0] (rt (tp [wv (a / nvl [b0, b1, 0, 0]), wv (a % nvl [b0, b1, 0, 0])])) := by
  obtain ⟨s, hs, k1, k2, hlead⟩ := lead_c hne hb1
  have hp : 0 < 2 ^ s := Nat.pow_pos (by omega)
  have h2s := two_le hs
  obtain ⟨b, hb⟩ : ∃ b, nvl [b0, b1, 0, 0] = b := ⟨_, rfl⟩
  obtain ⟨W, hW⟩ : ∃ W, b * 2 ^ s = W := ⟨_, rfl⟩
  obtain ⟨U, hU⟩ : ∃ U, a * 2 ^ s = U := ⟨_, rfl⟩
  have hbM : b < Mw := by
    rw [← hb]
    simp only [nvl, Nat.mul_zero, Nat.add_zero, Nat.zero_add]
    unfold Mw
    omega
  have hWb : 18446744073709551616 * 9223372036854775808 ≤ W ∧ W < 18446744073709551616 * 18446744073709551616 := by
    rw [← hW, ← hb]
    have := top_bounds (L := nvl [b0]) (P := 18446744073709551616) (t := b1) (by simp only [nvl, Nat.mul_zero, Nat.add_zero] <;> omega) hp k1 k2
    have e : nvl [b0] + 18446744073709551616 * b1 = nvl [b0, b1, 0, 0] := by simp only [nvl, Nat.mul_zero, Nat.add_zero, Nat.zero_add] <;> omega
    rw [e] at this
    exact this
  have hUb : U < 115792089237316195423570985008687907853269984665640564039457584007913129639936 * 9223372036854775808 := by
    rw [← hU]
    exact Nat.lt_of_lt_of_le (Nat.mul_lt_mul_of_pos_right ha hp) (Nat.mul_le_mul_left _ h2s)
  have hbp : 0 < b := by
    rcases Nat.eq_zero_or_pos b with h | h
    · subst h; rw [Nat.zero_mul] at hW; omega
    · exact h
  obtain ⟨ca, -⟩ := lifted_c ha hs
  obtain ⟨cb, hW5⟩ := lifted_c hbM hs
  have hU5 := (lifted_c ha hs).2
  rw [hU] at ca hU5
  rw [hW] at cb hW5
  obtain ⟨a0, a1, a2, a3, ea, -⟩ := W4_words (x := a)
  have eb : wv b = W4 b0 b1 0 0 := by rw [← hb]; exact wv_nvl hb0 hb1 (Nat.succ_pos _) (Nat.succ_pos _)
  rw [ea] at ca ⊢
  rw [eb] at cb
  have hlen := runA_pure mix (len_2 b0 b1 0 0) ⟨rfl, rfl, ofNat_ne hne, trivial⟩ rfl rfl
  obtain ⟨v0, v1, v2, v3, v4, hV5, hVn⟩ : ∃ v0 v1 v2 v3 v4, ws 5 W = [v0, v1, v2, v3, v4] ∧ ws 2 W = [v0, v1] := ⟨_, _, _, _, _, rfl, rfl⟩
  have gs := ws_sm 5 W
  rw [hV5] at cb gs
  have g0 := gs v0 (by simp); have g1 := gs v1 (by simp); have g2 := gs v2 (by simp); have g3 := gs v3 (by simp); have g4 := gs v4 (by simp)
  have eW : nvl [v0, v1] = W := by rw [← hVn]; exact nvl_ws 2 W (by omega)
  have hy : 9223372036854775808 ≤ v1 := by
    have := eW
    simp only [nvl, Nat.mul_zero, Nat.add_zero] at this
    omega
  have hsx := ws_sm 5 U
  have eU := nvl_ws 5 U hU5
  obtain ⟨x0, x1, x2, x3, x4, hX5⟩ : ∃ x0 x1 x2 x3 x4, ws 5 U = [x0, x1, x2, x3, x4] := ⟨_, _, _, _, _, rfl⟩
  rw [hX5] at ca hsx eU
  have h0 := hsx x0 (by simp); have h1 := hsx x1 (by simp); have h2 := hsx x2 (by simp); have h3 := hsx x3 (by simp); have h4 := hsx x4 (by simp)
  have z := Nat.succ_pos 18446744073709551615
  have hWp : 0 < W := by omega
  have lt2 : nvl [x2, x3, x4] < W * 18446744073709551616 := by
    have := eU
    simp only [nvl, Nat.mul_zero, Nat.add_zero] at this ⊢
    omega
  have d2 := dgc_22 h0 h1 h2 h3 h4 g0 g1 g2 g3 g4 hy (by rw [eW]; exact lt2)
  rw [eW] at d2
  obtain ⟨R2, hRe2⟩ : ∃ R, nvl [x2, x3, x4] % W = R := ⟨_, rfl⟩
  obtain ⟨q2, hQe2⟩ : ∃ Q, nvl [x2, x3, x4] / W = Q := ⟨_, rfl⟩
  have hR2 : R2 < W := hRe2 ▸ Nat.mod_lt _ hWp
  have hq2 : q2 < 18446744073709551616 := hQe2 ▸ Nat.div_lt_of_lt_mul lt2
  have hm2 := Nat.div_add_mod' (nvl [x2, x3, x4]) W
  rw [hRe2, hQe2] at hm2 d2
  have hRn2 : R2 < 18446744073709551616 ^ 2 := Nat.lt_trans hR2 (by omega)
  rw [ws_grow 2 R2 hRn2] at d2
  have hsr2 := ws_sm 2 R2
  have en2 := nvl_ws 2 R2 hRn2
  have gr2 := ws_grows 2 R2 hRn2 3
  obtain ⟨r20, r21, hr2⟩ : ∃ r20 r21, ws 2 R2 = [r20, r21] := ⟨_, _, rfl⟩
  rw [hr2] at d2 hsr2 en2 gr2
  have hr20 := hsr2 r20 (by simp)
  have hr21 := hsr2 r21 (by simp)
  have lt1 : nvl [x1, r20, r21] < W * 18446744073709551616 := by
    rw [nvl, en2]
    exact lt_next h1 hR2
  have d1 := dgc_21 h0 h1 hr20 hr21 z g0 g1 g2 g3 g4 hy (by rw [eW]; exact lt1)
  rw [eW] at d1
  obtain ⟨R1, hRe1⟩ : ∃ R, nvl [x1, r20, r21] % W = R := ⟨_, rfl⟩
  obtain ⟨q1, hQe1⟩ : ∃ Q, nvl [x1, r20, r21] / W = Q := ⟨_, rfl⟩
  have hR1 : R1 < W := hRe1 ▸ Nat.mod_lt _ hWp
  have hq1 : q1 < 18446744073709551616 := hQe1 ▸ Nat.div_lt_of_lt_mul lt1
  have hm1 := Nat.div_add_mod' (nvl [x1, r20, r21]) W
  rw [hRe1, hQe1] at hm1 d1
  have hRn1 : R1 < 18446744073709551616 ^ 2 := Nat.lt_trans hR1 (by omega)
  rw [ws_grow 2 R1 hRn1] at d1
  have hsr1 := ws_sm 2 R1
  have en1 := nvl_ws 2 R1 hRn1
  have gr1 := ws_grows 2 R1 hRn1 3
  obtain ⟨r10, r11, hr1⟩ : ∃ r10 r11, ws 2 R1 = [r10, r11] := ⟨_, _, rfl⟩
  rw [hr1] at d1 hsr1 en1 gr1
  have hr10 := hsr1 r10 (by simp)
  have hr11 := hsr1 r11 (by simp)
  have lt0 : nvl [x0, r10, r11] < W * 18446744073709551616 := by
    rw [nvl, en1]
    exact lt_next h0 hR1
  have d0 := dgc_20 h0 hr10 hr11 z z g0 g1 g2 g3 g4 hy (by rw [eW]; exact lt0)
  rw [eW] at d0
  obtain ⟨R0, hRe0⟩ : ∃ R, nvl [x0, r10, r11] % W = R := ⟨_, rfl⟩
  obtain ⟨q0, hQe0⟩ : ∃ Q, nvl [x0, r10, r11] / W = Q := ⟨_, rfl⟩
  have hR0 : R0 < W := hRe0 ▸ Nat.mod_lt _ hWp
  have hq0 : q0 < 18446744073709551616 := hQe0 ▸ Nat.div_lt_of_lt_mul lt0
  have hm0 := Nat.div_add_mod' (nvl [x0, r10, r11]) W
  rw [hRe0, hQe0] at hm0 d0
  have hRn0 : R0 < 18446744073709551616 ^ 2 := Nat.lt_trans hR0 (by omega)
  rw [ws_grow 2 R0 hRn0] at d0
  have hsr0 := ws_sm 2 R0
  have en0 := nvl_ws 2 R0 hRn0
  have gr0 := ws_grows 2 R0 hRn0 3
  obtain ⟨r00, r01, hr0⟩ : ∃ r00 r01, ws 2 R0 = [r00, r01] := ⟨_, _, rfl⟩
  rw [hr0] at d0 hsr0 en0 gr0
  have hr00 := hsr0 r00 (by simp)
  have hr01 := hsr0 r01 (by simp)
  have hfin : R0 + nvl [q0, q1, q2, 0] * W = U := by
    rw [← eU]
    simp only [nvl, Nat.mul_zero, Nat.add_zero, Nat.zero_add, Nat.zero_mul, Nat.add_mul, Nat.mul_assoc] at hm0 hm1 hm2 en0 en1 en2 ⊢
    generalize q0 * W = T0 at *
    generalize q1 * W = T1 at *
    generalize q2 * W = T2 at *
    omega
  obtain ⟨eq, er⟩ := div_uniq hU.symm hW.symm hp hbp hfin hR0
  have hlow := lowered_c (r := a % b) (s := s) (Nat.lt_trans (Nat.mod_lt _ hbp) hbM) hs
  rw [← er, show (5 : Nat) = 2 + 3 from rfl, gr0] at hlow
  rw [hb, ← eq, wv_nvl hq0 hq1 hq2 z]
  exact runB_pure mix (dv_2 a0 a1 a2 a3 b0 b1 0 0 s x0 x1 x2 x3 x4 v0 v1 v2 v3 v4 (a % b) r20 r21 q2 r10 r11 q1 r00 r01 q0) ⟨hlen, hlead, ca, cb, d2, d1, d0, hlow, trivial⟩ rfl rfl
set_option maxRecDepth 100000 in
theorem div_3 {a b0 b1 b2 : Nat} (ha : a < Mw) (hb0 : b0 < 18446744073709551616) (hb1 : b1 < 18446744073709551616) (hb2 : b2 < 18446744073709551616) (hne : b2 ≠ 0) :
    PureX Try.prog 100 #[wv a, W4 b0 b1 b2 0] (rt (tp [wv (a / nvl [b0, b1, b2, 0]), wv (a % nvl [b0, b1, b2, 0])])) := by
  obtain ⟨s, hs, k1, k2, hlead⟩ := lead_c hne hb2
  have hp : 0 < 2 ^ s := Nat.pow_pos (by omega)
  have h2s := two_le hs
  obtain ⟨b, hb⟩ : ∃ b, nvl [b0, b1, b2, 0] = b := ⟨_, rfl⟩
  obtain ⟨W, hW⟩ : ∃ W, b * 2 ^ s = W := ⟨_, rfl⟩
  obtain ⟨U, hU⟩ : ∃ U, a * 2 ^ s = U := ⟨_, rfl⟩
  have hbM : b < Mw := by
    rw [← hb]
    simp only [nvl, Nat.mul_zero, Nat.add_zero, Nat.zero_add]
    unfold Mw
    omega
  have hWb : 340282366920938463463374607431768211456 * 9223372036854775808 ≤ W ∧ W < 340282366920938463463374607431768211456 * 18446744073709551616 := by
    rw [← hW, ← hb]
    have := top_bounds (L := nvl [b0, b1]) (P := 340282366920938463463374607431768211456) (t := b2) (by simp only [nvl, Nat.mul_zero, Nat.add_zero] <;> omega) hp k1 k2
    have e : nvl [b0, b1] + 340282366920938463463374607431768211456 * b2 = nvl [b0, b1, b2, 0] := by simp only [nvl, Nat.mul_zero, Nat.add_zero, Nat.zero_add] <;> omega
    rw [e] at this
    exact this
  have hUb : U < 115792089237316195423570985008687907853269984665640564039457584007913129639936 * 9223372036854775808 := by
    rw [← hU]
    exact Nat.lt_of_lt_of_le (Nat.mul_lt_mul_of_pos_right ha hp) (Nat.mul_le_mul_left _ h2s)
  have hbp : 0 < b := by
    rcases Nat.eq_zero_or_pos b with h | h
    · subst h; rw [Nat.zero_mul] at hW; omega
    · exact h
  obtain ⟨ca, -⟩ := lifted_c ha hs
  obtain ⟨cb, hW5⟩ := lifted_c hbM hs
  have hU5 := (lifted_c ha hs).2
  rw [hU] at ca hU5
  rw [hW] at cb hW5
  obtain ⟨a0, a1, a2, a3, ea, -⟩ := W4_words (x := a)
  have eb : wv b = W4 b0 b1 b2 0 := by rw [← hb]; exact wv_nvl hb0 hb1 hb2 (Nat.succ_pos _)
  rw [ea] at ca ⊢
  rw [eb] at cb
  have hlen := runA_pure mix (len_3 b0 b1 b2 0) ⟨rfl, ofNat_ne hne, trivial⟩ rfl rfl
  obtain ⟨v0, v1, v2, v3, v4, hV5, hVn⟩ : ∃ v0 v1 v2 v3 v4, ws 5 W = [v0, v1, v2, v3, v4] ∧ ws 3 W = [v0, v1, v2] := ⟨_, _, _, _, _, rfl, rfl⟩
  have gs := ws_sm 5 W
  rw [hV5] at cb gs
  have g0 := gs v0 (by simp); have g1 := gs v1 (by simp); have g2 := gs v2 (by simp); have g3 := gs v3 (by simp); have g4 := gs v4 (by simp)
  have eW : nvl [v0, v1, v2] = W := by rw [← hVn]; exact nvl_ws 3 W (by omega)
  have hy : 9223372036854775808 ≤ v2 := by
    have := eW
    simp only [nvl, Nat.mul_zero, Nat.add_zero] at this
    omega
  have hsx := ws_sm 5 U
  have eU := nvl_ws 5 U hU5
  obtain ⟨x0, x1, x2, x3, x4, hX5⟩ : ∃ x0 x1 x2 x3 x4, ws 5 U = [x0, x1, x2, x3, x4] := ⟨_, _, _, _, _, rfl⟩
  rw [hX5] at ca hsx eU
  have h0 := hsx x0 (by simp); have h1 := hsx x1 (by simp); have h2 := hsx x2 (by simp); have h3 := hsx x3 (by simp); have h4 := hsx x4 (by simp)
  have z := Nat.succ_pos 18446744073709551615
  have hWp : 0 < W := by omega
  have lt1 : nvl [x1, x2, x3, x4] < W * 18446744073709551616 := by
    have := eU
    simp only [nvl, Nat.mul_zero, Nat.add_zero] at this ⊢
    omega
  have d1 := dgc_31 h0 h1 h2 h3 h4 g0 g1 g2 g3 g4 hy (by rw [eW]; exact lt1)
  rw [eW] at d1
  obtain ⟨R1, hRe1⟩ : ∃ R, nvl [x1, x2, x3, x4] % W = R := ⟨_, rfl⟩
  obtain ⟨q1, hQe1⟩ : ∃ Q, nvl [x1, x2, x3, x4] / W = Q := ⟨_, rfl⟩
  have hR1 : R1 < W := hRe1 ▸ Nat.mod_lt _ hWp
  have hq1 : q1 < 18446744073709551616 := hQe1 ▸ Nat.div_lt_of_lt_mul lt1
  have hm1 := Nat.div_add_mod' (nvl [x1, x2, x3, x4]) W
  rw [hRe1, hQe1] at hm1 d1
  have hRn1 : R1 < 18446744073709551616 ^ 3 := Nat.lt_trans hR1 (by omega)
  rw [ws_grow 3 R1 hRn1] at d1
  have hsr1 := ws_sm 3 R1
  have en1 := nvl_ws 3 R1 hRn1
  have gr1 := ws_grows 3 R1 hRn1 2
  obtain ⟨r10, r11, r12, hr1⟩ : ∃ r10 r11 r12, ws 3 R1 = [r10, r11, r12] := ⟨_, _, _, rfl⟩
  rw [hr1] at d1 hsr1 en1 gr1
  have hr10 := hsr1 r10 (by simp)
  have hr11 := hsr1 r11 (by simp)
  have hr12 := hsr1 r12 (by simp)
  have lt0 : nvl [x0, r10, r11, r12] < W * 18446744073709551616 := by
    rw [nvl, en1]
    exact lt_next h0 hR1
  have d0 := dgc_30 h0 hr10 hr11 hr12 z g0 g1 g2 g3 g4 hy (by rw [eW]; exact lt0)
  rw [eW] at d0
  obtain ⟨R0, hRe0⟩ : ∃ R, nvl [x0, r10, r11, r12] % W = R := ⟨_, rfl⟩
  obtain ⟨q0, hQe0⟩ : ∃ Q, nvl [x0, r10, r11, r12] / W = Q := ⟨_, rfl⟩
  have hR0 : R0 < W := hRe0 ▸ Nat.mod_lt _ hWp
  have hq0 : q0 < 18446744073709551616 := hQe0 ▸ Nat.div_lt_of_lt_mul lt0
  have hm0 := Nat.div_add_mod' (nvl [x0, r10, r11, r12]) W
  rw [hRe0, hQe0] at hm0 d0
  have hRn0 : R0 < 18446744073709551616 ^ 3 := Nat.lt_trans hR0 (by omega)
  rw [ws_grow 3 R0 hRn0] at d0
  have hsr0 := ws_sm 3 R0
  have en0 := nvl_ws 3 R0 hRn0
  have gr0 := ws_grows 3 R0 hRn0 2
  obtain ⟨r00, r01, r02, hr0⟩ : ∃ r00 r01 r02, ws 3 R0 = [r00, r01, r02] := ⟨_, _, _, rfl⟩
  rw [hr0] at d0 hsr0 en0 gr0
  have hr00 := hsr0 r00 (by simp)
  have hr01 := hsr0 r01 (by simp)
  have hr02 := hsr0 r02 (by simp)
  have hfin : R0 + nvl [q0, q1, 0, 0] * W = U := by
    rw [← eU]
    simp only [nvl, Nat.mul_zero, Nat.add_zero, Nat.zero_add, Nat.zero_mul, Nat.add_mul, Nat.mul_assoc] at hm0 hm1 en0 en1 ⊢
    generalize q0 * W = T0 at *
    generalize q1 * W = T1 at *
    omega
  obtain ⟨eq, er⟩ := div_uniq hU.symm hW.symm hp hbp hfin hR0
  have hlow := lowered_c (r := a % b) (s := s) (Nat.lt_trans (Nat.mod_lt _ hbp) hbM) hs
  rw [← er, show (5 : Nat) = 3 + 2 from rfl, gr0] at hlow
  rw [hb, ← eq, wv_nvl hq0 hq1 z z]
  exact runB_pure mix (dv_3 a0 a1 a2 a3 b0 b1 b2 0 s x0 x1 x2 x3 x4 v0 v1 v2 v3 v4 (a % b) r10 r11 r12 q1 r00 r01 r02 q0) ⟨hlen, hlead, ca, cb, d1, d0, hlow, trivial⟩ rfl rfl
set_option maxRecDepth 100000 in
theorem div_4 {a b0 b1 b2 b3 : Nat} (ha : a < Mw) (hb0 : b0 < 18446744073709551616) (hb1 : b1 < 18446744073709551616) (hb2 : b2 < 18446744073709551616) (hb3 : b3 < 18446744073709551616) (hne : b3 ≠ 0) :
    PureX Try.prog 100 #[wv a, W4 b0 b1 b2 b3] (rt (tp [wv (a / nvl [b0, b1, b2, b3]), wv (a % nvl [b0, b1, b2, b3])])) := by
  obtain ⟨s, hs, k1, k2, hlead⟩ := lead_c hne hb3
  have hp : 0 < 2 ^ s := Nat.pow_pos (by omega)
  have h2s := two_le hs
  obtain ⟨b, hb⟩ : ∃ b, nvl [b0, b1, b2, b3] = b := ⟨_, rfl⟩
  obtain ⟨W, hW⟩ : ∃ W, b * 2 ^ s = W := ⟨_, rfl⟩
  obtain ⟨U, hU⟩ : ∃ U, a * 2 ^ s = U := ⟨_, rfl⟩
  have hbM : b < Mw := by
    rw [← hb]
    simp only [nvl, Nat.mul_zero, Nat.add_zero, Nat.zero_add]
    unfold Mw
    omega
  have hWb : 6277101735386680763835789423207666416102355444464034512896 * 9223372036854775808 ≤ W ∧ W < 6277101735386680763835789423207666416102355444464034512896 * 18446744073709551616 := by
    rw [← hW, ← hb]
    have := top_bounds (L := nvl [b0, b1, b2]) (P := 6277101735386680763835789423207666416102355444464034512896) (t := b3) (by simp only [nvl, Nat.mul_zero, Nat.add_zero] <;> omega) hp k1 k2
    have e : nvl [b0, b1, b2] + 6277101735386680763835789423207666416102355444464034512896 * b3 = nvl [b0, b1, b2, b3] := by simp only [nvl, Nat.mul_zero, Nat.add_zero, Nat.zero_add] <;> omega
    rw [e] at this
    exact this
  have hUb : U < 115792089237316195423570985008687907853269984665640564039457584007913129639936 * 9223372036854775808 := by
    rw [← hU]
    exact Nat.lt_of_lt_of_le (Nat.mul_lt_mul_of_pos_right ha hp) (Nat.mul_le_mul_left _ h2s)
  have hbp : 0 < b := by
    rcases Nat.eq_zero_or_pos b with h | h
    · subst h; rw [Nat.zero_mul] at hW; omega
    · exact h
  obtain ⟨ca, -⟩ := lifted_c ha hs
  obtain ⟨cb, hW5⟩ := lifted_c hbM hs
  have hU5 := (lifted_c ha hs).2
  rw [hU] at ca hU5
  rw [hW] at cb hW5
  obtain ⟨a0, a1, a2, a3, ea, -⟩ := W4_words (x := a)
  have eb : wv b = W4 b0 b1 b2 b3 := by rw [← hb]; exact wv_nvl hb0 hb1 hb2 hb3
  rw [ea] at ca ⊢
  rw [eb] at cb
  have hlen := runA_pure mix (len_4 b0 b1 b2 b3) ⟨ofNat_ne hne, trivial⟩ rfl rfl
  obtain ⟨v0, v1, v2, v3, v4, hV5, hVn⟩ : ∃ v0 v1 v2 v3 v4, ws 5 W = [v0, v1, v2, v3, v4] ∧ ws 4 W = [v0, v1, v2, v3] := ⟨_, _, _, _, _, rfl, rfl⟩
  have gs := ws_sm 5 W
  rw [hV5] at cb gs
  have g0 := gs v0 (by simp); have g1 := gs v1 (by simp); have g2 := gs v2 (by simp); have g3 := gs v3 (by simp); have g4 := gs v4 (by simp)
  have eW : nvl [v0, v1, v2, v3] = W := by rw [← hVn]; exact nvl_ws 4 W (by omega)
  have hy : 9223372036854775808 ≤ v3 := by
    have := eW
    simp only [nvl, Nat.mul_zero, Nat.add_zero] at this
    omega
  have hsx := ws_sm 5 U
  have eU := nvl_ws 5 U hU5
  obtain ⟨x0, x1, x2, x3, x4, hX5⟩ : ∃ x0 x1 x2 x3 x4, ws 5 U = [x0, x1, x2, x3, x4] := ⟨_, _, _, _, _, rfl⟩
  rw [hX5] at ca hsx eU
  have h0 := hsx x0 (by simp); have h1 := hsx x1 (by simp); have h2 := hsx x2 (by simp); have h3 := hsx x3 (by simp); have h4 := hsx x4 (by simp)
  have z := Nat.succ_pos 18446744073709551615
  have hWp : 0 < W := by omega
  have lt0 : nvl [x0, x1, x2, x3, x4] < W * 18446744073709551616 := by
    have := eU
    simp only [nvl, Nat.mul_zero, Nat.add_zero] at this ⊢
    omega
  have d0 := dgc_40 h0 h1 h2 h3 h4 g0 g1 g2 g3 g4 hy (by rw [eW]; exact lt0)
  rw [eW] at d0
  obtain ⟨R0, hRe0⟩ : ∃ R, nvl [x0, x1, x2, x3, x4] % W = R := ⟨_, rfl⟩
  obtain ⟨q0, hQe0⟩ : ∃ Q, nvl [x0, x1, x2, x3, x4] / W = Q := ⟨_, rfl⟩
  have hR0 : R0 < W := hRe0 ▸ Nat.mod_lt _ hWp
  have hq0 : q0 < 18446744073709551616 := hQe0 ▸ Nat.div_lt_of_lt_mul lt0
  have hm0 := Nat.div_add_mod' (nvl [x0, x1, x2, x3, x4]) W
  rw [hRe0, hQe0] at hm0 d0
  have hRn0 : R0 < 18446744073709551616 ^ 4 := Nat.lt_trans hR0 (by omega)
  rw [ws_grow 4 R0 hRn0] at d0
  have hsr0 := ws_sm 4 R0
  have en0 := nvl_ws 4 R0 hRn0
  have gr0 := ws_grows 4 R0 hRn0 1
  obtain ⟨r00, r01, r02, r03, hr0⟩ : ∃ r00 r01 r02 r03, ws 4 R0 = [r00, r01, r02, r03] := ⟨_, _, _, _, rfl⟩
  rw [hr0] at d0 hsr0 en0 gr0
  have hr00 := hsr0 r00 (by simp)
  have hr01 := hsr0 r01 (by simp)
  have hr02 := hsr0 r02 (by simp)
  have hr03 := hsr0 r03 (by simp)
  have hfin : R0 + nvl [q0, 0, 0, 0] * W = U := by
    rw [← eU]
    simp only [nvl, Nat.mul_zero, Nat.add_zero, Nat.zero_add, Nat.zero_mul, Nat.add_mul, Nat.mul_assoc] at hm0 en0 ⊢
    generalize q0 * W = T0 at *
    omega
  obtain ⟨eq, er⟩ := div_uniq hU.symm hW.symm hp hbp hfin hR0
  have hlow := lowered_c (r := a % b) (s := s) (Nat.lt_trans (Nat.mod_lt _ hbp) hbM) hs
  rw [← er, show (5 : Nat) = 4 + 1 from rfl, gr0] at hlow
  rw [hb, ← eq, wv_nvl hq0 z z z]
  exact runB_pure mix (dv_4 a0 a1 a2 a3 b0 b1 b2 b3 s x0 x1 x2 x3 x4 v0 v1 v2 v3 v4 (a % b) r00 r01 r02 r03 q0) ⟨hlen, hlead, ca, cb, d0, hlow, trivial⟩ rfl rfl

theorem div_ok : DivOK := by
  intro a b ha hb0 hb
  obtain ⟨b0, b1, b2, b3, eb, h0, h1, h2, h3, hv⟩ := W4_words (x := b)
  rw [Nat.mod_eq_of_lt hb] at hv
  rw [eb, ← hv]
  by_cases c3 : b3 = 0
  · subst c3
    by_cases c2 : b2 = 0
    · subst c2
      by_cases c1 : b1 = 0
      · subst c1
        refine div_1 ha h0 (fun c0 => ?_)
        subst c0
        simp [nvl] at hv
        omega
      · exact div_2 ha h0 h1 c1
    · exact div_3 ha h0 h1 h2 c2
  · exact div_4 ha h0 h1 h2 h3 c3

end Go.Proofs.Ytpbhoamojocbpaa
