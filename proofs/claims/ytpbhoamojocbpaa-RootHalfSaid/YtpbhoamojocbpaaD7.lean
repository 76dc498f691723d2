/- One digit of a quotient, at each place. -/
import Derived.Test.YtpbhoamojocbpaaD6
namespace Go.Proofs.Ytpbhoamojocbpaa
open Go Go.RowKit
set_option linter.unusedSimpArgs false
set_option linter.unusedVariables false

theorem sm_nil : sm64 [] := fun _ h => (by cases h)
theorem sm_cons {x : Nat} {r : List Nat} (h : x < 18446744073709551616) (hr : sm64 r) : sm64 (x :: r) := fun y hy => by
  rcases List.mem_cons.1 hy with rfl | hy
  · exact h
  · exact hr y hy
theorem hVT_of {v : List Nat} {k : Nat} (hv : sm64 v) (hk : v.length = k) : nvl v < 18446744073709551616 ^ (k + 1) := by
  subst hk
  exact Nat.lt_of_lt_of_le (nvl_lt _ hv) (Nat.pow_le_pow_right (by omega) (by omega))

set_option maxRecDepth 100000 in
theorem dgc_10 {w0 w1 w2 w3 w4 v0 v1 v2 v3 v4 : Nat} (h0 : w0 < 18446744073709551616) (h1 : w1 < 18446744073709551616) (h2 : w2 < 18446744073709551616) (h3 : w3 < 18446744073709551616) (h4 : w4 < 18446744073709551616) (g0 : v0 < 18446744073709551616) (g1 : v1 < 18446744073709551616) (g2 : v2 < 18446744073709551616) (g3 : v3 < 18446744073709551616) (g4 : v4 < 18446744073709551616) (hy : 9223372036854775808 ≤ v0) (hlt : nvl [w0, w1] < nvl [v0] * 18446744073709551616) :
    CallsV Try.prog (.func 126) #[slU 0 1, slV 1] (HD [w0, w1, w2, w3, w4] [v0, v1, v2, v3, v4]) (rt (u (nvl [w0, w1] / nvl [v0]))) (HD ([] ++ ws (1 + 1) (nvl [w0, w1] % nvl [v0]) ++ [w2, w3, w4]) [v0, v1, v2, v3, v4]) := by
  have hq3 := gq_lt (h := w1) hy h0
  have hqg := guess_c hy g0 h1 h0
  obtain ⟨hq1, hq2, hV⟩ := gq_both (xl := []) (vl' := []) (h := w1) (l := w0) (y := v0) sm_nil sm_nil rfl h0 hy hlt
  generalize gq w1 w0 v0 = q at *
  refine dig_of (a9 := #[slU 0 1, slV 1, u q]) (rep := fun A => [] ++ ws (1 + 1) A ++ [w2, w3, w4]) (T := 18446744073709551616 ^ (1 + 1)) ?_ ?_ ?_ ?_ ?_ hq1 hq2 hq3 hV (hVT_of (sm_cons g0 sm_nil) rfl)
  · exact tac_of (x := [w0]) (vs := [v0]) (top := w1) (k := 1) hq3 (sm_cons h0 sm_nil) (sm_cons g0 sm_nil) h1 rfl rfl (runB_calls mix (ta_10 w0 w1 w2 w3 w4 v0 v1 v2 v3 v4 q (v0 * q / 18446744073709551616) (v0 * q % 18446744073709551616)) ⟨mul64_c g0 hq3, taO_le (q := q) (x := [w0]) (v := [v0]) hq3 (sm_cons h0 sm_nil) (sm_cons g0 sm_nil), trivial⟩ (by kernel_rfl) (by kernel_rfl) rfl)
  · intro A hA
    have r := runB_calls mix (pb_10 (A % 18446744073709551616) (A / 18446744073709551616 % 18446744073709551616) w2 w3 w4 v0 v1 v2 v3 v4) ⟨pbO_le' (x := ws 1 A) (v := [v0]) (ws_sm _ _) (sm_cons g0 sm_nil), trivial⟩ (by kernel_rfl) (by kernel_rfl) rfl
    obtain ⟨A2, C, k1, k2, k3, k4⟩ := pbc_of (P := Try.prog) (args := #[slU 0 1, slV 1]) (H0 := HD ([] ++ ws (1 + 1) A ++ [w2, w3, w4]) [v0, v1, v2, v3, v4]) (pre := []) (post := [w2, w3, w4]) (v := [v0, v1, v2, v3, v4]) (x := ws (1 + 1) A) (vs := [v0]) (k := 1) (ws_sm _ _) (sm_cons g0 sm_nil) rfl rfl r
    rw [nvl_ws _ _ hA] at k3
    exact ⟨A2, C, k1, k2, k3, k4⟩
  · intro A c1
    exact runB_calls mix (dg_100 w0 w1 w2 w3 w4 v0 v1 v2 v3 v4 q (A % 18446744073709551616) (A / 18446744073709551616 % 18446744073709551616) w2 w3 w4) ⟨hqg, c1, trivial⟩ (by kernel_rfl) (by kernel_rfl) rfl
  · intro A A2 c1 c2
    exact runB_calls mix (dg_101 w0 w1 w2 w3 w4 v0 v1 v2 v3 v4 q (A % 18446744073709551616) (A / 18446744073709551616 % 18446744073709551616) w2 w3 w4 (A2 % 18446744073709551616) (A2 / 18446744073709551616 % 18446744073709551616) w2 w3 w4) ⟨hqg, c1, c2, trivial⟩ (by kernel_rfl) (by kernel_rfl) rfl
  · intro A A2 A3 c1 c2 c3
    exact runB_calls mix (dg_102 w0 w1 w2 w3 w4 v0 v1 v2 v3 v4 q (A % 18446744073709551616) (A / 18446744073709551616 % 18446744073709551616) w2 w3 w4 (A2 % 18446744073709551616) (A2 / 18446744073709551616 % 18446744073709551616) w2 w3 w4 (A3 % 18446744073709551616) (A3 / 18446744073709551616 % 18446744073709551616) w2 w3 w4) ⟨hqg, c1, c2, c3, trivial⟩ (by kernel_rfl) (by kernel_rfl) rfl
set_option maxRecDepth 100000 in
theorem dgc_11 {w0 w1 w2 w3 w4 v0 v1 v2 v3 v4 : Nat} (h0 : w0 < 18446744073709551616) (h1 : w1 < 18446744073709551616) (h2 : w2 < 18446744073709551616) (h3 : w3 < 18446744073709551616) (h4 : w4 < 18446744073709551616) (g0 : v0 < 18446744073709551616) (g1 : v1 < 18446744073709551616) (g2 : v2 < 18446744073709551616) (g3 : v3 < 18446744073709551616) (g4 : v4 < 18446744073709551616) (hy : 9223372036854775808 ≤ v0) (hlt : nvl [w1, w2] < nvl [v0] * 18446744073709551616) :
    CallsV Try.prog (.func 126) #[slU 1 1, slV 1] (HD [w0, w1, w2, w3, w4] [v0, v1, v2, v3, v4]) (rt (u (nvl [w1, w2] / nvl [v0]))) (HD ([w0] ++ ws (1 + 1) (nvl [w1, w2] % nvl [v0]) ++ [w3, w4]) [v0, v1, v2, v3, v4]) := by
  have hq3 := gq_lt (h := w2) hy h1
  have hqg := guess_c hy g0 h2 h1
  obtain ⟨hq1, hq2, hV⟩ := gq_both (xl := []) (vl' := []) (h := w2) (l := w1) (y := v0) sm_nil sm_nil rfl h1 hy hlt
  generalize gq w2 w1 v0 = q at *
  refine dig_of (a9 := #[slU 1 1, slV 1, u q]) (rep := fun A => [w0] ++ ws (1 + 1) A ++ [w3, w4]) (T := 18446744073709551616 ^ (1 + 1)) ?_ ?_ ?_ ?_ ?_ hq1 hq2 hq3 hV (hVT_of (sm_cons g0 sm_nil) rfl)
  · exact tac_of (x := [w1]) (vs := [v0]) (top := w2) (k := 1) hq3 (sm_cons h1 sm_nil) (sm_cons g0 sm_nil) h2 rfl rfl (runB_calls mix (ta_11 w0 w1 w2 w3 w4 v0 v1 v2 v3 v4 q (v0 * q / 18446744073709551616) (v0 * q % 18446744073709551616)) ⟨mul64_c g0 hq3, taO_le (q := q) (x := [w1]) (v := [v0]) hq3 (sm_cons h1 sm_nil) (sm_cons g0 sm_nil), trivial⟩ (by kernel_rfl) (by kernel_rfl) rfl)
  · intro A hA
    have r := runB_calls mix (pb_11 w0 (A % 18446744073709551616) (A / 18446744073709551616 % 18446744073709551616) w3 w4 v0 v1 v2 v3 v4) ⟨pbO_le' (x := ws 1 A) (v := [v0]) (ws_sm _ _) (sm_cons g0 sm_nil), trivial⟩ (by kernel_rfl) (by kernel_rfl) rfl
    obtain ⟨A2, C, k1, k2, k3, k4⟩ := pbc_of (P := Try.prog) (args := #[slU 1 1, slV 1]) (H0 := HD ([w0] ++ ws (1 + 1) A ++ [w3, w4]) [v0, v1, v2, v3, v4]) (pre := [w0]) (post := [w3, w4]) (v := [v0, v1, v2, v3, v4]) (x := ws (1 + 1) A) (vs := [v0]) (k := 1) (ws_sm _ _) (sm_cons g0 sm_nil) rfl rfl r
    rw [nvl_ws _ _ hA] at k3
    exact ⟨A2, C, k1, k2, k3, k4⟩
  · intro A c1
    exact runB_calls mix (dg_110 w0 w1 w2 w3 w4 v0 v1 v2 v3 v4 q w0 (A % 18446744073709551616) (A / 18446744073709551616 % 18446744073709551616) w3 w4) ⟨hqg, c1, trivial⟩ (by kernel_rfl) (by kernel_rfl) rfl
  · intro A A2 c1 c2
    exact runB_calls mix (dg_111 w0 w1 w2 w3 w4 v0 v1 v2 v3 v4 q w0 (A % 18446744073709551616) (A / 18446744073709551616 % 18446744073709551616) w3 w4 w0 (A2 % 18446744073709551616) (A2 / 18446744073709551616 % 18446744073709551616) w3 w4) ⟨hqg, c1, c2, trivial⟩ (by kernel_rfl) (by kernel_rfl) rfl
  · intro A A2 A3 c1 c2 c3
    exact runB_calls mix (dg_112 w0 w1 w2 w3 w4 v0 v1 v2 v3 v4 q w0 (A % 18446744073709551616) (A / 18446744073709551616 % 18446744073709551616) w3 w4 w0 (A2 % 18446744073709551616) (A2 / 18446744073709551616 % 18446744073709551616) w3 w4 w0 (A3 % 18446744073709551616) (A3 / 18446744073709551616 % 18446744073709551616) w3 w4) ⟨hqg, c1, c2, c3, trivial⟩ (by kernel_rfl) (by kernel_rfl) rfl
set_option maxRecDepth 100000 in
theorem dgc_12 {w0 w1 w2 w3 w4 v0 v1 v2 v3 v4 : Nat} (h0 : w0 < 18446744073709551616) (h1 : w1 < 18446744073709551616) (h2 : w2 < 18446744073709551616) (h3 : w3 < 18446744073709551616) (h4 : w4 < 18446744073709551616) (g0 : v0 < 18446744073709551616) (g1 : v1 < 18446744073709551616) (g2 : v2 < 18446744073709551616) (g3 : v3 < 18446744073709551616) (g4 : v4 < 18446744073709551616) (hy : 9223372036854775808 ≤ v0) (hlt : nvl [w2, w3] < nvl [v0] * 18446744073709551616) :
    CallsV Try.prog (.func 126) #[slU 2 1, slV 1] (HD [w0, w1, w2, w3, w4] [v0, v1, v2, v3, v4]) (rt (u (nvl [w2, w3] / nvl [v0]))) (HD ([w0, w1] ++ ws (1 + 1) (nvl [w2, w3] % nvl [v0]) ++ [w4]) [v0, v1, v2, v3, v4]) := by
  have hq3 := gq_lt (h := w3) hy h2
  have hqg := guess_c hy g0 h3 h2
  obtain ⟨hq1, hq2, hV⟩ := gq_both (xl := []) (vl' := []) (h := w3) (l := w2) (y := v0) sm_nil sm_nil rfl h2 hy hlt
  generalize gq w3 w2 v0 = q at *
  refine dig_of (a9 := #[slU 2 1, slV 1, u q]) (rep := fun A => [w0, w1] ++ ws (1 + 1) A ++ [w4]) (T := 18446744073709551616 ^ (1 + 1)) ?_ ?_ ?_ ?_ ?_ hq1 hq2 hq3 hV (hVT_of (sm_cons g0 sm_nil) rfl)
  · exact tac_of (x := [w2]) (vs := [v0]) (top := w3) (k := 1) hq3 (sm_cons h2 sm_nil) (sm_cons g0 sm_nil) h3 rfl rfl (runB_calls mix (ta_12 w0 w1 w2 w3 w4 v0 v1 v2 v3 v4 q (v0 * q / 18446744073709551616) (v0 * q % 18446744073709551616)) ⟨mul64_c g0 hq3, taO_le (q := q) (x := [w2]) (v := [v0]) hq3 (sm_cons h2 sm_nil) (sm_cons g0 sm_nil), trivial⟩ (by kernel_rfl) (by kernel_rfl) rfl)
  · intro A hA
    have r := runB_calls mix (pb_12 w0 w1 (A % 18446744073709551616) (A / 18446744073709551616 % 18446744073709551616) w4 v0 v1 v2 v3 v4) ⟨pbO_le' (x := ws 1 A) (v := [v0]) (ws_sm _ _) (sm_cons g0 sm_nil), trivial⟩ (by kernel_rfl) (by kernel_rfl) rfl
    obtain ⟨A2, C, k1, k2, k3, k4⟩ := pbc_of (P := Try.prog) (args := #[slU 2 1, slV 1]) (H0 := HD ([w0, w1] ++ ws (1 + 1) A ++ [w4]) [v0, v1, v2, v3, v4]) (pre := [w0, w1]) (post := [w4]) (v := [v0, v1, v2, v3, v4]) (x := ws (1 + 1) A) (vs := [v0]) (k := 1) (ws_sm _ _) (sm_cons g0 sm_nil) rfl rfl r
    rw [nvl_ws _ _ hA] at k3
    exact ⟨A2, C, k1, k2, k3, k4⟩
  · intro A c1
    exact runB_calls mix (dg_120 w0 w1 w2 w3 w4 v0 v1 v2 v3 v4 q w0 w1 (A % 18446744073709551616) (A / 18446744073709551616 % 18446744073709551616) w4) ⟨hqg, c1, trivial⟩ (by kernel_rfl) (by kernel_rfl) rfl
  · intro A A2 c1 c2
    exact runB_calls mix (dg_121 w0 w1 w2 w3 w4 v0 v1 v2 v3 v4 q w0 w1 (A % 18446744073709551616) (A / 18446744073709551616 % 18446744073709551616) w4 w0 w1 (A2 % 18446744073709551616) (A2 / 18446744073709551616 % 18446744073709551616) w4) ⟨hqg, c1, c2, trivial⟩ (by kernel_rfl) (by kernel_rfl) rfl
  · intro A A2 A3 c1 c2 c3
    exact runB_calls mix (dg_122 w0 w1 w2 w3 w4 v0 v1 v2 v3 v4 q w0 w1 (A % 18446744073709551616) (A / 18446744073709551616 % 18446744073709551616) w4 w0 w1 (A2 % 18446744073709551616) (A2 / 18446744073709551616 % 18446744073709551616) w4 w0 w1 (A3 % 18446744073709551616) (A3 / 18446744073709551616 % 18446744073709551616) w4) ⟨hqg, c1, c2, c3, trivial⟩ (by kernel_rfl) (by kernel_rfl) rfl
set_option maxRecDepth 100000 in
theorem dgc_13 {w0 w1 w2 w3 w4 v0 v1 v2 v3 v4 : Nat} (h0 : w0 < 18446744073709551616) (h1 : w1 < 18446744073709551616) (h2 : w2 < 18446744073709551616) (h3 : w3 < 18446744073709551616) (h4 : w4 < 18446744073709551616) (g0 : v0 < 18446744073709551616) (g1 : v1 < 18446744073709551616) (g2 : v2 < 18446744073709551616) (g3 : v3 < 18446744073709551616) (g4 : v4 < 18446744073709551616) (hy : 9223372036854775808 ≤ v0) (hlt : nvl [w3, w4] < nvl [v0] * 18446744073709551616) :
    CallsV Try.prog (.func 126) #[slU 3 1, slV 1] (HD [w0, w1, w2, w3, w4] [v0, v1, v2, v3, v4]) (rt (u (nvl [w3, w4] / nvl [v0]))) (HD ([w0, w1, w2] ++ ws (1 + 1) (nvl [w3, w4] % nvl [v0]) ++ []) [v0, v1, v2, v3, v4]) := by
  have hq3 := gq_lt (h := w4) hy h3
  have hqg := guess_c hy g0 h4 h3
  obtain ⟨hq1, hq2, hV⟩ := gq_both (xl := []) (vl' := []) (h := w4) (l := w3) (y := v0) sm_nil sm_nil rfl h3 hy hlt
  generalize gq w4 w3 v0 = q at *
  refine dig_of (a9 := #[slU 3 1, slV 1, u q]) (rep := fun A => [w0, w1, w2] ++ ws (1 + 1) A ++ []) (T := 18446744073709551616 ^ (1 + 1)) ?_ ?_ ?_ ?_ ?_ hq1 hq2 hq3 hV (hVT_of (sm_cons g0 sm_nil) rfl)
  · exact tac_of (x := [w3]) (vs := [v0]) (top := w4) (k := 1) hq3 (sm_cons h3 sm_nil) (sm_cons g0 sm_nil) h4 rfl rfl (runB_calls mix (ta_13 w0 w1 w2 w3 w4 v0 v1 v2 v3 v4 q (v0 * q / 18446744073709551616) (v0 * q % 18446744073709551616)) ⟨mul64_c g0 hq3, taO_le (q := q) (x := [w3]) (v := [v0]) hq3 (sm_cons h3 sm_nil) (sm_cons g0 sm_nil), trivial⟩ (by kernel_rfl) (by kernel_rfl) rfl)
  · intro A hA
    have r := runB_calls mix (pb_13 w0 w1 w2 (A % 18446744073709551616) (A / 18446744073709551616 % 18446744073709551616) v0 v1 v2 v3 v4) ⟨pbO_le' (x := ws 1 A) (v := [v0]) (ws_sm _ _) (sm_cons g0 sm_nil), trivial⟩ (by kernel_rfl) (by kernel_rfl) rfl
    obtain ⟨A2, C, k1, k2, k3, k4⟩ := pbc_of (P := Try.prog) (args := #[slU 3 1, slV 1]) (H0 := HD ([w0, w1, w2] ++ ws (1 + 1) A ++ []) [v0, v1, v2, v3, v4]) (pre := [w0, w1, w2]) (post := []) (v := [v0, v1, v2, v3, v4]) (x := ws (1 + 1) A) (vs := [v0]) (k := 1) (ws_sm _ _) (sm_cons g0 sm_nil) rfl rfl r
    rw [nvl_ws _ _ hA] at k3
    exact ⟨A2, C, k1, k2, k3, k4⟩
  · intro A c1
    exact runB_calls mix (dg_130 w0 w1 w2 w3 w4 v0 v1 v2 v3 v4 q w0 w1 w2 (A % 18446744073709551616) (A / 18446744073709551616 % 18446744073709551616)) ⟨hqg, c1, trivial⟩ (by kernel_rfl) (by kernel_rfl) rfl
  · intro A A2 c1 c2
    exact runB_calls mix (dg_131 w0 w1 w2 w3 w4 v0 v1 v2 v3 v4 q w0 w1 w2 (A % 18446744073709551616) (A / 18446744073709551616 % 18446744073709551616) w0 w1 w2 (A2 % 18446744073709551616) (A2 / 18446744073709551616 % 18446744073709551616)) ⟨hqg, c1, c2, trivial⟩ (by kernel_rfl) (by kernel_rfl) rfl
  · intro A A2 A3 c1 c2 c3
    exact runB_calls mix (dg_132 w0 w1 w2 w3 w4 v0 v1 v2 v3 v4 q w0 w1 w2 (A % 18446744073709551616) (A / 18446744073709551616 % 18446744073709551616) w0 w1 w2 (A2 % 18446744073709551616) (A2 / 18446744073709551616 % 18446744073709551616) w0 w1 w2 (A3 % 18446744073709551616) (A3 / 18446744073709551616 % 18446744073709551616)) ⟨hqg, c1, c2, c3, trivial⟩ (by kernel_rfl) (by kernel_rfl) rfl
set_option maxRecDepth 100000 in
theorem dgc_20 {w0 w1 w2 w3 w4 v0 v1 v2 v3 v4 : Nat} (h0 : w0 < 18446744073709551616) (h1 : w1 < 18446744073709551616) (h2 : w2 < 18446744073709551616) (h3 : w3 < 18446744073709551616) (h4 : w4 < 18446744073709551616) (g0 : v0 < 18446744073709551616) (g1 : v1 < 18446744073709551616) (g2 : v2 < 18446744073709551616) (g3 : v3 < 18446744073709551616) (g4 : v4 < 18446744073709551616) (hy : 9223372036854775808 ≤ v1) (hlt : nvl [w0, w1, w2] < nvl [v0, v1] * 18446744073709551616) :
    CallsV Try.prog (.func 126) #[slU 0 2, slV 2] (HD [w0, w1, w2, w3, w4] [v0, v1, v2, v3, v4]) (rt (u (nvl [w0, w1, w2] / nvl [v0, v1]))) (HD ([] ++ ws (2 + 1) (nvl [w0, w1, w2] % nvl [v0, v1]) ++ [w3, w4]) [v0, v1, v2, v3, v4]) := by
  have hq3 := gq_lt (h := w2) hy h1
  have hqg := guess_c hy g1 h2 h1
  obtain ⟨hq1, hq2, hV⟩ := gq_both (xl := [w0]) (vl' := [v0]) (h := w2) (l := w1) (y := v1) (sm_cons h0 sm_nil) (sm_cons g0 sm_nil) rfl h1 hy hlt
  generalize gq w2 w1 v1 = q at *
  refine dig_of (a9 := #[slU 0 2, slV 2, u q]) (rep := fun A => [] ++ ws (2 + 1) A ++ [w3, w4]) (T := 18446744073709551616 ^ (2 + 1)) ?_ ?_ ?_ ?_ ?_ hq1 hq2 hq3 hV (hVT_of (sm_cons g0 (sm_cons g1 sm_nil)) rfl)
  · exact tac_of (x := [w0, w1]) (vs := [v0, v1]) (top := w2) (k := 2) hq3 (sm_cons h0 (sm_cons h1 sm_nil)) (sm_cons g0 (sm_cons g1 sm_nil)) h2 rfl rfl (runB_calls mix (ta_20 w0 w1 w2 w3 w4 v0 v1 v2 v3 v4 q (v0 * q / 18446744073709551616) (v1 * q / 18446744073709551616) (v0 * q % 18446744073709551616) (v1 * q % 18446744073709551616)) ⟨mul64_c g0 hq3, mul64_c g1 hq3, taO_le (q := q) (x := [w0]) (v := [v0]) hq3 (sm_cons h0 sm_nil) (sm_cons g0 sm_nil), taO_le (q := q) (x := [w0, w1]) (v := [v0, v1]) hq3 (sm_cons h0 (sm_cons h1 sm_nil)) (sm_cons g0 (sm_cons g1 sm_nil)), trivial⟩ (by kernel_rfl) (by kernel_rfl) rfl)
  · intro A hA
    have r := runB_calls mix (pb_20 (A % 18446744073709551616) (A / 18446744073709551616 % 18446744073709551616) (A / 18446744073709551616 / 18446744073709551616 % 18446744073709551616) w3 w4 v0 v1 v2 v3 v4) ⟨pbO_le' (x := ws 1 A) (v := [v0]) (ws_sm _ _) (sm_cons g0 sm_nil), pbO_le' (x := ws 2 A) (v := [v0, v1]) (ws_sm _ _) (sm_cons g0 (sm_cons g1 sm_nil)), trivial⟩ (by kernel_rfl) (by kernel_rfl) rfl
    obtain ⟨A2, C, k1, k2, k3, k4⟩ := pbc_of (P := Try.prog) (args := #[slU 0 2, slV 2]) (H0 := HD ([] ++ ws (2 + 1) A ++ [w3, w4]) [v0, v1, v2, v3, v4]) (pre := []) (post := [w3, w4]) (v := [v0, v1, v2, v3, v4]) (x := ws (2 + 1) A) (vs := [v0, v1]) (k := 2) (ws_sm _ _) (sm_cons g0 (sm_cons g1 sm_nil)) rfl rfl r
    rw [nvl_ws _ _ hA] at k3
    exact ⟨A2, C, k1, k2, k3, k4⟩
  · intro A c1
    exact runB_calls mix (dg_200 w0 w1 w2 w3 w4 v0 v1 v2 v3 v4 q (A % 18446744073709551616) (A / 18446744073709551616 % 18446744073709551616) (A / 18446744073709551616 / 18446744073709551616 % 18446744073709551616) w3 w4) ⟨hqg, c1, trivial⟩ (by kernel_rfl) (by kernel_rfl) rfl
  · intro A A2 c1 c2
    exact runB_calls mix (dg_201 w0 w1 w2 w3 w4 v0 v1 v2 v3 v4 q (A % 18446744073709551616) (A / 18446744073709551616 % 18446744073709551616) (A / 18446744073709551616 / 18446744073709551616 % 18446744073709551616) w3 w4 (A2 % 18446744073709551616) (A2 / 18446744073709551616 % 18446744073709551616) (A2 / 18446744073709551616 / 18446744073709551616 % 18446744073709551616) w3 w4) ⟨hqg, c1, c2, trivial⟩ (by kernel_rfl) (by kernel_rfl) rfl
  · intro A A2 A3 c1 c2 c3
    exact runB_calls mix (dg_202 w0 w1 w2 w3 w4 v0 v1 v2 v3 v4 q (A % 18446744073709551616) (A / 18446744073709551616 % 18446744073709551616) (A / 18446744073709551616 / 18446744073709551616 % 18446744073709551616) w3 w4 (A2 % 18446744073709551616) (A2 / 18446744073709551616 % 18446744073709551616) (A2 / 18446744073709551616 / 18446744073709551616 % 18446744073709551616) w3 w4 (A3 % 18446744073709551616) (A3 / 18446744073709551616 % 18446744073709551616) (A3 / 18446744073709551616 / 18446744073709551616 % 18446744073709551616) w3 w4) ⟨hqg, c1, c2, c3, trivial⟩ (by kernel_rfl) (by kernel_rfl) rfl
set_option maxRecDepth 100000 in
theorem dgc_21 {w0 w1 w2 w3 w4 v0 v1 v2 v3 v4 : Nat} (h0 : w0 < 18446744073709551616) (h1 : w1 < 18446744073709551616) (h2 : w2 < 18446744073709551616) (h3 : w3 < 18446744073709551616) (h4 : w4 < 18446744073709551616) (g0 : v0 < 18446744073709551616) (g1 : v1 < 18446744073709551616) (g2 : v2 < 18446744073709551616) (g3 : v3 < 18446744073709551616) (g4 : v4 < 18446744073709551616) (hy : 9223372036854775808 ≤ v1) (hlt : nvl [w1, w2, w3] < nvl [v0, v1] * 18446744073709551616) :
    CallsV Try.prog (.func 126) #[slU 1 2, slV 2] (HD [w0, w1, w2, w3, w4] [v0, v1, v2, v3, v4]) (rt (u (nvl [w1, w2, w3] / nvl [v0, v1]))) (HD ([w0] ++ ws (2 + 1) (nvl [w1, w2, w3] % nvl [v0, v1]) ++ [w4]) [v0, v1, v2, v3, v4]) := by
  have hq3 := gq_lt (h := w3) hy h2
  have hqg := guess_c hy g1 h3 h2
  obtain ⟨hq1, hq2, hV⟩ := gq_both (xl := [w1]) (vl' := [v0]) (h := w3) (l := w2) (y := v1) (sm_cons h1 sm_nil) (sm_cons g0 sm_nil) rfl h2 hy hlt
  generalize gq w3 w2 v1 = q at *
  refine dig_of (a9 := #[slU 1 2, slV 2, u q]) (rep := fun A => [w0] ++ ws (2 + 1) A ++ [w4]) (T := 18446744073709551616 ^ (2 + 1)) ?_ ?_ ?_ ?_ ?_ hq1 hq2 hq3 hV (hVT_of (sm_cons g0 (sm_cons g1 sm_nil)) rfl)
  · exact tac_of (x := [w1, w2]) (vs := [v0, v1]) (top := w3) (k := 2) hq3 (sm_cons h1 (sm_cons h2 sm_nil)) (sm_cons g0 (sm_cons g1 sm_nil)) h3 rfl rfl (runB_calls mix (ta_21 w0 w1 w2 w3 w4 v0 v1 v2 v3 v4 q (v0 * q / 18446744073709551616) (v1 * q / 18446744073709551616) (v0 * q % 18446744073709551616) (v1 * q % 18446744073709551616)) ⟨mul64_c g0 hq3, mul64_c g1 hq3, taO_le (q := q) (x := [w1]) (v := [v0]) hq3 (sm_cons h1 sm_nil) (sm_cons g0 sm_nil), taO_le (q := q) (x := [w1, w2]) (v := [v0, v1]) hq3 (sm_cons h1 (sm_cons h2 sm_nil)) (sm_cons g0 (sm_cons g1 sm_nil)), trivial⟩ (by kernel_rfl) (by kernel_rfl) rfl)
  · intro A hA
    have r := runB_calls mix (pb_21 w0 (A % 18446744073709551616) (A / 18446744073709551616 % 18446744073709551616) (A / 18446744073709551616 / 18446744073709551616 % 18446744073709551616) w4 v0 v1 v2 v3 v4) ⟨pbO_le' (x := ws 1 A) (v := [v0]) (ws_sm _ _) (sm_cons g0 sm_nil), pbO_le' (x := ws 2 A) (v := [v0, v1]) (ws_sm _ _) (sm_cons g0 (sm_cons g1 sm_nil)), trivial⟩ (by kernel_rfl) (by kernel_rfl) rfl
    obtain ⟨A2, C, k1, k2, k3, k4⟩ := pbc_of (P := Try.prog) (args := #[slU 1 2, slV 2]) (H0 := HD ([w0] ++ ws (2 + 1) A ++ [w4]) [v0, v1, v2, v3, v4]) (pre := [w0]) (post := [w4]) (v := [v0, v1, v2, v3, v4]) (x := ws (2 + 1) A) (vs := [v0, v1]) (k := 2) (ws_sm _ _) (sm_cons g0 (sm_cons g1 sm_nil)) rfl rfl r
    rw [nvl_ws _ _ hA] at k3
    exact ⟨A2, C, k1, k2, k3, k4⟩
  · intro A c1
    exact runB_calls mix (dg_210 w0 w1 w2 w3 w4 v0 v1 v2 v3 v4 q w0 (A % 18446744073709551616) (A / 18446744073709551616 % 18446744073709551616) (A / 18446744073709551616 / 18446744073709551616 % 18446744073709551616) w4) ⟨hqg, c1, trivial⟩ (by kernel_rfl) (by kernel_rfl) rfl
  · intro A A2 c1 c2
    exact runB_calls mix (dg_211 w0 w1 w2 w3 w4 v0 v1 v2 v3 v4 q w0 (A % 18446744073709551616) (A / 18446744073709551616 % 18446744073709551616) (A / 18446744073709551616 / 18446744073709551616 % 18446744073709551616) w4 w0 (A2 % 18446744073709551616) (A2 / 18446744073709551616 % 18446744073709551616) (A2 / 18446744073709551616 / 18446744073709551616 % 18446744073709551616) w4) ⟨hqg, c1, c2, trivial⟩ (by kernel_rfl) (by kernel_rfl) rfl
  · intro A A2 A3 c1 c2 c3
    exact runB_calls mix (dg_212 w0 w1 w2 w3 w4 v0 v1 v2 v3 v4 q w0 (A % 18446744073709551616) (A / 18446744073709551616 % 18446744073709551616) (A / 18446744073709551616 / 18446744073709551616 % 18446744073709551616) w4 w0 (A2 % 18446744073709551616) (A2 / 18446744073709551616 % 18446744073709551616) (A2 / 18446744073709551616 / 18446744073709551616 % 18446744073709551616) w4 w0 (A3 % 18446744073709551616) (A3 / 18446744073709551616 % 18446744073709551616) (A3 / 18446744073709551616 / 18446744073709551616 % 18446744073709551616) w4) ⟨hqg, c1, c2, c3, trivial⟩ (by kernel_rfl) (by kernel_rfl) rfl
set_option maxRecDepth 100000 in
theorem dgc_22 {w0 w1 w2 w3 w4 v0 v1 v2 v3 v4 : Nat} (h0 : w0 < 18446744073709551616) (h1 : w1 < 18446744073709551616) (h2 : w2 < 18446744073709551616) (h3 : w3 < 18446744073709551616) (h4 : w4 < 18446744073709551616) (g0 : v0 < 18446744073709551616) (g1 : v1 < 18446744073709551616) (g2 : v2 < 18446744073709551616) (g3 : v3 < 18446744073709551616) (g4 : v4 < 18446744073709551616) (hy : 9223372036854775808 ≤ v1) (hlt : nvl [w2, w3, w4] < nvl [v0, v1] * 18446744073709551616) :
    CallsV Try.prog (.func 126) #[slU 2 2, slV 2] (HD [w0, w1, w2, w3, w4] [v0, v1, v2, v3, v4]) (rt (u (nvl [w2, w3, w4] / nvl [v0, v1]))) (HD ([w0, w1] ++ ws (2 + 1) (nvl [w2, w3, w4] % nvl [v0, v1]) ++ []) [v0, v1, v2, v3, v4]) := by
  have hq3 := gq_lt (h := w4) hy h3
  have hqg := guess_c hy g1 h4 h3
  obtain ⟨hq1, hq2, hV⟩ := gq_both (xl := [w2]) (vl' := [v0]) (h := w4) (l := w3) (y := v1) (sm_cons h2 sm_nil) (sm_cons g0 sm_nil) rfl h3 hy hlt
  generalize gq w4 w3 v1 = q at *
  refine dig_of (a9 := #[slU 2 2, slV 2, u q]) (rep := fun A => [w0, w1] ++ ws (2 + 1) A ++ []) (T := 18446744073709551616 ^ (2 + 1)) ?_ ?_ ?_ ?_ ?_ hq1 hq2 hq3 hV (hVT_of (sm_cons g0 (sm_cons g1 sm_nil)) rfl)
  · exact tac_of (x := [w2, w3]) (vs := [v0, v1]) (top := w4) (k := 2) hq3 (sm_cons h2 (sm_cons h3 sm_nil)) (sm_cons g0 (sm_cons g1 sm_nil)) h4 rfl rfl (runB_calls mix (ta_22 w0 w1 w2 w3 w4 v0 v1 v2 v3 v4 q (v0 * q / 18446744073709551616) (v1 * q / 18446744073709551616) (v0 * q % 18446744073709551616) (v1 * q % 18446744073709551616)) ⟨mul64_c g0 hq3, mul64_c g1 hq3, taO_le (q := q) (x := [w2]) (v := [v0]) hq3 (sm_cons h2 sm_nil) (sm_cons g0 sm_nil), taO_le (q := q) (x := [w2, w3]) (v := [v0, v1]) hq3 (sm_cons h2 (sm_cons h3 sm_nil)) (sm_cons g0 (sm_cons g1 sm_nil)), trivial⟩ (by kernel_rfl) (by kernel_rfl) rfl)
  · intro A hA
    have r := runB_calls mix (pb_22 w0 w1 (A % 18446744073709551616) (A / 18446744073709551616 % 18446744073709551616) (A / 18446744073709551616 / 18446744073709551616 % 18446744073709551616) v0 v1 v2 v3 v4) ⟨pbO_le' (x := ws 1 A) (v := [v0]) (ws_sm _ _) (sm_cons g0 sm_nil), pbO_le' (x := ws 2 A) (v := [v0, v1]) (ws_sm _ _) (sm_cons g0 (sm_cons g1 sm_nil)), trivial⟩ (by kernel_rfl) (by kernel_rfl) rfl
    obtain ⟨A2, C, k1, k2, k3, k4⟩ := pbc_of (P := Try.prog) (args := #[slU 2 2, slV 2]) (H0 := HD ([w0, w1] ++ ws (2 + 1) A ++ []) [v0, v1, v2, v3, v4]) (pre := [w0, w1]) (post := []) (v := [v0, v1, v2, v3, v4]) (x := ws (2 + 1) A) (vs := [v0, v1]) (k := 2) (ws_sm _ _) (sm_cons g0 (sm_cons g1 sm_nil)) rfl rfl r
    rw [nvl_ws _ _ hA] at k3
    exact ⟨A2, C, k1, k2, k3, k4⟩
  · intro A c1
    exact runB_calls mix (dg_220 w0 w1 w2 w3 w4 v0 v1 v2 v3 v4 q w0 w1 (A % 18446744073709551616) (A / 18446744073709551616 % 18446744073709551616) (A / 18446744073709551616 / 18446744073709551616 % 18446744073709551616)) ⟨hqg, c1, trivial⟩ (by kernel_rfl) (by kernel_rfl) rfl
  · intro A A2 c1 c2
    exact runB_calls mix (dg_221 w0 w1 w2 w3 w4 v0 v1 v2 v3 v4 q w0 w1 (A % 18446744073709551616) (A / 18446744073709551616 % 18446744073709551616) (A / 18446744073709551616 / 18446744073709551616 % 18446744073709551616) w0 w1 (A2 % 18446744073709551616) (A2 / 18446744073709551616 % 18446744073709551616) (A2 / 18446744073709551616 / 18446744073709551616 % 18446744073709551616)) ⟨hqg, c1, c2, trivial⟩ (by kernel_rfl) (by kernel_rfl) rfl
  · intro A A2 A3 c1 c2 c3
    exact runB_calls mix (dg_222 w0 w1 w2 w3 w4 v0 v1 v2 v3 v4 q w0 w1 (A % 18446744073709551616) (A / 18446744073709551616 % 18446744073709551616) (A / 18446744073709551616 / 18446744073709551616 % 18446744073709551616) w0 w1 (A2 % 18446744073709551616) (A2 / 18446744073709551616 % 18446744073709551616) (A2 / 18446744073709551616 / 18446744073709551616 % 18446744073709551616) w0 w1 (A3 % 18446744073709551616) (A3 / 18446744073709551616 % 18446744073709551616) (A3 / 18446744073709551616 / 18446744073709551616 % 18446744073709551616)) ⟨hqg, c1, c2, c3, trivial⟩ (by kernel_rfl) (by kernel_rfl) rfl
set_option maxRecDepth 100000 in
theorem dgc_30 {w0 w1 w2 w3 w4 v0 v1 v2 v3 v4 : Nat} (h0 : w0 < 18446744073709551616) (h1 : w1 < 18446744073709551616) (h2 : w2 < 18446744073709551616) (h3 : w3 < 18446744073709551616) (h4 : w4 < 18446744073709551616) (g0 : v0 < 18446744073709551616) (g1 : v1 < 18446744073709551616) (g2 : v2 < 18446744073709551616) (g3 : v3 < 18446744073709551616) (g4 : v4 < 18446744073709551616) (hy : 9223372036854775808 ≤ v2) (hlt : nvl [w0, w1, w2, w3] < nvl [v0, v1, v2] * 18446744073709551616) :
    CallsV Try.prog (.func 126) #[slU 0 3, slV 3] (HD [w0, w1, w2, w3, w4] [v0, v1, v2, v3, v4]) (rt (u (nvl [w0, w1, w2, w3] / nvl [v0, v1, v2]))) (HD ([] ++ ws (3 + 1) (nvl [w0, w1, w2, w3] % nvl [v0, v1, v2]) ++ [w4]) [v0, v1, v2, v3, v4]) := by
  have hq3 := gq_lt (h := w3) hy h2
  have hqg := guess_c hy g2 h3 h2
  obtain ⟨hq1, hq2, hV⟩ := gq_both (xl := [w0, w1]) (vl' := [v0, v1]) (h := w3) (l := w2) (y := v2) (sm_cons h0 (sm_cons h1 sm_nil)) (sm_cons g0 (sm_cons g1 sm_nil)) rfl h2 hy hlt
  generalize gq w3 w2 v2 = q at *
  refine dig_of (a9 := #[slU 0 3, slV 3, u q]) (rep := fun A => [] ++ ws (3 + 1) A ++ [w4]) (T := 18446744073709551616 ^ (3 + 1)) ?_ ?_ ?_ ?_ ?_ hq1 hq2 hq3 hV (hVT_of (sm_cons g0 (sm_cons g1 (sm_cons g2 sm_nil))) rfl)
  · exact tac_of (x := [w0, w1, w2]) (vs := [v0, v1, v2]) (top := w3) (k := 3) hq3 (sm_cons h0 (sm_cons h1 (sm_cons h2 sm_nil))) (sm_cons g0 (sm_cons g1 (sm_cons g2 sm_nil))) h3 rfl rfl (runB_calls mix (ta_30 w0 w1 w2 w3 w4 v0 v1 v2 v3 v4 q (v0 * q / 18446744073709551616) (v1 * q / 18446744073709551616) (v2 * q / 18446744073709551616) (v0 * q % 18446744073709551616) (v1 * q % 18446744073709551616) (v2 * q % 18446744073709551616)) ⟨mul64_c g0 hq3, mul64_c g1 hq3, taO_le (q := q) (x := [w0]) (v := [v0]) hq3 (sm_cons h0 sm_nil) (sm_cons g0 sm_nil), mul64_c g2 hq3, taO_le (q := q) (x := [w0, w1]) (v := [v0, v1]) hq3 (sm_cons h0 (sm_cons h1 sm_nil)) (sm_cons g0 (sm_cons g1 sm_nil)), taO_le (q := q) (x := [w0, w1, w2]) (v := [v0, v1, v2]) hq3 (sm_cons h0 (sm_cons h1 (sm_cons h2 sm_nil))) (sm_cons g0 (sm_cons g1 (sm_cons g2 sm_nil))), trivial⟩ (by kernel_rfl) (by kernel_rfl) rfl)
  · intro A hA
    have r := runB_calls mix (pb_30 (A % 18446744073709551616) (A / 18446744073709551616 % 18446744073709551616) (A / 18446744073709551616 / 18446744073709551616 % 18446744073709551616) (A / 18446744073709551616 / 18446744073709551616 / 18446744073709551616 % 18446744073709551616) w4 v0 v1 v2 v3 v4) ⟨pbO_le' (x := ws 1 A) (v := [v0]) (ws_sm _ _) (sm_cons g0 sm_nil), pbO_le' (x := ws 2 A) (v := [v0, v1]) (ws_sm _ _) (sm_cons g0 (sm_cons g1 sm_nil)), pbO_le' (x := ws 3 A) (v := [v0, v1, v2]) (ws_sm _ _) (sm_cons g0 (sm_cons g1 (sm_cons g2 sm_nil))), trivial⟩ (by kernel_rfl) (by kernel_rfl) rfl
    obtain ⟨A2, C, k1, k2, k3, k4⟩ := pbc_of (P := Try.prog) (args := #[slU 0 3, slV 3]) (H0 := HD ([] ++ ws (3 + 1) A ++ [w4]) [v0, v1, v2, v3, v4]) (pre := []) (post := [w4]) (v := [v0, v1, v2, v3, v4]) (x := ws (3 + 1) A) (vs := [v0, v1, v2]) (k := 3) (ws_sm _ _) (sm_cons g0 (sm_cons g1 (sm_cons g2 sm_nil))) rfl rfl r
    rw [nvl_ws _ _ hA] at k3
    exact ⟨A2, C, k1, k2, k3, k4⟩
  · intro A c1
    exact runB_calls mix (dg_300 w0 w1 w2 w3 w4 v0 v1 v2 v3 v4 q (A % 18446744073709551616) (A / 18446744073709551616 % 18446744073709551616) (A / 18446744073709551616 / 18446744073709551616 % 18446744073709551616) (A / 18446744073709551616 / 18446744073709551616 / 18446744073709551616 % 18446744073709551616) w4) ⟨hqg, c1, trivial⟩ (by kernel_rfl) (by kernel_rfl) rfl
  · intro A A2 c1 c2
    exact runB_calls mix (dg_301 w0 w1 w2 w3 w4 v0 v1 v2 v3 v4 q (A % 18446744073709551616) (A / 18446744073709551616 % 18446744073709551616) (A / 18446744073709551616 / 18446744073709551616 % 18446744073709551616) (A / 18446744073709551616 / 18446744073709551616 / 18446744073709551616 % 18446744073709551616) w4 (A2 % 18446744073709551616) (A2 / 18446744073709551616 % 18446744073709551616) (A2 / 18446744073709551616 / 18446744073709551616 % 18446744073709551616) (A2 / 18446744073709551616 / 18446744073709551616 / 18446744073709551616 % 18446744073709551616) w4) ⟨hqg, c1, c2, trivial⟩ (by kernel_rfl) (by kernel_rfl) rfl
  · intro A A2 A3 c1 c2 c3
    exact runB_calls mix (dg_302 w0 w1 w2 w3 w4 v0 v1 v2 v3 v4 q (A % 18446744073709551616) (A / 18446744073709551616 % 18446744073709551616) (A / 18446744073709551616 / 18446744073709551616 % 18446744073709551616) (A / 18446744073709551616 / 18446744073709551616 / 18446744073709551616 % 18446744073709551616) w4 (A2 % 18446744073709551616) (A2 / 18446744073709551616 % 18446744073709551616) (A2 / 18446744073709551616 / 18446744073709551616 % 18446744073709551616) (A2 / 18446744073709551616 / 18446744073709551616 / 18446744073709551616 % 18446744073709551616) w4 (A3 % 18446744073709551616) (A3 / 18446744073709551616 % 18446744073709551616) (A3 / 18446744073709551616 / 18446744073709551616 % 18446744073709551616) (A3 / 18446744073709551616 / 18446744073709551616 / 18446744073709551616 % 18446744073709551616) w4) ⟨hqg, c1, c2, c3, trivial⟩ (by kernel_rfl) (by kernel_rfl) rfl
set_option maxRecDepth 100000 in
theorem dgc_31 {w0 w1 w2 w3 w4 v0 v1 v2 v3 v4 : Nat} (h0 : w0 < 18446744073709551616) (h1 : w1 < 18446744073709551616) (h2 : w2 < 18446744073709551616) (h3 : w3 < 18446744073709551616) (h4 : w4 < 18446744073709551616) (g0 : v0 < 18446744073709551616) (g1 : v1 < 18446744073709551616) (g2 : v2 < 18446744073709551616) (g3 : v3 < 18446744073709551616) (g4 : v4 < 18446744073709551616) (hy : 9223372036854775808 ≤ v2) (hlt : nvl [w1, w2, w3, w4] < nvl [v0, v1, v2] * 18446744073709551616) :
    CallsV Try.prog (.func 126) #[slU 1 3, slV 3] (HD [w0, w1, w2, w3, w4] [v0, v1, v2, v3, v4]) (rt (u (nvl [w1, w2, w3, w4] / nvl [v0, v1, v2]))) (HD ([w0] ++ ws (3 + 1) (nvl [w1, w2, w3, w4] % nvl [v0, v1, v2]) ++ []) [v0, v1, v2, v3, v4]) := by
  have hq3 := gq_lt (h := w4) hy h3
  have hqg := guess_c hy g2 h4 h3
  obtain ⟨hq1, hq2, hV⟩ := gq_both (xl := [w1, w2]) (vl' := [v0, v1]) (h := w4) (l := w3) (y := v2) (sm_cons h1 (sm_cons h2 sm_nil)) (sm_cons g0 (sm_cons g1 sm_nil)) rfl h3 hy hlt
  generalize gq w4 w3 v2 = q at *
  refine dig_of (a9 := #[slU 1 3, slV 3, u q]) (rep := fun A => [w0] ++ ws (3 + 1) A ++ []) (T := 18446744073709551616 ^ (3 + 1)) ?_ ?_ ?_ ?_ ?_ hq1 hq2 hq3 hV (hVT_of (sm_cons g0 (sm_cons g1 (sm_cons g2 sm_nil))) rfl)
  · exact tac_of (x := [w1, w2, w3]) (vs := [v0, v1, v2]) (top := w4) (k := 3) hq3 (sm_cons h1 (sm_cons h2 (sm_cons h3 sm_nil))) (sm_cons g0 (sm_cons g1 (sm_cons g2 sm_nil))) h4 rfl rfl (runB_calls mix (ta_31 w0 w1 w2 w3 w4 v0 v1 v2 v3 v4 q (v0 * q / 18446744073709551616) (v1 * q / 18446744073709551616) (v2 * q / 18446744073709551616) (v0 * q % 18446744073709551616) (v1 * q % 18446744073709551616) (v2 * q % 18446744073709551616)) ⟨mul64_c g0 hq3, mul64_c g1 hq3, taO_le (q := q) (x := [w1]) (v := [v0]) hq3 (sm_cons h1 sm_nil) (sm_cons g0 sm_nil), mul64_c g2 hq3, taO_le (q := q) (x := [w1, w2]) (v := [v0, v1]) hq3 (sm_cons h1 (sm_cons h2 sm_nil)) (sm_cons g0 (sm_cons g1 sm_nil)), taO_le (q := q) (x := [w1, w2, w3]) (v := [v0, v1, v2]) hq3 (sm_cons h1 (sm_cons h2 (sm_cons h3 sm_nil))) (sm_cons g0 (sm_cons g1 (sm_cons g2 sm_nil))), trivial⟩ (by kernel_rfl) (by kernel_rfl) rfl)
  · intro A hA
    have r := runB_calls mix (pb_31 w0 (A % 18446744073709551616) (A / 18446744073709551616 % 18446744073709551616) (A / 18446744073709551616 / 18446744073709551616 % 18446744073709551616) (A / 18446744073709551616 / 18446744073709551616 / 18446744073709551616 % 18446744073709551616) v0 v1 v2 v3 v4) ⟨pbO_le' (x := ws 1 A) (v := [v0]) (ws_sm _ _) (sm_cons g0 sm_nil), pbO_le' (x := ws 2 A) (v := [v0, v1]) (ws_sm _ _) (sm_cons g0 (sm_cons g1 sm_nil)), pbO_le' (x := ws 3 A) (v := [v0, v1, v2]) (ws_sm _ _) (sm_cons g0 (sm_cons g1 (sm_cons g2 sm_nil))), trivial⟩ (by kernel_rfl) (by kernel_rfl) rfl
    obtain ⟨A2, C, k1, k2, k3, k4⟩ := pbc_of (P := Try.prog) (args := #[slU 1 3, slV 3]) (H0 := HD ([w0] ++ ws (3 + 1) A ++ []) [v0, v1, v2, v3, v4]) (pre := [w0]) (post := []) (v := [v0, v1, v2, v3, v4]) (x := ws (3 + 1) A) (vs := [v0, v1, v2]) (k := 3) (ws_sm _ _) (sm_cons g0 (sm_cons g1 (sm_cons g2 sm_nil))) rfl rfl r
    rw [nvl_ws _ _ hA] at k3
    exact ⟨A2, C, k1, k2, k3, k4⟩
  · intro A c1
    exact runB_calls mix (dg_310 w0 w1 w2 w3 w4 v0 v1 v2 v3 v4 q w0 (A % 18446744073709551616) (A / 18446744073709551616 % 18446744073709551616) (A / 18446744073709551616 / 18446744073709551616 % 18446744073709551616) (A / 18446744073709551616 / 18446744073709551616 / 18446744073709551616 % 18446744073709551616)) ⟨hqg, c1, trivial⟩ (by kernel_rfl) (by kernel_rfl) rfl
  · intro A A2 c1 c2
    exact runB_calls mix (dg_311 w0 w1 w2 w3 w4 v0 v1 v2 v3 v4 q w0 (A % 18446744073709551616) (A / 18446744073709551616 % 18446744073709551616) (A / 18446744073709551616 / 18446744073709551616 % 18446744073709551616) (A / 18446744073709551616 / 18446744073709551616 / 18446744073709551616 % 18446744073709551616) w0 (A2 % 18446744073709551616) (A2 / 18446744073709551616 % 18446744073709551616) (A2 / 18446744073709551616 / 18446744073709551616 % 18446744073709551616) (A2 / 18446744073709551616 / 18446744073709551616 / 18446744073709551616 % 18446744073709551616)) ⟨hqg, c1, c2, trivial⟩ (by kernel_rfl) (by kernel_rfl) rfl
  · intro A A2 A3 c1 c2 c3
    exact runB_calls mix (dg_312 w0 w1 w2 w3 w4 v0 v1 v2 v3 v4 q w0 (A % 18446744073709551616) (A / 18446744073709551616 % 18446744073709551616) (A / 18446744073709551616 / 18446744073709551616 % 18446744073709551616) (A / 18446744073709551616 / 18446744073709551616 / 18446744073709551616 % 18446744073709551616) w0 (A2 % 18446744073709551616) (A2 / 18446744073709551616 % 18446744073709551616) (A2 / 18446744073709551616 / 18446744073709551616 % 18446744073709551616) (A2 / 18446744073709551616 / 18446744073709551616 / 18446744073709551616 % 18446744073709551616) w0 (A3 % 18446744073709551616) (A3 / 18446744073709551616 % 18446744073709551616) (A3 / 18446744073709551616 / 18446744073709551616 % 18446744073709551616) (A3 / 18446744073709551616 / 18446744073709551616 / 18446744073709551616 % 18446744073709551616)) ⟨hqg, c1, c2, c3, trivial⟩ (by kernel_rfl) (by kernel_rfl) rfl
set_option maxRecDepth 100000 in
theorem dgc_40 {w0 w1 w2 w3 w4 v0 v1 v2 v3 v4 : Nat} (h0 : w0 < 18446744073709551616) (h1 : w1 < 18446744073709551616) (h2 : w2 < 18446744073709551616) (h3 : w3 < 18446744073709551616) (h4 : w4 < 18446744073709551616) (g0 : v0 < 18446744073709551616) (g1 : v1 < 18446744073709551616) (g2 : v2 < 18446744073709551616) (g3 : v3 < 18446744073709551616) (g4 : v4 < 18446744073709551616) (hy : 9223372036854775808 ≤ v3) (hlt : nvl [w0, w1, w2, w3, w4] < nvl [v0, v1, v2, v3] * 18446744073709551616) :
    CallsV Try.prog (.func 126) #[slU 0 4, slV 4] (HD [w0, w1, w2, w3, w4] [v0, v1, v2, v3, v4]) (rt (u (nvl [w0, w1, w2, w3, w4] / nvl [v0, v1, v2, v3]))) (HD ([] ++ ws (4 + 1) (nvl [w0, w1, w2, w3, w4] % nvl [v0, v1, v2, v3]) ++ []) [v0, v1, v2, v3, v4]) := by
  have hq3 := gq_lt (h := w4) hy h3
  have hqg := guess_c hy g3 h4 h3
  obtain ⟨hq1, hq2, hV⟩ := gq_both (xl := [w0, w1, w2]) (vl' := [v0, v1, v2]) (h := w4) (l := w3) (y := v3) (sm_cons h0 (sm_cons h1 (sm_cons h2 sm_nil))) (sm_cons g0 (sm_cons g1 (sm_cons g2 sm_nil))) rfl h3 hy hlt
  generalize gq w4 w3 v3 = q at *
  refine dig_of (a9 := #[slU 0 4, slV 4, u q]) (rep := fun A => [] ++ ws (4 + 1) A ++ []) (T := 18446744073709551616 ^ (4 + 1)) ?_ ?_ ?_ ?_ ?_ hq1 hq2 hq3 hV (hVT_of (sm_cons g0 (sm_cons g1 (sm_cons g2 (sm_cons g3 sm_nil)))) rfl)
  · exact tac_of (x := [w0, w1, w2, w3]) (vs := [v0, v1, v2, v3]) (top := w4) (k := 4) hq3 (sm_cons h0 (sm_cons h1 (sm_cons h2 (sm_cons h3 sm_nil)))) (sm_cons g0 (sm_cons g1 (sm_cons g2 (sm_cons g3 sm_nil)))) h4 rfl rfl (runB_calls mix (ta_40 w0 w1 w2 w3 w4 v0 v1 v2 v3 v4 q (v0 * q / 18446744073709551616) (v1 * q / 18446744073709551616) (v2 * q / 18446744073709551616) (v3 * q / 18446744073709551616) (v0 * q % 18446744073709551616) (v1 * q % 18446744073709551616) (v2 * q % 18446744073709551616) (v3 * q % 18446744073709551616)) ⟨mul64_c g0 hq3, mul64_c g1 hq3, taO_le (q := q) (x := [w0]) (v := [v0]) hq3 (sm_cons h0 sm_nil) (sm_cons g0 sm_nil), mul64_c g2 hq3, taO_le (q := q) (x := [w0, w1]) (v := [v0, v1]) hq3 (sm_cons h0 (sm_cons h1 sm_nil)) (sm_cons g0 (sm_cons g1 sm_nil)), mul64_c g3 hq3, taO_le (q := q) (x := [w0, w1, w2]) (v := [v0, v1, v2]) hq3 (sm_cons h0 (sm_cons h1 (sm_cons h2 sm_nil))) (sm_cons g0 (sm_cons g1 (sm_cons g2 sm_nil))), taO_le (q := q) (x := [w0, w1, w2, w3]) (v := [v0, v1, v2, v3]) hq3 (sm_cons h0 (sm_cons h1 (sm_cons h2 (sm_cons h3 sm_nil)))) (sm_cons g0 (sm_cons g1 (sm_cons g2 (sm_cons g3 sm_nil)))), trivial⟩ (by kernel_rfl) (by kernel_rfl) rfl)
  · intro A hA
    have r := runB_calls mix (pb_40 (A % 18446744073709551616) (A / 18446744073709551616 % 18446744073709551616) (A / 18446744073709551616 / 18446744073709551616 % 18446744073709551616) (A / 18446744073709551616 / 18446744073709551616 / 18446744073709551616 % 18446744073709551616) (A / 18446744073709551616 / 18446744073709551616 / 18446744073709551616 / 18446744073709551616 % 18446744073709551616) v0 v1 v2 v3 v4) ⟨pbO_le' (x := ws 1 A) (v := [v0]) (ws_sm _ _) (sm_cons g0 sm_nil), pbO_le' (x := ws 2 A) (v := [v0, v1]) (ws_sm _ _) (sm_cons g0 (sm_cons g1 sm_nil)), pbO_le' (x := ws 3 A) (v := [v0, v1, v2]) (ws_sm _ _) (sm_cons g0 (sm_cons g1 (sm_cons g2 sm_nil))), pbO_le' (x := ws 4 A) (v := [v0, v1, v2, v3]) (ws_sm _ _) (sm_cons g0 (sm_cons g1 (sm_cons g2 (sm_cons g3 sm_nil)))), trivial⟩ (by kernel_rfl) (by kernel_rfl) rfl
    obtain ⟨A2, C, k1, k2, k3, k4⟩ := pbc_of (P := Try.prog) (args := #[slU 0 4, slV 4]) (H0 := HD ([] ++ ws (4 + 1) A ++ []) [v0, v1, v2, v3, v4]) (pre := []) (post := []) (v := [v0, v1, v2, v3, v4]) (x := ws (4 + 1) A) (vs := [v0, v1, v2, v3]) (k := 4) (ws_sm _ _) (sm_cons g0 (sm_cons g1 (sm_cons g2 (sm_cons g3 sm_nil)))) rfl rfl r
    rw [nvl_ws _ _ hA] at k3
    exact ⟨A2, C, k1, k2, k3, k4⟩
  · intro A c1
    exact runB_calls mix (dg_400 w0 w1 w2 w3 w4 v0 v1 v2 v3 v4 q (A % 18446744073709551616) (A / 18446744073709551616 % 18446744073709551616) (A / 18446744073709551616 / 18446744073709551616 % 18446744073709551616) (A / 18446744073709551616 / 18446744073709551616 / 18446744073709551616 % 18446744073709551616) (A / 18446744073709551616 / 18446744073709551616 / 18446744073709551616 / 18446744073709551616 % 18446744073709551616)) ⟨hqg, c1, trivial⟩ (by kernel_rfl) (by kernel_rfl) rfl
  · intro A A2 c1 c2
    exact runB_calls mix (dg_401 w0 w1 w2 w3 w4 v0 v1 v2 v3 v4 q (A % 18446744073709551616) (A / 18446744073709551616 % 18446744073709551616) (A / 18446744073709551616 / 18446744073709551616 % 18446744073709551616) (A / 18446744073709551616 / 18446744073709551616 / 18446744073709551616 % 18446744073709551616) (A / 18446744073709551616 / 18446744073709551616 / 18446744073709551616 / 18446744073709551616 % 18446744073709551616) (A2 % 18446744073709551616) (A2 / 18446744073709551616 % 18446744073709551616) (A2 / 18446744073709551616 / 18446744073709551616 % 18446744073709551616) (A2 / 18446744073709551616 / 18446744073709551616 / 18446744073709551616 % 18446744073709551616) (A2 / 18446744073709551616 / 18446744073709551616 / 18446744073709551616 / 18446744073709551616 % 18446744073709551616)) ⟨hqg, c1, c2, trivial⟩ (by kernel_rfl) (by kernel_rfl) rfl
  · intro A A2 A3 c1 c2 c3
    exact runB_calls mix (dg_402 w0 w1 w2 w3 w4 v0 v1 v2 v3 v4 q (A % 18446744073709551616) (A / 18446744073709551616 % 18446744073709551616) (A / 18446744073709551616 / 18446744073709551616 % 18446744073709551616) (A / 18446744073709551616 / 18446744073709551616 / 18446744073709551616 % 18446744073709551616) (A / 18446744073709551616 / 18446744073709551616 / 18446744073709551616 / 18446744073709551616 % 18446744073709551616) (A2 % 18446744073709551616) (A2 / 18446744073709551616 % 18446744073709551616) (A2 / 18446744073709551616 / 18446744073709551616 % 18446744073709551616) (A2 / 18446744073709551616 / 18446744073709551616 / 18446744073709551616 % 18446744073709551616) (A2 / 18446744073709551616 / 18446744073709551616 / 18446744073709551616 / 18446744073709551616 % 18446744073709551616) (A3 % 18446744073709551616) (A3 / 18446744073709551616 % 18446744073709551616) (A3 / 18446744073709551616 / 18446744073709551616 % 18446744073709551616) (A3 / 18446744073709551616 / 18446744073709551616 / 18446744073709551616 % 18446744073709551616) (A3 / 18446744073709551616 / 18446744073709551616 / 18446744073709551616 / 18446744073709551616 % 18446744073709551616)) ⟨hqg, c1, c2, c3, trivial⟩ (by kernel_rfl) (by kernel_rfl) rfl

end Go.Proofs.Ytpbhoamojocbpaa
