/- Texts of the seat, joined. -/
import Derived.Test.YtcmfgabhgodlaaaGreatDoorZz31
import Derived.Test.YtcmfgabhgodlaaaGreatDoorZz30
/- The document's division of numbers that are not below 0: its way down, each round computed. -/
namespace Go.Proofs.YtcmfgabhgodlaaaGreatDoor
open Go Go.RowKit
set_option linter.unusedSimpArgs false
set_option linter.unusedVariables false
set_option maxRecDepth 100000

def TE9 (a b : Nat) (v6 : Value) (X : Nat → Value) : List Value := [wv a, wv b, ptr 3000, ptr 3001, ptr 3002, ptr 3003, v6, X 7, X 8, ptr 7000, ud, X 11, X 12, X 13, X 14, X 15, X 16, X 17, X 18, X 19, X 20, X 21, X 22, X 23, X 24, X 25, X 26, X 27, X 28, X 29, X 30, X 31, X 32, X 33, X 34, X 35, X 36, X 37, X 38, X 39] ++ List.replicate 28 ud
def HMg (q a b d : Nat) (c : Array Value) : Hp := [(7000, pw q), (3000, pw a), (4000, pw d), (3001, pw b), (3002, pw 0), (3003, pw 0), (3004, deadO), (5000, opq 4 c 41), (6000, deadO), (6001, deadO), (6002, deadO)]
def HMz (q a b d : Nat) : Hp := [(7000, pw q), (3000, pw a), (4000, pw d), (3001, pw b), (3002, pw 0), (3003, pw 0), (3004, pw b)]
section
variable (a b d o e q a' q2 a2 q3 x : Nat) (s i : Int) (c : Array Value) (v6 : Value) (X : Nat → Value)
theorem p_r5g : runLS Tryz.prog 7000 PR5 (TE a b v6 X) (HGx a b d c) [] [] [] [] = some (.normal, TE9 a b v6 X, (7000, pw 0) :: HGx a b d c, []) := by kernel_rfl
theorem p_r5z : runLS Tryz.prog 7000 PR5 (TE a b v6 X) (HZx a b d) [] [] [] [] = some (.normal, TE9 a b v6 X, (7000, pw 0) :: HZx a b d, []) := by kernel_rfl
theorem p_r6g : ∃ Y, runLS Tryz.prog 8000 (cA PS6) (TE9 a b (sli 5000 x capU) X) (HMg q a b d c) [] [] [] [] = some (.normal, TL a b (sli 5000 x capU) (IntKind.i64.wrap ((x : Int) - 1)) Y, HMg q a b d c, []) := ⟨fun jj => match jj with | 40 => sli 5000 x capU | 41 => i6 x | 42 => i6 (IntKind.i64.wrap ((x : Int) - 1)) | 43 => ud | 44 => ud | 45 => ud | 46 => ud | 47 => ud | 48 => ud | 49 => ud | 50 => ud | 51 => ud | 52 => ud | 53 => ud | 54 => ud | 55 => ud | 56 => ud | 57 => ud | 58 => ud | 59 => ud | 60 => ud | 61 => ud | 62 => ud | 63 => ud | 64 => ud | 65 => ud | jj => X jj, by kernel_rfl⟩
theorem p_r6z : ∃ Y, runLS Tryz.prog 8000 (cA PS6) (TE9 a b (sli 3004 1 1) X) (HMz q a b d) [] [] [] [] = some (.normal, TL a b (sli 3004 1 1) 0 Y, HMz q a b d, []) := ⟨fun jj => match jj with | 40 => sli 3004 1 1 | 41 => i6 1 | 42 => i6 0 | 43 => ud | 44 => ud | 45 => ud | 46 => ud | 47 => ud | 48 => ud | 49 => ud | 50 => ud | 51 => ud | 52 => ud | 53 => ud | 54 => ud | 55 => ud | 56 => ud | 57 => ud | 58 => ud | 59 => ud | 60 => ud | 61 => ud | 62 => ud | 63 => ud | 64 => ud | 65 => ud | jj => X jj, by kernel_rfl⟩
theorem p_l_out : ∃ Y, runLS Tryz.prog 8000 PL2 (TL a b v6 i X) (HMg q a' b d c) [f] [] [] [] = some (.exit 2, TL a b v6 i Y, HMg q a' b d c, [decide (0 ≤ i) = false]) := ⟨fun jj => match jj with | 43 => i6 i | 44 => bb (decide (0 ≤ i)) | jj => X jj, by kernel_rfl⟩
theorem p_z_out : ∃ Y, runLS Tryz.prog 8000 PL2 (TL a b v6 (-1) X) (HMz q a' b d) [] [] [] [] = some (.exit 2, TL a b v6 (-1) Y, HMz q a' b d, []) := ⟨fun jj => match jj with | 43 => i6 (-1) | 44 => bb false | jj => X jj, by kernel_rfl⟩
theorem p_l_no : ∃ Y, runLS Tryz.prog 8000 PL2 (TL a b (sli 5000 x capU) i X) (HMg q a' b d c) [t, f] [(106, rt (wv q2)), (30, rt (i6 s))] [] [wc e] =
    some (.normal, TL a b (sli 5000 x capU) (IntKind.i64.wrap (i - 1)) Y, HMg q2 a' b d c, [decide (0 ≤ i) = true, PureX Tryz.prog 106 #[wv q, wv q] (rt (wv q2)), 0 ≤ i ∧ i < (x : Int), (c.toList.drop (0 + i.toNat * 4)).take (wc e).length = wc e, PureX Tryz.prog 30 #[wv e, wv a'] (rt (i6 s)), decide (s ≤ 0) = false]) := ⟨fun jj => match jj with | 43 => i6 i | 44 => bb (decide (0 ≤ i)) | 45 => i6 i | 46 => i6 (IntKind.i64.wrap (i - 1)) | 47 => wv q | 48 => wv q | 49 => wv q2 | 50 => sli 5000 x capU | 51 => i6 i | 52 => pto 5000 (0 + i.toNat * 4) | 53 => wv e | 54 => wv a' | 55 => i6 s | 56 => bb (decide (s ≤ 0)) | jj => X jj, by kernel_rfl⟩
theorem p_l_yes : ∃ Y, runLS Tryz.prog 8000 PL2 (TL a b (sli 5000 x capU) i X) (HMg q a' b d c) [t, t] [(106, rt (wv q2)), (30, rt (i6 s)), (95, rt (wv a2)), (96, rt (wv o)), (106, rt (wv q3))] [] [wc e, wc e] =
    some (.normal, TL a b (sli 5000 x capU) (IntKind.i64.wrap (i - 1)) Y, HMg q3 a2 b d c, [decide (0 ≤ i) = true, PureX Tryz.prog 106 #[wv q, wv q] (rt (wv q2)), 0 ≤ i ∧ i < (x : Int), (c.toList.drop (0 + i.toNat * 4)).take (wc e).length = wc e, PureX Tryz.prog 30 #[wv e, wv a'] (rt (i6 s)), decide (s ≤ 0) = true, 0 ≤ i ∧ i < (x : Int), (c.toList.drop (0 + i.toNat * 4)).take (wc e).length = wc e, PureX Tryz.prog 95 #[wv a', wv e] (rt (wv a2)), PureX Tryz.prog 96 #[] (rt (wv o)), PureX Tryz.prog 106 #[wv q2, wv o] (rt (wv q3))]) := ⟨fun jj => match jj with | 43 => i6 i | 44 => bb (decide (0 ≤ i)) | 45 => i6 i | 46 => i6 (IntKind.i64.wrap (i - 1)) | 47 => wv q | 48 => wv q | 49 => wv q2 | 50 => sli 5000 x capU | 51 => i6 i | 52 => pto 5000 (0 + i.toNat * 4) | 53 => wv e | 54 => wv a' | 55 => i6 s | 56 => bb (decide (s ≤ 0)) | 57 => wv a' | 58 => sli 5000 x capU | 59 => i6 i | 60 => pto 5000 (0 + i.toNat * 4) | 61 => wv e | 62 => wv a2 | 63 => wv q2 | 64 => wv o | 65 => wv q3 | jj => X jj, by kernel_rfl⟩
theorem p_z_no : ∃ Y, runLS Tryz.prog 8000 PL2 (TL a b (sli 3004 1 1) 0 X) (HMz q a' b d) [n, f] [(106, rt (wv q2)), (30, rt (i6 s))] [] [] =
    some (.normal, TL a b (sli 3004 1 1) (-1) Y, HMz q2 a' b d, [PureX Tryz.prog 106 #[wv q, wv q] (rt (wv q2)), PureX Tryz.prog 30 #[wv b, wv a'] (rt (i6 s)), decide (s ≤ 0) = false]) := ⟨fun jj => match jj with | 43 => i6 0 | 44 => bb true | 45 => i6 0 | 46 => i6 (-1) | 47 => wv q | 48 => wv q | 49 => wv q2 | 50 => sli 3004 1 1 | 51 => i6 0 | 52 => pto 3004 0 | 53 => wv b | 54 => wv a' | 55 => i6 s | 56 => bb (decide (s ≤ 0)) | jj => X jj, by kernel_rfl⟩
theorem p_z_yes : ∃ Y, runLS Tryz.prog 8000 PL2 (TL a b (sli 3004 1 1) 0 X) (HMz q a' b d) [n, t] [(106, rt (wv q2)), (30, rt (i6 s)), (95, rt (wv a2)), (96, rt (wv o)), (106, rt (wv q3))] [] [] =
    some (.normal, TL a b (sli 3004 1 1) (-1) Y, HMz q3 a2 b d, [PureX Tryz.prog 106 #[wv q, wv q] (rt (wv q2)), PureX Tryz.prog 30 #[wv b, wv a'] (rt (i6 s)), decide (s ≤ 0) = true, PureX Tryz.prog 95 #[wv a', wv b] (rt (wv a2)), PureX Tryz.prog 96 #[] (rt (wv o)), PureX Tryz.prog 106 #[wv q2, wv o] (rt (wv q3))]) := ⟨fun jj => match jj with | 43 => i6 0 | 44 => bb true | 45 => i6 0 | 46 => i6 (-1) | 47 => wv q | 48 => wv q | 49 => wv q2 | 50 => sli 3004 1 1 | 51 => i6 0 | 52 => pto 3004 0 | 53 => wv b | 54 => wv a' | 55 => i6 s | 56 => bb (decide (s ≤ 0)) | 57 => wv a' | 58 => sli 3004 1 1 | 59 => i6 0 | 60 => pto 3004 0 | 61 => wv b | 62 => wv a2 | 63 => wv q2 | 64 => wv o | 65 => wv q3 | jj => X jj, by kernel_rfl⟩
theorem p_end_g : ∃ T H, runLS Tryz.prog 9000 PR13 (TL a b v6 i X) (HMg q a' b d c) [] [] [] [] = some (.ret, T, H, []) ∧ vresults Tryz.prog Tryz.f94 T H = some (tp [wv q, wv a']) := ⟨_, _, rfl, rfl⟩
theorem p_end_z : ∃ T H, runLS Tryz.prog 9000 PR13 (TL a b v6 i X) (HMz q a' b d) [] [] [] [] = some (.ret, T, H, []) ∧ vresults Tryz.prog Tryz.f94 T H = some (tp [wv q, wv a']) := ⟨_, _, rfl, rfl⟩
end

end Go.Proofs.YtcmfgabhgodlaaaGreatDoor

/- The document's division of numbers that are not below 0 tells the quotient and the rest. -/
namespace Go.Proofs.YtcmfgabhgodlaaaGreatDoor
open Go Go.RowKit
set_option linter.unusedSimpArgs false
set_option linter.unusedVariables false
set_option maxRecDepth 100000

theorem CallsV.pure {P : Program} {f : Nat} {args : Array Value} {r : Res} (h : CallsV P (.func f) args [] r []) (ha : wfA noB args = true) (hr : resOK noB r = true) : PureX P f args r := by
  intro w hg
  have := h idN w (Rel.nil _ _ _ (gl_nil hg))
  have ha2 : renA idN args = args := renA_plain _ ha
  simp only [ha2] at this
  refine this.mono ?_
  rintro e w' ⟨β', _, rfl, hR⟩
  refine ⟨?_, hR.kp.below (Nat.le_refl _) ?_⟩
  · cases r with
    | ret v =>
      simp only [Res.out]
      rw [ren_plain β' hr, ren_plain _ hr]
    | pan ch => rfl
  · rintro k ⟨i, hi, _⟩
    cases hi

/-- The doubles so far. -/
def cl (b : Nat) : Nat → List Value
  | 0 => []
  | x + 1 => cl b x ++ wc (b * 2 ^ x)
theorem wc_len (x : Nat) : (wc x).length = 4 := rfl
theorem cl_len (b : Nat) : ∀ x, (cl b x).length = x * 4
  | 0 => rfl
  | x + 1 => by rw [cl, List.length_append, cl_len b x, wc_len]; omega
theorem cl_at (b : Nat) : ∀ (x i : Nat), i < x → ((cl b x).drop (i * 4)).take 4 = wc (b * 2 ^ i)
  | 0, i, h => by omega
  | x + 1, i, h => by
    rw [cl]
    by_cases hi : i = x
    · subst hi
      rw [List.drop_append, cl_len, Nat.sub_self, List.drop_zero, List.drop_eq_nil_of_le (by rw [cl_len]; exact Nat.le_refl _), List.nil_append]
      exact List.take_of_length_le (by rw [wc_len]; exact Nat.le_refl _)
    · have hlt : i < x := by omega
      rw [List.drop_append_of_le_length (by rw [cl_len]; omega), List.take_append_of_le_length (by rw [List.length_drop, cl_len]; omega)]
      exact cl_at b x i hlt
theorem wc_plain (x : Nat) : wfL noB (wc x) = true := rfl
theorem cl_plain (b : Nat) : ∀ x, wfL noB (cl b x) = true
  | 0 => rfl
  | x + 1 => by
    rw [cl, wfL_all]
    intro v hv
    rcases List.mem_append.1 hv with hv | hv
    · exact (wfL_all _ _).1 (cl_plain b x) v hv
    · exact (wfL_all _ _).1 (wc_plain _) v hv

theorem inN {x : Nat} (h : x < 57896044618658097711785492504343953926634992332820282019728792003956564819968) : inR (x : Int) := by unfold inR; omega
theorem dbl_add {e : Nat} (he : e < 57896044618658097711785492504343953926634992332820282019728792003956564819968) : PureX Tryz.prog 41 #[wv e, wv e] (rt (tp [wv (e + e), bb (decide (¬ (e + e < 57896044618658097711785492504343953926634992332820282019728792003956564819968)))])) := by
  have h := radd_z (inN he) (inN he)
  rw [← wz_nat, show (e : Int) + (e : Int) = ((e + e : Nat) : Int) by omega, ← wz_nat] at h
  have hd : decide (¬ inR ((e + e : Nat) : Int)) = decide (¬ (e + e < 57896044618658097711785492504343953926634992332820282019728792003956564819968)) := by
    rw [decide_eq_decide]
    unfold inR
    omega
  rw [hd] at h
  exact h
theorem cmp_nat {x y : Nat} (hx : x < 57896044618658097711785492504343953926634992332820282019728792003956564819968) (hy : y < 57896044618658097711785492504343953926634992332820282019728792003956564819968) : ∃ s : Int, PureX Tryz.prog 30 #[wv x, wv y] (rt (i6 s)) ∧ (0 < s ↔ y < x) := by
  have h := rcmp_z (inN hx) (inN hy)
  rw [← wz_nat, ← wz_nat] at h
  refine ⟨_, h, ?_⟩
  rcases Int.lt_trichotomy ((x : Int) - y) 0 with h1 | h1 | h1
  · rw [Int.sign_eq_neg_one_of_neg h1]; omega
  · rw [h1]; simp; omega
  · rw [Int.sign_eq_one_of_pos h1]; omega
theorem idx_ok {x : Nat} (h1 : 1 ≤ x) (h2 : x ≤ 255) : IntKind.i64.wrap ((x : Int) - 1) = ((x - 1 : Nat) : Int) := by
  rw [wrapI (by omega)]; omega
theorem owe_idx {x : Nat} (h1 : 1 ≤ x) (h2 : x ≤ 255) : 0 ≤ IntKind.i64.wrap ((x : Int) - 1) ∧ IntKind.i64.wrap ((x : Int) - 1) < (x : Int) := by
  rw [idx_ok h1 h2]; omega
theorem owe_ld (b : Nat) {x : Nat} (h1 : 1 ≤ x) (h2 : x ≤ 255) : (((cl b x).toArray).toList.drop (0 + (IntKind.i64.wrap ((x : Int) - 1)).toNat * 4)).take (wc (b * 2 ^ (x - 1))).length = wc (b * 2 ^ (x - 1)) := by
  rw [idx_ok h1 h2, Int.toNat_natCast, Nat.zero_add]
  exact cl_at b x (x - 1) (by omega)

theorem dz_ok (a b : Nat) (H : Hp) (h : ∀ i, domB (HZ a b) i = true → domB H i = true) : ∀ i, domB (HZ a b) i = true → domB H i = true := h
theorem domG (a b : Nat) (c : Array Value) : ∀ i, domB (HZ a b) i = true → domB (HG a b c) i = true := by
  intro i hi
  obtain ⟨e, he, rfl⟩ := memK _ i hi
  simp only [HZ, List.mem_cons, List.not_mem_nil, or_false] at he
  rcases he with rfl | rfl | rfl | rfl | rfl <;> rfl
theorem ren_g (a b x e d m : Nat) (i1 i2 s : Int) (p : Bool) (o : Nat) (c : Array Value) :
    Renum (HZ a b) (TT a b 4002 x 4000 5000 4001 m capU o e d i1 i2 s p) [] ((4002, opq 4 c 41) :: (5000, deadO) :: (4001, pw d) :: (4000, pw d) :: [(3000, pw a), (3001, pw b), (3002, pw 0), (3003, pw 0), (3004, deadO), (6000, deadO), (6001, deadO), (6002, deadO)])
      (TT a b 5000 x 6001 6000 6002 m capU o e d i1 i2 s p) [] (HG a b c) (rho [(5000, 4002), (6001, 4000), (6000, 5000), (6002, 4001)]) :=
  renum_of (by kernel_rfl) (by kernel_rfl) ⟨fun _ => rfl, fun _ => rfl, fun _ => rfl, fun _ => rfl, fun h => (by cases h), fun _ => rfl, fun h => (by cases h), fun h => (by cases h), fun h => (by cases h), trivial⟩ (by kernel_rfl) (by kernel_rfl) (by kernel_rfl)
theorem ren_z (a b e d : Nat) (i1 i2 s : Int) (p : Bool) (o : Nat) (c : Array Value) :
    Renum (HZ a b) (TT a b 4002 2 4000 3004 4001 1 1 o e d i1 i2 s p) [] ((4002, opq 4 c 41) :: (4001, pw d) :: (4000, pw d) :: HZ a b)
      (TT a b 5000 2 6001 6000 6002 1 1 o e d i1 i2 s p) [] (HG a b c) (rho [(5000, 4002), (6001, 4000), (6000, 3004), (6002, 4001)]) :=
  renum_of (by kernel_rfl) (by kernel_rfl) ⟨fun _ => rfl, fun _ => rfl, fun _ => rfl, fun _ => rfl, fun h => (by cases h), fun _ => rfl, fun h => (by cases h), fun h => (by cases h), fun h => (by cases h), trivial⟩ (by kernel_rfl) (by kernel_rfl) (by kernel_rfl)

theorem two_pos (b x : Nat) (h : 1 ≤ x) : b * 2 ^ x = b * 2 ^ (x - 1) + b * 2 ^ (x - 1) := by
  obtain ⟨y, rfl⟩ : ∃ y, x = y + 1 := ⟨x - 1, by omega⟩
  rw [Nat.add_sub_cancel, Nat.pow_succ, ← Nat.mul_assoc]; omega
theorem big_x {a b x : Nat} (hb : 0 < b) (ha : a < 57896044618658097711785492504343953926634992332820282019728792003956564819968) (h1 : 1 ≤ x) (h : b * 2 ^ (x - 1) ≤ a) : x ≤ 255 := by
  rcases Nat.lt_or_ge x 256 with h2 | h2
  · omega
  · exfalso
    have h3 : 2 ^ 255 ≤ 2 ^ (x - 1) := Nat.pow_le_pow_right (by decide) (by omega)
    have h4 : 2 ^ (x - 1) ≤ b * 2 ^ (x - 1) := Nat.le_mul_of_pos_left _ hb
    have h5 : (2 : Nat) ^ 255 = 57896044618658097711785492504343953926634992332820282019728792003956564819968 := by decide
    omega

theorem up_g {a b : Nat} (hb : 0 < b) (ha : a < 57896044618658097711785492504343953926634992332820282019728792003956564819968) : ∀ (j x : Nat), 1 ≤ x → b * 2 ^ (x - 1) ≤ a → 256 ≤ x + j → ∀ (m k o e d : Nat) (i1 i2 s : Int) (p : Bool), ∃ r x' Y d',
    LoopI Tryz.prog PL1 (HZ a b) r (TT a b 5000 x 6001 6000 6002 m k o e d i1 i2 s p) (HG a b (cl b x).toArray) (.exit 0) (TE a b (sli 5000 x' capU) Y) (HGx a b d' (cl b x').toArray) ∧ a < b * 2 ^ x' ∧ 1 ≤ x' ∧ x' ≤ 255 ∧ b * 2 ^ (x' - 1) ≤ a
  | 0, x, h1, h2, h3, _, _, _, _, _, _, _, _, _ => by
    have := big_x hb ha h1 h2
    omega
  | j + 1, x, h1, h2, h3, m, k, o, e, d, i1, i2, s, p => by
    have hx := big_x hb ha h1 h2
    have he : b * 2 ^ (x - 1) < 57896044618658097711785492504343953926634992332820282019728792003956564819968 := Nat.lt_of_le_of_lt h2 ha
    have hA := dbl_add he
    have hdb := two_pos b x h1
    have I1 := owe_idx h1 hx
    have L1 := owe_ld b h1 hx
    by_cases ho : b * 2 ^ x < 57896044618658097711785492504343953926634992332820282019728792003956564819968
    · rw [← hdb, decide_eq_false (by simpa using ho)] at hA
      obtain ⟨s', hC, hs⟩ := cmp_nat ho ha
      by_cases hc : a < b * 2 ^ x
      · obtain ⟨Y, hY⟩ := p_g_cmp a b d m k o e (b * 2 ^ x) (b * 2 ^ (x - 1)) i1 i2 s s' p (cl b x).toArray x
        exact ⟨1, x, Y, _, LoopI.last (domG _ _ _) (runLS_step mix hY ⟨I1, L1, I1, L1, hA, hC, decide_eq_true (hs.2 hc), trivial⟩), hc, h1, hx, h2⟩
      · have hX := p_g_on a b d m k o e (b * 2 ^ x) (b * 2 ^ (x - 1)) i1 i2 s s' p (cl b x).toArray x
        obtain ⟨r, x', Y, d', hL, h4⟩ := up_g hb ha j (x + 1) (by omega) (by rw [Nat.add_sub_cancel]; omega) (by omega) x capU (0 + (IntKind.i64.wrap ((x : Int) - 1)).toNat * 4) (b * 2 ^ (x - 1)) (b * 2 ^ x) x (IntKind.i64.wrap ((x : Int) - 1)) s' (decide (0 < s'))
        refine ⟨r + 1, x', Y, d', LoopI.round (domG _ _ _) (runLS_step mix hX ⟨I1, L1, I1, L1, hA, hC, decide_eq_false (fun h => hc (hs.1 h)), ⟨?_, ?_, ?_⟩, trivial⟩) (ren_g _ _ _ _ _ _ _ _ _ _ _ _) hL, h4⟩
        · rw [List.size_toArray, cl_len]
        · unfold maxLen; omega
        · omega
    · rw [← hdb, decide_eq_true (by simpa using ho)] at hA
      obtain ⟨Y, hY⟩ := p_g_over a b d m k o e (b * 2 ^ x) (b * 2 ^ (x - 1)) i1 i2 s p (cl b x).toArray x
      exact ⟨1, x, Y, _, LoopI.last (domG _ _ _) (runLS_step mix hY ⟨I1, L1, I1, L1, hA, trivial⟩), by omega, h1, hx, h2⟩
/-- The way up. -/
theorem up_ok {a b : Nat} (hb : 0 < b) (hbl : b < 57896044618658097711785492504343953926634992332820282019728792003956564819968) (ha : a < 57896044618658097711785492504343953926634992332820282019728792003956564819968) :
    (∃ Y d, StepV Tryz.prog (.block 0 (.loop PL1)) (TZ a b) [] (HZ a b) .normal (TE a b (sli 3004 1 1) Y) [] (HZx a b d) ∧ a < b * 2 ^ 1) ∨
    (∃ x Y d, StepV Tryz.prog (.block 0 (.loop PL1)) (TZ a b) [] (HZ a b) .normal (TE a b (sli 5000 x capU) Y) [] (HGx a b d (cl b x).toArray) ∧ a < b * 2 ^ x ∧ 1 ≤ x ∧ x ≤ 255 ∧ b * 2 ^ (x - 1) ≤ a) := by
  have hA := dbl_add hbl
  have hdz : ∀ d i, domB (HZ a b) i = true → domB (HZx a b d) i = true := fun d i hi => by
    unfold HZx domB
    simp only [look]
    split
    · rfl
    · exact hi
  have hdg : ∀ d c i, domB (HZ a b) i = true → domB (HGx a b d c) i = true := fun d c i hi => by
    have := domG a b c i hi
    unfold HGx domB at *
    simp only [look]
    split
    · rfl
    · exact this
  by_cases ho : b + b < 57896044618658097711785492504343953926634992332820282019728792003956564819968
  · rw [decide_eq_false (by simpa using ho)] at hA
    obtain ⟨s, hC, hs⟩ := cmp_nat ho ha
    by_cases hc : a < b + b
    · obtain ⟨Y, hY⟩ := p_z_cmp a b (b + b) s
      exact .inl ⟨Y, _, (LoopI.loop (hdz _) (LoopI.last (fun _ h => h) (runLS_step mix hY ⟨hA, hC, decide_eq_true (hs.2 hc), trivial⟩))).block, by omega⟩
    · have hX := p_z_on a b (b + b) s
      obtain ⟨r, x', Y, d', hL, h4⟩ := up_g hb ha 256 2 (by decide) (by simp; omega) (by decide) 1 1 0 b (b + b) 1 0 s (decide (0 < s))
      have h5 := (runLS_step mix hX ⟨hA, hC, decide_eq_false (fun h => hc (hs.1 h)), trivial⟩).opaq (k := 4002) rfl (by kernel_rfl)
      have h6 : cl b 2 = wc b ++ wc (b + b) := by simp [cl, Nat.mul_two]
      rw [h6] at hL
      exact .inr ⟨x', Y, d', (LoopI.loop (hdg _ _) (LoopI.round (fun _ h => h) h5 (ren_z _ _ _ _ _ _ _ _ _ _) hL)).block, h4⟩
  · rw [decide_eq_true (by simpa using ho)] at hA
    obtain ⟨Y, hY⟩ := p_z_over a b (b + b)
    exact .inl ⟨Y, _, (LoopI.loop (hdz _) (LoopI.last (fun _ h => h) (runLS_step mix hY ⟨hA, trivial⟩))).block, by omega⟩

end Go.Proofs.YtcmfgabhgodlaaaGreatDoor

/- The document's division of numbers that are not below 0: the way down, and the whole. -/
namespace Go.Proofs.YtcmfgabhgodlaaaGreatDoor
open Go Go.RowKit
set_option linter.unusedSimpArgs false
set_option linter.unusedVariables false
set_option maxRecDepth 100000

theorem nadd {x y : Nat} (hx : x < 57896044618658097711785492504343953926634992332820282019728792003956564819968) (hy : y < 57896044618658097711785492504343953926634992332820282019728792003956564819968) : PureX Tryz.prog 106 #[wv x, wv y] (rt (wv (x + y))) := by
  have h := dadd_z (inN hx) (inN hy)
  rw [← wz_nat, ← wz_nat, show (x : Int) + (y : Int) = ((x + y : Nat) : Int) by omega, ← wz_nat] at h
  exact h
theorem nsub {x y : Nat} (hx : x < 57896044618658097711785492504343953926634992332820282019728792003956564819968) (hy : y ≤ x) : PureX Tryz.prog 95 #[wv x, wv y] (rt (wv (x - y))) := by
  have h := dsub_z (inN hx) (inN (Nat.lt_of_le_of_lt hy hx))
  rw [← wz_nat, ← wz_nat, show (x : Int) - (y : Int) = ((x - y : Nat) : Int) by omega, ← wz_nat] at h
  exact h
theorem none_z : PureX Tryz.prog 96 #[] (rt (wv 1)) := done_z.is (by kernel_rfl)

theorem down_g {b x a0 : Nat} (hb : 0 < b) (hx : x ≤ 255) (hcl : ∀ k, k < x → b * 2 ^ k < 57896044618658097711785492504343953926634992332820282019728792003956564819968) (ha : a0 < 57896044618658097711785492504343953926634992332820282019728792003956564819968) : ∀ (k q a' : Nat), k ≤ x → a0 = q * (b * 2 ^ k) + a' → a' < b * 2 ^ k → ∀ (a d : Nat) (X : Nat → Value), ∃ r Y,
    LoopN Tryz.prog PL2 r (TL a b (sli 5000 x capU) ((k : Int) - 1) X) [] (HMg q a' b d (cl b x).toArray) (.exit 2) (TL a b (sli 5000 x capU) (-1) Y) [] (HMg (dwn b k q a').1 (dwn b k q a').2 b d (cl b x).toArray)
  | 0, q, a', _, _, _, a, d, X => by
    obtain ⟨Y, hY⟩ := p_l_out a b d q a' (-1) (cl b x).toArray (sli 5000 x capU) X
    exact ⟨1, Y, LoopN.last (runLS_step mix hY ⟨rfl, trivial⟩)⟩
  | k + 1, q, a', hk, h0, hlt, a, d, X => by
    have hq := dwn_le h0 hb
    have he : b * 2 ^ (k + 1) = b * 2 ^ k + b * 2 ^ k := by rw [Nat.pow_succ, ← Nat.mul_assoc]; omega
    have h1 : a0 = (q + q) * (b * 2 ^ k) + a' := by rw [h0, he, Nat.mul_add, Nat.add_mul]
    have hq2 := dwn_le h1 hb
    have ei : ((k + 1 : Nat) : Int) - 1 = (k : Int) := by omega
    rw [ei]
    have A := nadd (x := q) (y := q) (by omega) (by omega)
    have I1 : 0 ≤ (k : Int) ∧ (k : Int) < (x : Int) := by omega
    have L1 : (((cl b x).toArray).toList.drop (0 + ((k : Int)).toNat * 4)).take (wc (b * 2 ^ k)).length = wc (b * 2 ^ k) := by
      rw [Int.toNat_natCast, Nat.zero_add]
      exact cl_at b x k (by omega)
    have W : IntKind.i64.wrap ((k : Int) - 1) = (k : Int) - 1 := wrapI (by omega)
    unfold dwn
    have hbig := hcl k (by omega)
    · obtain ⟨s, hC, hs⟩ := cmp_nat hbig (show a' < 57896044618658097711785492504343953926634992332820282019728792003956564819968 by omega)
      by_cases hc : b * 2 ^ k ≤ a'
      · obtain ⟨Y, hY⟩ := p_l_yes a b d 1 (b * 2 ^ k) q a' (q + q) (a' - b * 2 ^ k) (q + q + 1) x s (k : Int) (cl b x).toArray X
        rw [W] at hY
        obtain ⟨r, Z, hL⟩ := down_g hb hx hcl ha k (q + q + 1) (a' - b * 2 ^ k) (by omega) (by rw [h1, Nat.add_mul (q + q) 1]; omega) (by omega) a d Y
        rw [if_pos hc]
        have h2 : a0 = (q + q + 1) * (b * 2 ^ k) + (a' - b * 2 ^ k) := by rw [h1, Nat.add_mul (q + q) 1]; omega
        have hq3 := dwn_le h2 hb
        exact ⟨r + 1, Z, LoopN.round (runLS_step mix hY ⟨decide_eq_true I1.1, A, I1, L1, hC, decide_eq_true (by omega), I1, L1, nsub (by omega) hc, none_z, nadd (by omega) (by decide), trivial⟩) hL⟩
      · obtain ⟨Y, hY⟩ := p_l_no a b d (b * 2 ^ k) q a' (q + q) x s (k : Int) (cl b x).toArray X
        rw [W] at hY
        obtain ⟨r, Z, hL⟩ := down_g hb hx hcl ha k (q + q) a' (by omega) h1 (by omega) a d Y
        rw [if_neg hc]
        exact ⟨r + 1, Z, LoopN.round (runLS_step mix hY ⟨decide_eq_true I1.1, A, I1, L1, hC, decide_eq_false (by omega), trivial⟩) hL⟩

theorem perm_g (a b d : Nat) (c : Array Value) (i : Nat) : look (HMg 0 a b d c) i = look ((7000, pw 0) :: HGx a b d c) i :=
  look_eq (G := HMg 0 a b d c) (H := (7000, pw 0) :: HGx a b d c) ⟨rfl, rfl, rfl, rfl, rfl, rfl, rfl, rfl, rfl, rfl, rfl, trivial⟩ ⟨rfl, rfl, rfl, rfl, rfl, rfl, rfl, rfl, rfl, rfl, rfl, trivial⟩ i
theorem perm_z (a b d : Nat) (i : Nat) : look (HMz 0 a b d) i = look ((7000, pw 0) :: HZx a b d) i :=
  look_eq (G := HMz 0 a b d) (H := (7000, pw 0) :: HZx a b d) ⟨rfl, rfl, rfl, rfl, rfl, rfl, rfl, trivial⟩ ⟨rfl, rfl, rfl, rfl, rfl, rfl, rfl, trivial⟩ i
theorem perm_0 (a b : Nat) (i : Nat) : look (HZ a b) i = look [(3004, pw b), (3003, pw 0), (3002, pw 0), (3001, pw b), (3000, pw a)] i :=
  look_eq (G := HZ a b) (H := [(3004, pw b), (3003, pw 0), (3002, pw 0), (3001, pw b), (3000, pw a)]) ⟨rfl, rfl, rfl, rfl, rfl, trivial⟩ ⟨rfl, rfl, rfl, rfl, rfl, trivial⟩ i
theorem pre_ok (a b : Nat) {ex : Ex} {t1 : List Value} {H1 : Hp} {rest : Code} (h : StepV Tryz.prog rest (TZ a b) [] (HZ a b) ex t1 [] H1) :
    StepV Tryz.prog (.seq (cA body198) (.seq (cA (cB body198)) rest)) (frame0 Tryz.f94 #[wv a, wv b]) [] [] ex t1 [] H1 :=
  StepV.seq (runLS_step mix (p_pre0 a b) trivial) (StepV.seq ((runLS_step mix (p_pre1 a b) trivial).perm (perm_0 a b)) h)
theorem plain_nat {a b : Nat} (hb : 0 < b) (hbl : b < 57896044618658097711785492504343953926634992332820282019728792003956564819968) (ha : a < 57896044618658097711785492504343953926634992332820282019728792003956564819968) : PureX Tryz.prog 94 #[wv a, wv b] (rt (tp [wv (a / b), wv (a % b)])) := by
  rcases up_ok hb hbl ha with ⟨X, d, hU, hlt⟩ | ⟨x, X, d, hU, hlt, hx1, hx, hle⟩
  · have hd := dwn_all hb hlt
    have A := nadd (x := 0) (y := 0) (by decide) (by decide)
    obtain ⟨X6, h6⟩ := p_r6z a b d 0 X
    obtain ⟨s, hC, hs⟩ := cmp_nat hbl ha
    have key : ∃ q a' Y, StepV Tryz.prog (.block 2 (.loop PL2)) (TL a b (sli 3004 1 1) 0 X6) [] (HMz 0 a b d) .normal (TL a b (sli 3004 1 1) (-1) Y) [] (HMz q a' b d) ∧ (q, a') = dwn b 1 0 a := by
      unfold dwn
      by_cases hc : b ≤ a
      · obtain ⟨Y, hY⟩ := p_z_yes a b d 1 0 a 0 (a - b) 1 s X6
        obtain ⟨Z, hZ⟩ := p_z_out a b d 1 (a - b) (sli 3004 1 1) Y
        refine ⟨1, a - b, Z, (LoopN.loop (LoopN.round (runLS_step mix hY ⟨A, hC, decide_eq_true (by omega), nsub ha hc, none_z, nadd (x := 0) (y := 1) (by decide) (by decide), trivial⟩) (LoopN.last (runLS_step mix hZ trivial)))).block, ?_⟩
        rw [if_pos (by simpa using hc)]
        simp [dwn]
      · obtain ⟨Y, hY⟩ := p_z_no a b d 0 a 0 s X6
        obtain ⟨Z, hZ⟩ := p_z_out a b d 0 a (sli 3004 1 1) Y
        refine ⟨0, a, Z, (LoopN.loop (LoopN.round (runLS_step mix hY ⟨A, hC, decide_eq_false (by omega), trivial⟩) (LoopN.last (runLS_step mix hZ trivial)))).block, ?_⟩
        rw [if_neg (by simpa using hc)]
        simp [dwn]
    obtain ⟨q, a', Y, hL, hqa⟩ := key
    rw [hd] at hqa
    cases hqa
    obtain ⟨T, H, hE, hv⟩ := p_end_z a b d (a / b) (a % b) (-1) (sli 3004 1 1) Y
    have hw := pre_ok a b (StepV.seq hU (StepV.seq ((runLS_step mix (p_r5z a b d (sli 3004 1 1) X) trivial).perm (perm_z a b d)) (StepV.seq (StepV.seq (runLS_step mix h6 trivial) hL) (runLS_step mix hE trivial))))
    exact CallsV.pure (callsV_step Tryz.func94 pbody hw rfl hv rfl (fun _ _ h => by cases h) rfl) rfl rfl
  · have hd := dwn_all hb hlt
    obtain ⟨X6, h6⟩ := p_r6g a b d 0 x (cl b x).toArray X
    rw [idx_ok hx1 hx, show ((x - 1 : Nat) : Int) = (x : Int) - 1 by omega] at h6
    obtain ⟨r, Y, hL⟩ := down_g (a0 := a) hb hx (fun k hk => by
      have h1 : 2 ^ k ≤ 2 ^ (x - 1) := Nat.pow_le_pow_right (by decide) (by omega)
      have h2 : b * 2 ^ k ≤ b * 2 ^ (x - 1) := Nat.mul_le_mul_left b h1
      omega) ha x 0 a (Nat.le_refl _) (by simp) hlt a d X6
    rw [hd] at hL
    obtain ⟨T, H, hE, hv⟩ := p_end_g a b d (a / b) (a % b) (-1) (cl b x).toArray (sli 5000 x capU) Y
    have hw := pre_ok a b (StepV.seq hU (StepV.seq ((runLS_step mix (p_r5g a b d (cl b x).toArray (sli 5000 x capU) X) trivial).perm (perm_g a b d _)) (StepV.seq (StepV.seq (runLS_step mix h6 trivial) (LoopN.loop hL).block) (runLS_step mix hE trivial))))
    exact CallsV.pure (callsV_step Tryz.func94 pbody hw rfl hv rfl (fun _ _ h => by cases h) rfl) rfl rfl
theorem plain_ok : PlainOK := by
  intro a b ha hb hRa hRb
  obtain ⟨A, rfl⟩ := Int.eq_ofNat_of_zero_le ha
  obtain ⟨B, rfl⟩ := Int.eq_ofNat_of_zero_le (Int.le_of_lt hb)
  unfold inR at hRa hRb
  have h := plain_nat (a := A) (b := B) (by omega) (by omega) (by omega)
  rw [wz_nat, wz_nat, wz_nat, wz_nat] at h
  simpa using h

end Go.Proofs.YtcmfgabhgodlaaaGreatDoor
