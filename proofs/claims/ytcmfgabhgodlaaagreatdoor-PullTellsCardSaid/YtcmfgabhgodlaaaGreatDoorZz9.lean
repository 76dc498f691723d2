/- Texts of the seat, joined. -/
import Derived.Test.YtcmfgabhgodlaaaGreatDoorZz8
import Derived.Test.YtcmfgabhgodlaaaGreatDoorZz6
import Derived.Lib.ItoaNum
/- The contract of math/bits.Div64 where the divisor has its highest bit. -/
namespace Go.Proofs.YtcmfgabhgodlaaaGreatDoor
open Go Go.RowKit Go.Shelf
set_option linter.unusedSimpArgs false
set_option linter.unusedVariables false

attribute [local go_sem] Oper.semAt_some

theorem bitLen_top (x : Nat) (h : 9223372036854775808 ≤ x) (h2 : x < 18446744073709551616) : Lib.bitLen x = 64 := by
  obtain ⟨a, b, c⟩ := Lib.bitLenAux_bounds 64 x h2 (by omega)
  have d : Lib.bitLenAux 64 x ≤ 64 := by
    rcases Nat.lt_or_ge 64 (Lib.bitLenAux 64 x) with h3 | h3
    · have : 2 ^ 64 ≤ 2 ^ (Lib.bitLenAux 64 x - 1) := Nat.pow_le_pow_right (by omega) (by omega)
      omega
    · exact h3
  have e : 64 ≤ Lib.bitLenAux 64 x := by
    rcases Nat.lt_or_ge (Lib.bitLenAux 64 x) 64 with h3 | h3
    · have : 2 ^ (Lib.bitLenAux 64 x) ≤ 2 ^ 63 := Nat.pow_le_pow_right (by omega) (by omega)
      omega
    · exact h3
  show Lib.bitLenAux 64 x = 64
  omega

/-- What a round of Div64 goes on with. -/
theorem div_le {q a b r h u y N : Nat} (hy : y = a * 4294967296 + b) (hN : N = h * 4294967296 + u) (hq : q * a + r = h) (hc : q * b ≤ 4294967296 * r + u) : q * y ≤ N := by
  subst hy hN hq
  have e : q * (a * 4294967296 + b) = q * a * 4294967296 + q * b := by rw [Nat.mul_add, Nat.mul_assoc]
  rw [e]
  omega
theorem div_gt {q a b r h u y N : Nat} (hy : y = a * 4294967296 + b) (hN : N = h * 4294967296 + u) (hq : q * a + r = h) (hc : 4294967296 * r + u < q * b) : N < q * y := by
  subst hy hN hq
  have e : q * (a * 4294967296 + b) = q * a * 4294967296 + q * b := by rw [Nat.mul_add, Nat.mul_assoc]
  rw [e]
  omega
theorem div_start {a b h u y N : Nat} (hy : y = a * 4294967296 + b) (ha : 0 < a) (hu : u < 4294967296) (hN : N = h * 4294967296 + u) : N / y ≤ h / a := by
  rw [Nat.le_div_iff_mul_le ha]
  have h1 : N / y * y ≤ N := Nat.div_mul_le_self _ _
  have h2 : N / y * (a * 4294967296) ≤ N / y * y := Nat.mul_le_mul_left _ (by omega)
  rw [← Nat.mul_assoc] at h2
  omega

/-- One half of the quotient: behind a break. -/
theorem div_break {q a b r h u y N : Nat} (hy : y = a * 4294967296 + b) (hN : N = h * 4294967296 + u) (hq : q * a + r = h) (hr : 4294967296 ≤ r) (hb : b < 4294967296) (hq2 : q ≤ 4294967296) : q * y ≤ N := by
  refine div_le hy hN hq ?_
  have h1 : q * b ≤ 4294967296 * 4294967295 := Nat.mul_le_mul hq2 (by omega)
  omega
theorem or_zero64 (x : Nat) (hx : x < 18446744073709551616) (z : Int) (hz : z = 0) : bits BinOp.or IntKind.u64 (x : Int) z = (x : Int) := by
  subst hz
  have h := bits_or_u64_nat x 0 hx (by omega)
  rw [Nat.or_zero] at h
  exact h

set_option maxRecDepth 100000 in
set_option maxHeartbeats 8000000 in
theorem div64_big (hi lo y a b u0 u1 q0 r0 T1 m1 m2 m3 R1 q2 r2 T2 Z : Nat) (hy : 9223372036854775808 ≤ y) (hy2 : y < 18446744073709551616) (hh : hi < y) (hl : lo < 18446744073709551616) (h0 : 1 ≤ hi)
    (ha : 2147483648 ≤ a) (ha2 : a < 4294967296) (hb : b < 4294967296) (hu0 : u0 < 4294967296) (hu1 : u1 < 4294967296)
    (HY : Hid (y = a * 4294967296 + b)) (ey : (y : Int) / 4294967296 = (a : Int)) (eb : bits BinOp.and IntKind.u64 (y : Int) 4294967295 = (b : Int)) (eo : bits BinOp.or IntKind.u64 (hi : Int) ((lo : Int) / 18446744073709551616) = (hi : Int))
    (el : (lo : Int) / 4294967296 = (u1 : Int)) (em : bits BinOp.and IntKind.u64 (lo : Int) 4294967295 = (u0 : Int))
    (eq0 : (hi : Int) / (a : Int) = (q0 : Int)) (er0 : (hi : Int) - (q0 : Int) * (a : Int) = (r0 : Int)) (p0 : (0 : Int) ≤ (q0 : Int) * (a : Int)) (p1 : (q0 : Int) * (a : Int) ≤ (hi : Int)) (HQ1 : Hid (q0 * a + r0 = hi)) (hr0 : r0 < 4294967296) (hq0 : q0 ≤ 4294967297)
    (hT1 : T1 ≤ q0) (hT1b : T1 < 4294967296) (HTle1 : Hid (∀ k, k * y ≤ hi * 4294967296 + u1 → k ≤ T1)) (HTlt1 : Hid (∀ k, hi * 4294967296 + u1 < k * y → T1 < k))
    (HB : Hid (IntKind.u64.wrap ((hi : Int) * 4294967296) = (m1 : Int) ∧ IntKind.u64.wrap ((m1 : Int) + (u1 : Int)) = (m2 : Int) ∧ IntKind.u64.wrap ((T1 : Int) * (y : Int)) = (m3 : Int) ∧ IntKind.u64.wrap ((m2 : Int) - (m3 : Int)) = (R1 : Int) ∧
      (R1 : Int) / (a : Int) = (q2 : Int) ∧ (R1 : Int) - (q2 : Int) * (a : Int) = (r2 : Int) ∧ (0 : Int) ≤ (q2 : Int) * (a : Int) ∧ (q2 : Int) * (a : Int) ≤ (R1 : Int)))
    (hR1 : R1 < 18446744073709551616) (HQ2 : Hid (q2 * a + r2 = R1)) (hr2 : r2 < 4294967296) (hq2 : q2 ≤ 4294967297)
    (hT2 : T2 ≤ q2) (hT2b : T2 < 4294967296) (HTle2 : Hid (∀ k, k * y ≤ R1 * 4294967296 + u0 → k ≤ T2)) (HTlt2 : Hid (∀ k, R1 * 4294967296 + u0 < k * y → T2 < k)) (HZ : Hid (T1 * 4294967296 + T2 = Z)) (w : World) :
    Calls Tryz.prog 119 #[.int .u64 hi, .int .u64 lo, .int .u64 y] w fun ee w' => (∃ r : Int, ee = .returned (.tuple #[.int .u64 Z, .int .u64 r])) ∧ w = w' := by
  have hlz : ∀ w, Calls Tryz.prog 109 #[.int .u64 y] w fun e w' => e = .returned (.int .i64 0) ∧ w = w' := fun w => by
    have h := Tryz.bits_LeadingZeros64 y w (by omega) (by omega)
    rw [show (y : Int).toNat = y by omega, bitLen_top y hy hy2] at h
    exact h.mono fun _ _ ⟨h1, h2⟩ => ⟨h1, h2.symm⟩
  have z1 : ((y : Int) == 0) = false := by rw [beq_eq_false_iff_ne]; omega
  have z2 : ((hi : Int) == 0) = false := by rw [beq_eq_false_iff_ne]; omega
  go_enter Tryz.func119, Tryz.ntmps119
  go_wp2_with (go_at_call 109; refine (hlz _).mono ?_; rintro e w' ⟨rfl, rfl⟩)
  go_loop [16, 15] (fun v16 v15 => ∃ q r : Nat, v15 = .int .u64 q ∧ v16 = .int .u64 r ∧ Hid (q * a + r = hi) ∧ T1 ≤ q ∧ r < 4294967296 ∧ q ≤ 4294967297) (fun _ v15 => (intOf v15).toNat)
  case atStart => exact ⟨q0, r0, rfl, rfl, HQ1.out, by omega, by omega, by omega⟩
  case round =>
    obtain ⟨q, r, rfl, rfl, HI, hT, hr, hq⟩ := hrel
    clear eq0 er0 p0 p1 HQ1 hr0 hq0 eo el em ey eb z1 z2
    by_cases c1 : 4294967296 ≤ q
    · obtain ⟨k, hkq⟩ : ∃ k, q = k + 1 := ⟨q - 1, by omega⟩
      have HK : Hid ((q : Int) - 1 = (k : Int)) := Lib.hid (by omega)
      have hk2 : (4294967296 : Int) ≤ (q : Int) := by omega
      have d1 : decide ((4294967296 : Int) ≤ (q : Int)) = true := decide_eq_true hk2
      have d2 : decide (4294967296 ≤ q) = true := decide_eq_true c1
      obtain ⟨z, hz⟩ : ∃ z, r + a = z := ⟨_, rfl⟩
      have hzi : (r : Int) + (a : Int) = (z : Int) := by omega
      have HI2 : Hid (k * a + z = hi) := Lib.hid (by have := HI.out; rw [hkq, Nat.add_mul] at this; omega)
      have hzb : z < 8589934592 := by omega
      clear hz
      have hTk : T1 ≤ k := by omega
      have hk3 : k ≤ 4294967296 := by omega
      have hkk : k < q := by omega
      clear hkq
      by_cases c2 : 4294967296 ≤ z
      · have c2' : (4294967296 : Int) ≤ (z : Int) := by omega

        have hend : k = T1 := by
          have h1 := div_break HY.out (rfl : hi * 4294967296 + u1 = hi * 4294967296 + u1) HI2.out c2 (by omega) (by omega)
          have h2 : k ≤ T1 := HTle1.out k h1
          omega
        clear HI HI2 hT hr hq c1
        subst hend
        obtain ⟨em1, em2, em3, em4, eq2, er2, p2, p3⟩ := HB.out
        have hk := HK.out
        go_wp2
        go_loop [16, 18] (fun v16 v18 => ∃ q r : Nat, v18 = .int .u64 q ∧ v16 = .int .u64 r ∧ Hid (q * a + r = R1) ∧ T2 ≤ q ∧ r < 4294967296 ∧ q ≤ 4294967297) (fun _ v18 => (intOf v18).toNat)
        case atStart => exact ⟨q2, r2, rfl, rfl, HQ2.out, by omega, by omega, by omega⟩
        case round =>
          obtain ⟨q, r, rfl, rfl, HI, hT, hr, hq⟩ := hrel
          clear em1 em2 em3 em4 eq2 er2 p2 p3 HQ2 hr2 hq2
          by_cases c1 : 4294967296 ≤ q
          · obtain ⟨k, hkq⟩ : ∃ k, q = k + 1 := ⟨q - 1, by omega⟩
            have HK : Hid ((q : Int) - 1 = (k : Int)) := Lib.hid (by omega)
            have hk2 : (4294967296 : Int) ≤ (q : Int) := by omega
            have d1 : decide ((4294967296 : Int) ≤ (q : Int)) = true := decide_eq_true hk2
            have d2 : decide (4294967296 ≤ q) = true := decide_eq_true c1
            obtain ⟨z, hz⟩ : ∃ z, r + a = z := ⟨_, rfl⟩
            have hzi : (r : Int) + (a : Int) = (z : Int) := by omega
            have HI2 : Hid (k * a + z = R1) := Lib.hid (by have := HI.out; rw [hkq, Nat.add_mul] at this; omega)
            have hzb : z < 8589934592 := by omega
            clear hz
            have hTk : T2 ≤ k := by omega
            have hk3 : k ≤ 4294967296 := by omega
            have hkk : k < q := by omega
            clear hkq
            by_cases c2 : 4294967296 ≤ z
            · have c2' : (4294967296 : Int) ≤ (z : Int) := by omega

              have hend : k = T2 := by
                have h1 := div_break HY.out (rfl : R1 * 4294967296 + u0 = R1 * 4294967296 + u0) HI2.out c2 (by omega) (by omega)
                have h2 : k ≤ T2 := HTle2.out k h1
                omega
              clear HI HI2 hT hr hq c1
              subst hend
              have hk := HK.out
              go_wp2
              go_ret2
              exact ⟨⟨_, by rw [← HZ.out]; go_num⟩, rfl⟩
            · have c2' : (z : Int) < 4294967296 := by omega
              have hz9 : z < 4294967296 := by omega
              have HZ9 := Lib.hid hz9
              have HK3 := Lib.hid (And.intro hTk (And.intro hk3 hkk))
              have d6 : decide ((4294967296 : Int) ≤ (z : Int)) = false := decide_eq_false (by omega)
              have hqi : (q : Int) ≤ 4294967297 := by omega
              have hk := HK.out
              clear c2 hz9 hk3 hzb hTk hkk c1 d2 hT hr hq HI
              go_wp2
              obtain ⟨hTk, hk3, hkk⟩ := HK3.out
              have hz9 := HZ9.out
              go_round
              case rel => exact ⟨k, z, rfl, rfl, HI2, by omega, by omega, by omega⟩
              case measure => simp [intOf]; omega
          · have d1 : decide ((4294967296 : Int) ≤ (q : Int)) = false := decide_eq_false (by omega)
            have d2 : decide (4294967296 ≤ q) = false := decide_eq_false c1
            have b0 : (0 : Int) ≤ (q : Int) * (b : Int) := Int.mul_nonneg (by omega) (by omega)
            have b1 : (q : Int) * (b : Int) ≤ 18446744065119617025 := by
              have := prod_le (show q < 4294967296 by omega) hb
              have := Int.ofNat_le.2 this
              simpa using this
            obtain ⟨mm, hmm⟩ : ∃ m, q * b = m := ⟨_, rfl⟩
            obtain ⟨s1, hs1⟩ : ∃ m, 4294967296 * r = m := ⟨_, rfl⟩
            obtain ⟨ss, hss⟩ : ∃ m, s1 + u0 = m := ⟨_, rfl⟩
            have hmi : (q : Int) * (b : Int) = (mm : Int) := by rw [← hmm]; simp
            have hsi : 4294967296 * (r : Int) = (s1 : Int) := by omega
            have hti : (s1 : Int) + (u0 : Int) = (ss : Int) := by omega
            have hri : (r : Int) < 4294967296 := by omega
            have hs2 : s1 ≤ 18446744069414584320 := by omega
            by_cases c3 : 4294967296 * r + u0 < q * b
            · have hgt := div_gt HY.out (rfl : R1 * 4294967296 + u0 = R1 * 4294967296 + u0) HI.out c3
              have hTq : T2 < q := HTlt2.out q hgt
              obtain ⟨k, hkq⟩ : ∃ k, q = k + 1 := ⟨q - 1, by omega⟩
              have HK : Hid ((q : Int) - 1 = (k : Int)) := Lib.hid (by omega)
              have c1' : (q : Int) < 4294967296 := by omega
              have d3 : decide (ss < mm) = true := decide_eq_true (by omega)
              have d4 : ss < mm := by omega
              obtain ⟨z, hz⟩ : ∃ z, r + a = z := ⟨_, rfl⟩
              have hzi : (r : Int) + (a : Int) = (z : Int) := by omega
              have HI2 : Hid (k * a + z = R1) := Lib.hid (by have := HI.out; rw [hkq, Nat.add_mul] at this; omega)
              have hzb : z < 8589934592 := by omega
              clear hz
              have hTk : T2 ≤ k := by omega
              have hk3 : k ≤ 4294967296 := by omega
              have hkk : k < q := by omega
              clear hkq
              by_cases c2 : 4294967296 ≤ z
              · have c2' : (4294967296 : Int) ≤ (z : Int) := by omega

                have hend : k = T2 := by
                  have h1 := div_break HY.out (rfl : R1 * 4294967296 + u0 = R1 * 4294967296 + u0) HI2.out c2 (by omega) (by omega)
                  have h2 : k ≤ T2 := HTle2.out k h1
                  omega
                clear HI HI2 hT hr hq c1 hgt hTq c3 hmm hs1 hss
                subst hend
                have hk := HK.out
                go_wp2
                go_ret2
                exact ⟨⟨_, by rw [← HZ.out]; go_num⟩, rfl⟩
              · have c2' : (z : Int) < 4294967296 := by omega
                have hz9 : z < 4294967296 := by omega
                have HZ9 := Lib.hid hz9
                have HK3 := Lib.hid (And.intro hTk (And.intro hk3 hkk))
                have d6 : decide ((4294967296 : Int) ≤ (z : Int)) = false := decide_eq_false (by omega)
                have hk := HK.out
                have hq1 : (1 : Int) ≤ (q : Int) := by omega
                clear c2 hz9 hk3 hzb hTk hkk c1 d2 hT hr hq HI hgt hTq c3 hmm hs1 hss
                go_wp2
                obtain ⟨hTk, hk3, hkk⟩ := HK3.out
                have hz9 := HZ9.out
                go_round
                case rel => exact ⟨k, z, rfl, rfl, HI2, by omega, by omega, by omega⟩
                case measure => simp [intOf]; omega
            · have hle := div_le HY.out (rfl : R1 * 4294967296 + u0 = R1 * 4294967296 + u0) HI.out (Nat.le_of_not_lt c3)
              have c1' : (q : Int) < 4294967296 := by omega
              have d3 : decide (ss < mm) = false := decide_eq_false (by omega)
              have d4 : ¬ ss < mm := by omega
              have hend : q = T2 := by have h2 : q ≤ T2 := HTle2.out q hle; omega
              clear HI hT hr hq c1 hle c3 d2 hmm hs1 hss
              subst hend
              go_wp2
              go_ret2
              exact ⟨⟨_, by rw [← HZ.out]; go_num⟩, rfl⟩
      · have c2' : (z : Int) < 4294967296 := by omega
        have hz9 : z < 4294967296 := by omega
        have HZ9 := Lib.hid hz9
        have HK3 := Lib.hid (And.intro hTk (And.intro hk3 hkk))
        have d6 : decide ((4294967296 : Int) ≤ (z : Int)) = false := decide_eq_false (by omega)
        have hqi : (q : Int) ≤ 4294967297 := by omega
        have hk := HK.out
        clear c2 hz9 hk3 hzb hTk hkk c1 d2 hT hr hq HI
        go_wp2
        obtain ⟨hTk, hk3, hkk⟩ := HK3.out
        have hz9 := HZ9.out
        go_round
        case rel => exact ⟨k, z, rfl, rfl, HI2, by omega, by omega, by omega⟩
        case measure => simp [intOf]; omega
    · have d1 : decide ((4294967296 : Int) ≤ (q : Int)) = false := decide_eq_false (by omega)
      have d2 : decide (4294967296 ≤ q) = false := decide_eq_false c1
      have b0 : (0 : Int) ≤ (q : Int) * (b : Int) := Int.mul_nonneg (by omega) (by omega)
      have b1 : (q : Int) * (b : Int) ≤ 18446744065119617025 := by
        have := prod_le (show q < 4294967296 by omega) hb
        have := Int.ofNat_le.2 this
        simpa using this
      obtain ⟨mm, hmm⟩ : ∃ m, q * b = m := ⟨_, rfl⟩
      obtain ⟨s1, hs1⟩ : ∃ m, 4294967296 * r = m := ⟨_, rfl⟩
      obtain ⟨ss, hss⟩ : ∃ m, s1 + u1 = m := ⟨_, rfl⟩
      have hmi : (q : Int) * (b : Int) = (mm : Int) := by rw [← hmm]; simp
      have hsi : 4294967296 * (r : Int) = (s1 : Int) := by omega
      have hti : (s1 : Int) + (u1 : Int) = (ss : Int) := by omega
      have hri : (r : Int) < 4294967296 := by omega
      have hs2 : s1 ≤ 18446744069414584320 := by omega
      by_cases c3 : 4294967296 * r + u1 < q * b
      · have hgt := div_gt HY.out (rfl : hi * 4294967296 + u1 = hi * 4294967296 + u1) HI.out c3
        have hTq : T1 < q := HTlt1.out q hgt
        obtain ⟨k, hkq⟩ : ∃ k, q = k + 1 := ⟨q - 1, by omega⟩
        have HK : Hid ((q : Int) - 1 = (k : Int)) := Lib.hid (by omega)
        have c1' : (q : Int) < 4294967296 := by omega
        have d3 : decide (ss < mm) = true := decide_eq_true (by omega)
        have d4 : ss < mm := by omega
        obtain ⟨z, hz⟩ : ∃ z, r + a = z := ⟨_, rfl⟩
        have hzi : (r : Int) + (a : Int) = (z : Int) := by omega
        have HI2 : Hid (k * a + z = hi) := Lib.hid (by have := HI.out; rw [hkq, Nat.add_mul] at this; omega)
        have hzb : z < 8589934592 := by omega
        clear hz
        have hTk : T1 ≤ k := by omega
        have hk3 : k ≤ 4294967296 := by omega
        have hkk : k < q := by omega
        clear hkq
        by_cases c2 : 4294967296 ≤ z
        · have c2' : (4294967296 : Int) ≤ (z : Int) := by omega

          have hend : k = T1 := by
            have h1 := div_break HY.out (rfl : hi * 4294967296 + u1 = hi * 4294967296 + u1) HI2.out c2 (by omega) (by omega)
            have h2 : k ≤ T1 := HTle1.out k h1
            omega
          clear HI HI2 hT hr hq c1 hgt hTq c3 hmm hs1 hss
          subst hend
          obtain ⟨em1, em2, em3, em4, eq2, er2, p2, p3⟩ := HB.out
          have hk := HK.out
          go_wp2
          go_loop [16, 18] (fun v16 v18 => ∃ q r : Nat, v18 = .int .u64 q ∧ v16 = .int .u64 r ∧ Hid (q * a + r = R1) ∧ T2 ≤ q ∧ r < 4294967296 ∧ q ≤ 4294967297) (fun _ v18 => (intOf v18).toNat)
          case atStart => exact ⟨q2, r2, rfl, rfl, HQ2.out, by omega, by omega, by omega⟩
          case round =>
            obtain ⟨q, r, rfl, rfl, HI, hT, hr, hq⟩ := hrel
            clear em1 em2 em3 em4 eq2 er2 p2 p3 HQ2 hr2 hq2
            by_cases c1 : 4294967296 ≤ q
            · obtain ⟨k, hkq⟩ : ∃ k, q = k + 1 := ⟨q - 1, by omega⟩
              have HK : Hid ((q : Int) - 1 = (k : Int)) := Lib.hid (by omega)
              have hk2 : (4294967296 : Int) ≤ (q : Int) := by omega
              have d1 : decide ((4294967296 : Int) ≤ (q : Int)) = true := decide_eq_true hk2
              have d2 : decide (4294967296 ≤ q) = true := decide_eq_true c1
              obtain ⟨z, hz⟩ : ∃ z, r + a = z := ⟨_, rfl⟩
              have hzi : (r : Int) + (a : Int) = (z : Int) := by omega
              have HI2 : Hid (k * a + z = R1) := Lib.hid (by have := HI.out; rw [hkq, Nat.add_mul] at this; omega)
              have hzb : z < 8589934592 := by omega
              clear hz
              have hTk : T2 ≤ k := by omega
              have hk3 : k ≤ 4294967296 := by omega
              have hkk : k < q := by omega
              clear hkq
              by_cases c2 : 4294967296 ≤ z
              · have c2' : (4294967296 : Int) ≤ (z : Int) := by omega

                have hend : k = T2 := by
                  have h1 := div_break HY.out (rfl : R1 * 4294967296 + u0 = R1 * 4294967296 + u0) HI2.out c2 (by omega) (by omega)
                  have h2 : k ≤ T2 := HTle2.out k h1
                  omega
                clear HI HI2 hT hr hq c1
                subst hend
                have hk := HK.out
                go_wp2
                go_ret2
                exact ⟨⟨_, by rw [← HZ.out]; go_num⟩, rfl⟩
              · have c2' : (z : Int) < 4294967296 := by omega
                have hz9 : z < 4294967296 := by omega
                have HZ9 := Lib.hid hz9
                have HK3 := Lib.hid (And.intro hTk (And.intro hk3 hkk))
                have d6 : decide ((4294967296 : Int) ≤ (z : Int)) = false := decide_eq_false (by omega)
                have hqi : (q : Int) ≤ 4294967297 := by omega
                have hk := HK.out
                clear c2 hz9 hk3 hzb hTk hkk c1 d2 hT hr hq HI
                go_wp2
                obtain ⟨hTk, hk3, hkk⟩ := HK3.out
                have hz9 := HZ9.out
                go_round
                case rel => exact ⟨k, z, rfl, rfl, HI2, by omega, by omega, by omega⟩
                case measure => simp [intOf]; omega
            · have d1 : decide ((4294967296 : Int) ≤ (q : Int)) = false := decide_eq_false (by omega)
              have d2 : decide (4294967296 ≤ q) = false := decide_eq_false c1
              have b0 : (0 : Int) ≤ (q : Int) * (b : Int) := Int.mul_nonneg (by omega) (by omega)
              have b1 : (q : Int) * (b : Int) ≤ 18446744065119617025 := by
                have := prod_le (show q < 4294967296 by omega) hb
                have := Int.ofNat_le.2 this
                simpa using this
              obtain ⟨mm, hmm⟩ : ∃ m, q * b = m := ⟨_, rfl⟩
              obtain ⟨s1, hs1⟩ : ∃ m, 4294967296 * r = m := ⟨_, rfl⟩
              obtain ⟨ss, hss⟩ : ∃ m, s1 + u0 = m := ⟨_, rfl⟩
              have hmi : (q : Int) * (b : Int) = (mm : Int) := by rw [← hmm]; simp
              have hsi : 4294967296 * (r : Int) = (s1 : Int) := by omega
              have hti : (s1 : Int) + (u0 : Int) = (ss : Int) := by omega
              have hri : (r : Int) < 4294967296 := by omega
              have hs2 : s1 ≤ 18446744069414584320 := by omega
              by_cases c3 : 4294967296 * r + u0 < q * b
              · have hgt := div_gt HY.out (rfl : R1 * 4294967296 + u0 = R1 * 4294967296 + u0) HI.out c3
                have hTq : T2 < q := HTlt2.out q hgt
                obtain ⟨k, hkq⟩ : ∃ k, q = k + 1 := ⟨q - 1, by omega⟩
                have HK : Hid ((q : Int) - 1 = (k : Int)) := Lib.hid (by omega)
                have c1' : (q : Int) < 4294967296 := by omega
                have d3 : decide (ss < mm) = true := decide_eq_true (by omega)
                have d4 : ss < mm := by omega
                obtain ⟨z, hz⟩ : ∃ z, r + a = z := ⟨_, rfl⟩
                have hzi : (r : Int) + (a : Int) = (z : Int) := by omega
                have HI2 : Hid (k * a + z = R1) := Lib.hid (by have := HI.out; rw [hkq, Nat.add_mul] at this; omega)
                have hzb : z < 8589934592 := by omega
                clear hz
                have hTk : T2 ≤ k := by omega
                have hk3 : k ≤ 4294967296 := by omega
                have hkk : k < q := by omega
                clear hkq
                by_cases c2 : 4294967296 ≤ z
                · have c2' : (4294967296 : Int) ≤ (z : Int) := by omega

                  have hend : k = T2 := by
                    have h1 := div_break HY.out (rfl : R1 * 4294967296 + u0 = R1 * 4294967296 + u0) HI2.out c2 (by omega) (by omega)
                    have h2 : k ≤ T2 := HTle2.out k h1
                    omega
                  clear HI HI2 hT hr hq c1 hgt hTq c3 hmm hs1 hss
                  subst hend
                  have hk := HK.out
                  go_wp2
                  go_ret2
                  exact ⟨⟨_, by rw [← HZ.out]; go_num⟩, rfl⟩
                · have c2' : (z : Int) < 4294967296 := by omega
                  have hz9 : z < 4294967296 := by omega
                  have HZ9 := Lib.hid hz9
                  have HK3 := Lib.hid (And.intro hTk (And.intro hk3 hkk))
                  have d6 : decide ((4294967296 : Int) ≤ (z : Int)) = false := decide_eq_false (by omega)
                  have hk := HK.out
                  have hq1 : (1 : Int) ≤ (q : Int) := by omega
                  clear c2 hz9 hk3 hzb hTk hkk c1 d2 hT hr hq HI hgt hTq c3 hmm hs1 hss
                  go_wp2
                  obtain ⟨hTk, hk3, hkk⟩ := HK3.out
                  have hz9 := HZ9.out
                  go_round
                  case rel => exact ⟨k, z, rfl, rfl, HI2, by omega, by omega, by omega⟩
                  case measure => simp [intOf]; omega
              · have hle := div_le HY.out (rfl : R1 * 4294967296 + u0 = R1 * 4294967296 + u0) HI.out (Nat.le_of_not_lt c3)
                have c1' : (q : Int) < 4294967296 := by omega
                have d3 : decide (ss < mm) = false := decide_eq_false (by omega)
                have d4 : ¬ ss < mm := by omega
                have hend : q = T2 := by have h2 : q ≤ T2 := HTle2.out q hle; omega
                clear HI hT hr hq c1 hle c3 d2 hmm hs1 hss
                subst hend
                go_wp2
                go_ret2
                exact ⟨⟨_, by rw [← HZ.out]; go_num⟩, rfl⟩
        · have c2' : (z : Int) < 4294967296 := by omega
          have hz9 : z < 4294967296 := by omega
          have HZ9 := Lib.hid hz9
          have HK3 := Lib.hid (And.intro hTk (And.intro hk3 hkk))
          have d6 : decide ((4294967296 : Int) ≤ (z : Int)) = false := decide_eq_false (by omega)
          have hk := HK.out
          have hq1 : (1 : Int) ≤ (q : Int) := by omega
          clear c2 hz9 hk3 hzb hTk hkk c1 d2 hT hr hq HI hgt hTq c3 hmm hs1 hss
          go_wp2
          obtain ⟨hTk, hk3, hkk⟩ := HK3.out
          have hz9 := HZ9.out
          go_round
          case rel => exact ⟨k, z, rfl, rfl, HI2, by omega, by omega, by omega⟩
          case measure => simp [intOf]; omega
      · have hle := div_le HY.out (rfl : hi * 4294967296 + u1 = hi * 4294967296 + u1) HI.out (Nat.le_of_not_lt c3)
        have c1' : (q : Int) < 4294967296 := by omega
        have d3 : decide (ss < mm) = false := decide_eq_false (by omega)
        have d4 : ¬ ss < mm := by omega
        have hend : q = T1 := by have h2 : q ≤ T1 := HTle1.out q hle; omega
        clear HI hT hr hq c1 hle c3 d2 hmm hs1 hss
        subst hend
        obtain ⟨em1, em2, em3, em4, eq2, er2, p2, p3⟩ := HB.out
        go_wp2
        go_loop [16, 18] (fun v16 v18 => ∃ q r : Nat, v18 = .int .u64 q ∧ v16 = .int .u64 r ∧ Hid (q * a + r = R1) ∧ T2 ≤ q ∧ r < 4294967296 ∧ q ≤ 4294967297) (fun _ v18 => (intOf v18).toNat)
        case atStart => exact ⟨q2, r2, rfl, rfl, HQ2.out, by omega, by omega, by omega⟩
        case round =>
          obtain ⟨q, r, rfl, rfl, HI, hT, hr, hq⟩ := hrel
          clear em1 em2 em3 em4 eq2 er2 p2 p3 HQ2 hr2 hq2
          by_cases c1 : 4294967296 ≤ q
          · obtain ⟨k, hkq⟩ : ∃ k, q = k + 1 := ⟨q - 1, by omega⟩
            have HK : Hid ((q : Int) - 1 = (k : Int)) := Lib.hid (by omega)
            have hk2 : (4294967296 : Int) ≤ (q : Int) := by omega
            have d1 : decide ((4294967296 : Int) ≤ (q : Int)) = true := decide_eq_true hk2
            have d2 : decide (4294967296 ≤ q) = true := decide_eq_true c1
            obtain ⟨z, hz⟩ : ∃ z, r + a = z := ⟨_, rfl⟩
            have hzi : (r : Int) + (a : Int) = (z : Int) := by omega
            have HI2 : Hid (k * a + z = R1) := Lib.hid (by have := HI.out; rw [hkq, Nat.add_mul] at this; omega)
            have hzb : z < 8589934592 := by omega
            clear hz
            have hTk : T2 ≤ k := by omega
            have hk3 : k ≤ 4294967296 := by omega
            have hkk : k < q := by omega
            clear hkq
            by_cases c2 : 4294967296 ≤ z
            · have c2' : (4294967296 : Int) ≤ (z : Int) := by omega

              have hend : k = T2 := by
                have h1 := div_break HY.out (rfl : R1 * 4294967296 + u0 = R1 * 4294967296 + u0) HI2.out c2 (by omega) (by omega)
                have h2 : k ≤ T2 := HTle2.out k h1
                omega
              clear HI HI2 hT hr hq c1
              subst hend
              have hk := HK.out
              go_wp2
              go_ret2
              exact ⟨⟨_, by rw [← HZ.out]; go_num⟩, rfl⟩
            · have c2' : (z : Int) < 4294967296 := by omega
              have hz9 : z < 4294967296 := by omega
              have HZ9 := Lib.hid hz9
              have HK3 := Lib.hid (And.intro hTk (And.intro hk3 hkk))
              have d6 : decide ((4294967296 : Int) ≤ (z : Int)) = false := decide_eq_false (by omega)
              have hqi : (q : Int) ≤ 4294967297 := by omega
              have hk := HK.out
              clear c2 hz9 hk3 hzb hTk hkk c1 d2 hT hr hq HI
              go_wp2
              obtain ⟨hTk, hk3, hkk⟩ := HK3.out
              have hz9 := HZ9.out
              go_round
              case rel => exact ⟨k, z, rfl, rfl, HI2, by omega, by omega, by omega⟩
              case measure => simp [intOf]; omega
          · have d1 : decide ((4294967296 : Int) ≤ (q : Int)) = false := decide_eq_false (by omega)
            have d2 : decide (4294967296 ≤ q) = false := decide_eq_false c1
            have b0 : (0 : Int) ≤ (q : Int) * (b : Int) := Int.mul_nonneg (by omega) (by omega)
            have b1 : (q : Int) * (b : Int) ≤ 18446744065119617025 := by
              have := prod_le (show q < 4294967296 by omega) hb
              have := Int.ofNat_le.2 this
              simpa using this
            obtain ⟨mm, hmm⟩ : ∃ m, q * b = m := ⟨_, rfl⟩
            obtain ⟨s1, hs1⟩ : ∃ m, 4294967296 * r = m := ⟨_, rfl⟩
            obtain ⟨ss, hss⟩ : ∃ m, s1 + u0 = m := ⟨_, rfl⟩
            have hmi : (q : Int) * (b : Int) = (mm : Int) := by rw [← hmm]; simp
            have hsi : 4294967296 * (r : Int) = (s1 : Int) := by omega
            have hti : (s1 : Int) + (u0 : Int) = (ss : Int) := by omega
            have hri : (r : Int) < 4294967296 := by omega
            have hs2 : s1 ≤ 18446744069414584320 := by omega
            by_cases c3 : 4294967296 * r + u0 < q * b
            · have hgt := div_gt HY.out (rfl : R1 * 4294967296 + u0 = R1 * 4294967296 + u0) HI.out c3
              have hTq : T2 < q := HTlt2.out q hgt
              obtain ⟨k, hkq⟩ : ∃ k, q = k + 1 := ⟨q - 1, by omega⟩
              have HK : Hid ((q : Int) - 1 = (k : Int)) := Lib.hid (by omega)
              have c1' : (q : Int) < 4294967296 := by omega
              have d3 : decide (ss < mm) = true := decide_eq_true (by omega)
              have d4 : ss < mm := by omega
              obtain ⟨z, hz⟩ : ∃ z, r + a = z := ⟨_, rfl⟩
              have hzi : (r : Int) + (a : Int) = (z : Int) := by omega
              have HI2 : Hid (k * a + z = R1) := Lib.hid (by have := HI.out; rw [hkq, Nat.add_mul] at this; omega)
              have hzb : z < 8589934592 := by omega
              clear hz
              have hTk : T2 ≤ k := by omega
              have hk3 : k ≤ 4294967296 := by omega
              have hkk : k < q := by omega
              clear hkq
              by_cases c2 : 4294967296 ≤ z
              · have c2' : (4294967296 : Int) ≤ (z : Int) := by omega

                have hend : k = T2 := by
                  have h1 := div_break HY.out (rfl : R1 * 4294967296 + u0 = R1 * 4294967296 + u0) HI2.out c2 (by omega) (by omega)
                  have h2 : k ≤ T2 := HTle2.out k h1
                  omega
                clear HI HI2 hT hr hq c1 hgt hTq c3 hmm hs1 hss
                subst hend
                have hk := HK.out
                go_wp2
                go_ret2
                exact ⟨⟨_, by rw [← HZ.out]; go_num⟩, rfl⟩
              · have c2' : (z : Int) < 4294967296 := by omega
                have hz9 : z < 4294967296 := by omega
                have HZ9 := Lib.hid hz9
                have HK3 := Lib.hid (And.intro hTk (And.intro hk3 hkk))
                have d6 : decide ((4294967296 : Int) ≤ (z : Int)) = false := decide_eq_false (by omega)
                have hk := HK.out
                have hq1 : (1 : Int) ≤ (q : Int) := by omega
                clear c2 hz9 hk3 hzb hTk hkk c1 d2 hT hr hq HI hgt hTq c3 hmm hs1 hss
                go_wp2
                obtain ⟨hTk, hk3, hkk⟩ := HK3.out
                have hz9 := HZ9.out
                go_round
                case rel => exact ⟨k, z, rfl, rfl, HI2, by omega, by omega, by omega⟩
                case measure => simp [intOf]; omega
            · have hle := div_le HY.out (rfl : R1 * 4294967296 + u0 = R1 * 4294967296 + u0) HI.out (Nat.le_of_not_lt c3)
              have c1' : (q : Int) < 4294967296 := by omega
              have d3 : decide (ss < mm) = false := decide_eq_false (by omega)
              have d4 : ¬ ss < mm := by omega
              have hend : q = T2 := by have h2 : q ≤ T2 := HTle2.out q hle; omega
              clear HI hT hr hq c1 hle c3 d2 hmm hs1 hss
              subst hend
              go_wp2
              go_ret2
              exact ⟨⟨_, by rw [← HZ.out]; go_num⟩, rfl⟩

end Go.Proofs.YtcmfgabhgodlaaaGreatDoor

/- The contracts of Div64, where the divisor has its highest bit, and of guess. -/
namespace Go.Proofs.YtcmfgabhgodlaaaGreatDoor
open Go Go.RowKit Go.Shelf
set_option linter.unusedSimpArgs false
set_option linter.unusedVariables false

theorem tle_of {N y k : Nat} (hy : 0 < y) (h : k * y ≤ N) : k ≤ N / y := (Nat.le_div_iff_mul_le hy).2 h
theorem tlt_of {N y k : Nat} (hy : 0 < y) (h : N < k * y) : N / y < k := (Nat.div_lt_iff_lt_mul hy).2 h
theorem q_bound {h a b y : Nat} (ha : 2147483648 ≤ a) (hb : b < 4294967296) (hy : y = a * 4294967296 + b) (hh : h < y) : h / a ≤ 4294967297 := by
  have h1 : h / a < 4294967298 := by
    rw [Nat.div_lt_iff_lt_mul (by omega)]
    omega
  omega
theorem letters_eq (h u1 u0 P R K L : Nat) (hL : L = K * K) (h1 : h * K + u1 = P + R) : h * L + (u1 * K + u0) = (R * K + u0) + P * K := by
  have h2 : (h * K + u1) * K = (P + R) * K := by rw [h1]
  rw [Nat.add_mul, Nat.add_mul, Nat.mul_assoc] at h2
  rw [hL]
  generalize h * (K * K) = a at *
  generalize u1 * K = b at *
  generalize P * K = c at *
  generalize R * K = d at *
  omega
theorem div_parts {hi lo y u0 u1 R1 : Nat} (hy : 0 < y) (hl : lo = u1 * 4294967296 + u0) (hR : R1 = (hi * 4294967296 + u1) % y) :
    (hi * 4294967296 + u1) / y * 4294967296 + (R1 * 4294967296 + u0) / y = (hi * 18446744073709551616 + lo) / y := by
  have h1 : hi * 4294967296 + u1 = y * ((hi * 4294967296 + u1) / y) + R1 := by rw [hR]; exact (Nat.div_add_mod _ _).symm
  obtain ⟨T, hT⟩ : ∃ T, (hi * 4294967296 + u1) / y = T := ⟨_, rfl⟩
  rw [hT] at h1 ⊢
  clear hT hR
  have h2 : hi * 18446744073709551616 + lo = (R1 * 4294967296 + u0) + y * (T * 4294967296) := by
    rw [hl, ← Nat.mul_assoc y]
    exact letters_eq hi u1 u0 (y * T) R1 4294967296 18446744073709551616 rfl h1
  rw [h2, Nat.add_mul_div_left _ _ hy, Nat.add_comm]
theorem int_prod (q a h r : Nat) (hq : q * a + r = h) : (h : Int) - (q : Int) * (a : Int) = (r : Int) ∧ (0 : Int) ≤ (q : Int) * (a : Int) ∧ (q : Int) * (a : Int) ≤ (h : Int) := by
  have e : ((q * a : Nat) : Int) = (q : Int) * (a : Int) := by simp
  rw [← e]
  omega
theorem wrap_sub {N P R m1 u1 : Nat} (hm : ∃ h, m1 = h * 4294967296 % 18446744073709551616 ∧ N = h * 4294967296 + u1) (hN : N = P + R) (hR : R < 18446744073709551616) (hu : u1 < 4294967296) :
    IntKind.u64.wrap ((((m1 + u1) % 18446744073709551616 : Nat) : Int) - ((P % 18446744073709551616 : Nat) : Int)) = (R : Int) := by
  obtain ⟨h, rfl, rfl⟩ := hm
  rw [IntKind.wrap_u64]
  omega

set_option maxRecDepth 100000 in
set_option maxHeartbeats 1000000 in
theorem div64_x (hi lo y : Nat) (hy : 9223372036854775808 ≤ y) (hy2 : y < 18446744073709551616) (hh : hi < y) (hl : lo < 18446744073709551616) (w : World) :
    Calls Tryz.prog 119 #[.int .u64 hi, .int .u64 lo, .int .u64 y] w fun ee w' => (∃ r : Int, ee = .returned (.tuple #[.int .u64 (((hi * 18446744073709551616 + lo) / y : Nat) : Int), .int .u64 r])) ∧ Below w.heap.size w w' := by
  by_cases h0 : 1 ≤ hi
  · have hyp : 0 < y := by omega
    obtain ⟨a, b, hya, hyb, hab, ha, ha2, hb⟩ : ∃ a b, y / 4294967296 = a ∧ y % 4294967296 = b ∧ y = a * 4294967296 + b ∧ 2147483648 ≤ a ∧ a < 4294967296 ∧ b < 4294967296 := ⟨_, _, rfl, rfl, by omega, by omega, by omega, by omega⟩
    obtain ⟨u1, u0, hl1, hl0, hlb, hu1, hu0⟩ : ∃ u1 u0, lo / 4294967296 = u1 ∧ lo % 4294967296 = u0 ∧ lo = u1 * 4294967296 + u0 ∧ u1 < 4294967296 ∧ u0 < 4294967296 := ⟨_, _, rfl, rfl, by omega, by omega, by omega⟩
    obtain ⟨N, hN⟩ : ∃ N, hi * 4294967296 + u1 = N := ⟨_, rfl⟩
    obtain ⟨T1, hT1⟩ : ∃ T, N / y = T := ⟨_, rfl⟩
    obtain ⟨R1, hR1⟩ : ∃ R, N % y = R := ⟨_, rfl⟩
    have hNd : N = T1 * y + R1 := by rw [← hT1, ← hR1]; exact (Nat.div_add_mod' _ _).symm
    have hRy : R1 < y := hR1 ▸ Nat.mod_lt _ hyp
    have hT1b : T1 < 4294967296 := by rw [← hT1, Nat.div_lt_iff_lt_mul hyp]; omega
    obtain ⟨M, hM⟩ : ∃ M, R1 * 4294967296 + u0 = M := ⟨_, rfl⟩
    obtain ⟨T2, hT2⟩ : ∃ T, M / y = T := ⟨_, rfl⟩
    have hT2b : T2 < 4294967296 := by rw [← hT2, Nat.div_lt_iff_lt_mul hyp]; omega
    obtain ⟨q0, hq0⟩ : ∃ q, hi / a = q := ⟨_, rfl⟩
    obtain ⟨r0, hr0⟩ : ∃ q, hi % a = q := ⟨_, rfl⟩
    obtain ⟨q2, hq2⟩ : ∃ q, R1 / a = q := ⟨_, rfl⟩
    obtain ⟨r2, hr2⟩ : ∃ q, R1 % a = q := ⟨_, rfl⟩
    have e1 : q0 * a + r0 = hi := by rw [← hq0, ← hr0]; exact Nat.div_add_mod' _ _
    have e2 : q2 * a + r2 = R1 := by rw [← hq2, ← hr2]; exact Nat.div_add_mod' _ _
    have b0 : r0 < 4294967296 := by have : r0 < a := hr0 ▸ Nat.mod_lt _ (by omega); omega
    have b2 : r2 < 4294967296 := by have : r2 < a := hr2 ▸ Nat.mod_lt _ (by omega); omega
    obtain ⟨i1, i2, i3⟩ := int_prod _ _ _ _ e1
    obtain ⟨i4, i5, i6⟩ := int_prod _ _ _ _ e2
    have hbo : q0 ≤ 4294967297 := hq0 ▸ q_bound ha hb hab hh
    have hbo2 : q2 ≤ 4294967297 := hq2 ▸ q_bound ha hb hab hRy
    have hst : T1 ≤ q0 := hT1 ▸ hq0 ▸ div_start hab (by omega) hu1 hN.symm
    have hst2 : T2 ≤ q2 := hT2 ▸ hq2 ▸ div_start hab (by omega) hu0 hM.symm
    have hz : T1 * 4294967296 + T2 = (hi * 18446744073709551616 + lo) / y := by rw [← hT1, ← hT2, ← hM, ← hN]; exact div_parts hyp hlb (by rw [hN]; exact hR1.symm)
    have d1 : (hi : Int) / (a : Int) = (q0 : Int) := by rw [← hq0]; simp
    have d2 : (R1 : Int) / (a : Int) = (q2 : Int) := by rw [← hq2]; simp
    obtain ⟨P, hP⟩ : ∃ P, T1 * y = P := ⟨_, rfl⟩
    have hPi : (T1 : Int) * (y : Int) = (P : Int) := by rw [← hP]; simp
    have hk1 : ∀ k, k * y ≤ hi * 4294967296 + u1 → k ≤ T1 := fun k h => hT1 ▸ tle_of hyp (hN ▸ h)
    have hk2 : ∀ k, hi * 4294967296 + u1 < k * y → T1 < k := fun k h => hT1 ▸ tlt_of hyp (hN ▸ h)
    have hk3 : ∀ k, k * y ≤ R1 * 4294967296 + u0 → k ≤ T2 := fun k h => hT2 ▸ tle_of hyp (hM ▸ h)
    have hk4 : ∀ k, R1 * 4294967296 + u0 < k * y → T2 < k := fun k h => hT2 ▸ tlt_of hyp (hM ▸ h)
    have my := maskN y hy2
    have ml := maskN lo hl
    rw [hyb] at my
    rw [hl0] at ml
    have oz := or_zero64 hi (by omega) ((lo : Int) / 18446744073709551616) (by omega)
    have ey : (y : Int) / 4294967296 = (a : Int) := by rw [← hya]; simp
    have el : (lo : Int) / 4294967296 = (u1 : Int) := by rw [← hl1]; simp
    rw [hP] at hNd
    have w1 : IntKind.u64.wrap ((hi : Int) * 4294967296) = ((hi * 4294967296 % 18446744073709551616 : Nat) : Int) := by rw [IntKind.wrap_u64]; omega
    have w2 : IntKind.u64.wrap (((hi * 4294967296 % 18446744073709551616 : Nat) : Int) + (u1 : Int)) = (((hi * 4294967296 % 18446744073709551616 + u1) % 18446744073709551616 : Nat) : Int) := by rw [IntKind.wrap_u64]; omega
    have w3 : IntKind.u64.wrap ((T1 : Int) * (y : Int)) = ((P % 18446744073709551616 : Nat) : Int) := by rw [IntKind.wrap_u64, hPi]; omega
    have w4 := wrap_sub (N := N) (P := P) (R := R1) (m1 := hi * 4294967296 % 18446744073709551616) (u1 := u1) ⟨hi, rfl, hN.symm⟩ hNd (by omega) hu1
    clear hT1 hR1 hT2 hq0 hr0 hq2 hr2 hya hyb hl1 hl0 hNd hP hPi hN hM
    refine Calls.mono ?_ (fun e w' (h : (∃ r : Int, _) ∧ w = w') => ⟨h.1, h.2 ▸ Below.refl _ _⟩)
    exact div64_big hi lo y a b u0 u1 q0 r0 T1 _ _ _ R1 q2 r2 T2 _ hy hy2 hh hl h0 ha ha2 hb hu0 hu1 (Lib.hid hab) ey my oz el ml d1 i1 i2 i3 (Lib.hid e1) b0 hbo hst hT1b (Lib.hid hk1) (Lib.hid hk2) (Lib.hid ⟨w1, w2, w3, w4, d2, i4, i5, i6⟩) (by omega) (Lib.hid e2) b2 hbo2 hst2 hT2b (Lib.hid hk3) (Lib.hid hk4) (Lib.hid hz) w
  · have hz : hi = 0 := by omega
    have z1 : ((y : Int) == 0) = false := by rw [beq_eq_false_iff_ne]; omega
    have z2 : ((hi : Int) == 0) = true := by rw [beq_iff_eq]; omega
    have d0 : decide (y ≤ hi) = false := decide_eq_false (by omega)
    have e0 : (hi * 18446744073709551616 + lo) / y = lo / y := by rw [hz, Nat.zero_mul, Nat.zero_add]
    rw [e0]
    obtain ⟨q, hq⟩ : ∃ q, lo / y = q := ⟨_, rfl⟩
    obtain ⟨r, hr⟩ : ∃ q, lo % y = q := ⟨_, rfl⟩
    have z3 : (lo : Int) / (y : Int) = (q : Int) := by rw [← hq]; simp
    have z4 : (lo : Int) % (y : Int) = (r : Int) := by rw [← hr]; simp
    have hql : (q : Int) ≤ 18446744073709551615 := by have := Nat.div_le_self lo y; omega
    have hrl : (r : Int) ≤ 18446744073709551615 := by have := Nat.mod_le lo y; omega
    have hy1 : (1 : Int) ≤ (y : Int) := by omega
    have hlo0 : (0 : Int) ≤ (lo : Int) := by omega
    rw [hq]
    clear hq hr e0 hz hy hy2 h0 hh
    go_enter Tryz.func119, Tryz.ntmps119
    go_wp2_with fail
    go_quiet (fail)
    go_wp2
    go_ret2
    exact ⟨⟨_, rfl⟩, below_drewN (Below.refl _ _) _⟩

theorem guess_x (h l y : Nat) (hy : 9223372036854775808 ≤ y) (hy2 : y < 18446744073709551616) (hh : h < 18446744073709551616) (hl : l < 18446744073709551616) (w : World) :
    Calls Tryz.prog 116 #[.int .u64 h, .int .u64 l, .int .u64 y] w fun ee w' => ee = .returned (.int .u64 (gq h l y)) ∧ Below w.heap.size w w' := by
  unfold gq
  by_cases hc : y ≤ h
  · rw [if_pos hc]
    go_enter Tryz.func116, Tryz.ntmps116
    go_wp2
    go_ret
    exact ⟨rfl, Below.refl _ _⟩
  · rw [if_neg hc]
    obtain ⟨z, hz⟩ : ∃ z, (h * 18446744073709551616 + l) / y = z := ⟨_, rfl⟩
    have hd := fun w => div64_x h l y hy hy2 (by omega) hl w
    rw [hz] at hd ⊢
    clear hz
    go_enter Tryz.func116, Tryz.ntmps116
    go_wp2_with (go_at_call 119; refine (hd _).mono ?_; rintro e w' ⟨⟨r, rfl⟩, hB⟩)
    go_ret
    exact ⟨rfl, hB⟩

end Go.Proofs.YtcmfgabhgodlaaaGreatDoor

/- What takeAway of package quot comes to, place by place. -/
namespace Go.Proofs.YtcmfgabhgodlaaaGreatDoor
open Go Go.RowKit
set_option linter.unusedSimpArgs false
set_option linter.unusedVariables false

/-- A block of words. -/
def ub (l : List Nat) : Obj := .cells ⟨l.map u⟩ 111 (0, 0)
/-- The two blocks of words that a division has. -/
def HD (x v : List Nat) : Hp := [(1006, ub v), (1005, ub x)]
def HE (x v : List Nat) : Hp := [(1005, ub x), (1006, ub v)]
/-- A row of words of them. -/
def slU (i n : Nat) : Value := .slice (some ⟨1005, i, none⟩) (n + 1) (5 - i)
def slV (n : Nat) : Value := .slice (some ⟨1006, 0, none⟩) n 5

theorem ta_10 (w0 w1 w2 w3 w4 v0 v1 v2 v3 v4 q h0 l0 : Nat) : runB Tryz.prog 117 #[slU 0 1, slV 1, u q] (HD [w0, w1, w2, w3, w4] [v0, v1, v2, v3, v4]) [n, n, n, n, f] [(105, rt (tp [u h0, u l0]))] [] =
    some (rt (bb (Int.ofNat (tkB [(w0, h0, l0)] w1) != 0)), HE ([] ++ tkW [(w0, h0, l0)] w1 ++ [w2, w3, w4]) [v0, v1, v2, v3, v4], [PureX Tryz.prog 105 #[u v0, u q] (rt (tp [u h0, u l0])), decide (1 < taO [(w0, h0, l0)] 0 0) = false]) := by kernel_rfl
theorem ta_11 (w0 w1 w2 w3 w4 v0 v1 v2 v3 v4 q h0 l0 : Nat) : runB Tryz.prog 117 #[slU 1 1, slV 1, u q] (HD [w0, w1, w2, w3, w4] [v0, v1, v2, v3, v4]) [n, n, n, n, f] [(105, rt (tp [u h0, u l0]))] [] =
    some (rt (bb (Int.ofNat (tkB [(w1, h0, l0)] w2) != 0)), HE ([w0] ++ tkW [(w1, h0, l0)] w2 ++ [w3, w4]) [v0, v1, v2, v3, v4], [PureX Tryz.prog 105 #[u v0, u q] (rt (tp [u h0, u l0])), decide (1 < taO [(w1, h0, l0)] 0 0) = false]) := by kernel_rfl
theorem ta_12 (w0 w1 w2 w3 w4 v0 v1 v2 v3 v4 q h0 l0 : Nat) : runB Tryz.prog 117 #[slU 2 1, slV 1, u q] (HD [w0, w1, w2, w3, w4] [v0, v1, v2, v3, v4]) [n, n, n, n, f] [(105, rt (tp [u h0, u l0]))] [] =
    some (rt (bb (Int.ofNat (tkB [(w2, h0, l0)] w3) != 0)), HE ([w0, w1] ++ tkW [(w2, h0, l0)] w3 ++ [w4]) [v0, v1, v2, v3, v4], [PureX Tryz.prog 105 #[u v0, u q] (rt (tp [u h0, u l0])), decide (1 < taO [(w2, h0, l0)] 0 0) = false]) := by kernel_rfl
theorem ta_13 (w0 w1 w2 w3 w4 v0 v1 v2 v3 v4 q h0 l0 : Nat) : runB Tryz.prog 117 #[slU 3 1, slV 1, u q] (HD [w0, w1, w2, w3, w4] [v0, v1, v2, v3, v4]) [n, n, n, n, f] [(105, rt (tp [u h0, u l0]))] [] =
    some (rt (bb (Int.ofNat (tkB [(w3, h0, l0)] w4) != 0)), HE ([w0, w1, w2] ++ tkW [(w3, h0, l0)] w4 ++ []) [v0, v1, v2, v3, v4], [PureX Tryz.prog 105 #[u v0, u q] (rt (tp [u h0, u l0])), decide (1 < taO [(w3, h0, l0)] 0 0) = false]) := by kernel_rfl
theorem ta_20 (w0 w1 w2 w3 w4 v0 v1 v2 v3 v4 q h0 h1 l0 l1 : Nat) : runB Tryz.prog 117 #[slU 0 2, slV 2, u q] (HD [w0, w1, w2, w3, w4] [v0, v1, v2, v3, v4]) [n, n, n, n, n, f, n, f] [(105, rt (tp [u h0, u l0])), (105, rt (tp [u h1, u l1]))] [] =
    some (rt (bb (Int.ofNat (tkB [(w0, h0, l0), (w1, h1, l1)] w2) != 0)), HE ([] ++ tkW [(w0, h0, l0), (w1, h1, l1)] w2 ++ [w3, w4]) [v0, v1, v2, v3, v4], [PureX Tryz.prog 105 #[u v0, u q] (rt (tp [u h0, u l0])), PureX Tryz.prog 105 #[u v1, u q] (rt (tp [u h1, u l1])), decide (1 < taO [(w0, h0, l0)] 0 0) = false, decide (1 < taO [(w0, h0, l0), (w1, h1, l1)] 0 0) = false]) := by kernel_rfl
theorem ta_21 (w0 w1 w2 w3 w4 v0 v1 v2 v3 v4 q h0 h1 l0 l1 : Nat) : runB Tryz.prog 117 #[slU 1 2, slV 2, u q] (HD [w0, w1, w2, w3, w4] [v0, v1, v2, v3, v4]) [n, n, n, n, n, f, n, f] [(105, rt (tp [u h0, u l0])), (105, rt (tp [u h1, u l1]))] [] =
    some (rt (bb (Int.ofNat (tkB [(w1, h0, l0), (w2, h1, l1)] w3) != 0)), HE ([w0] ++ tkW [(w1, h0, l0), (w2, h1, l1)] w3 ++ [w4]) [v0, v1, v2, v3, v4], [PureX Tryz.prog 105 #[u v0, u q] (rt (tp [u h0, u l0])), PureX Tryz.prog 105 #[u v1, u q] (rt (tp [u h1, u l1])), decide (1 < taO [(w1, h0, l0)] 0 0) = false, decide (1 < taO [(w1, h0, l0), (w2, h1, l1)] 0 0) = false]) := by kernel_rfl
theorem ta_22 (w0 w1 w2 w3 w4 v0 v1 v2 v3 v4 q h0 h1 l0 l1 : Nat) : runB Tryz.prog 117 #[slU 2 2, slV 2, u q] (HD [w0, w1, w2, w3, w4] [v0, v1, v2, v3, v4]) [n, n, n, n, n, f, n, f] [(105, rt (tp [u h0, u l0])), (105, rt (tp [u h1, u l1]))] [] =
    some (rt (bb (Int.ofNat (tkB [(w2, h0, l0), (w3, h1, l1)] w4) != 0)), HE ([w0, w1] ++ tkW [(w2, h0, l0), (w3, h1, l1)] w4 ++ []) [v0, v1, v2, v3, v4], [PureX Tryz.prog 105 #[u v0, u q] (rt (tp [u h0, u l0])), PureX Tryz.prog 105 #[u v1, u q] (rt (tp [u h1, u l1])), decide (1 < taO [(w2, h0, l0)] 0 0) = false, decide (1 < taO [(w2, h0, l0), (w3, h1, l1)] 0 0) = false]) := by kernel_rfl
theorem ta_30 (w0 w1 w2 w3 w4 v0 v1 v2 v3 v4 q h0 h1 h2 l0 l1 l2 : Nat) : runB Tryz.prog 117 #[slU 0 3, slV 3, u q] (HD [w0, w1, w2, w3, w4] [v0, v1, v2, v3, v4]) [n, n, n, n, n, f, n, n, f, n, f] [(105, rt (tp [u h0, u l0])), (105, rt (tp [u h1, u l1])), (105, rt (tp [u h2, u l2]))] [] =
    some (rt (bb (Int.ofNat (tkB [(w0, h0, l0), (w1, h1, l1), (w2, h2, l2)] w3) != 0)), HE ([] ++ tkW [(w0, h0, l0), (w1, h1, l1), (w2, h2, l2)] w3 ++ [w4]) [v0, v1, v2, v3, v4], [PureX Tryz.prog 105 #[u v0, u q] (rt (tp [u h0, u l0])), PureX Tryz.prog 105 #[u v1, u q] (rt (tp [u h1, u l1])), decide (1 < taO [(w0, h0, l0)] 0 0) = false, PureX Tryz.prog 105 #[u v2, u q] (rt (tp [u h2, u l2])), decide (1 < taO [(w0, h0, l0), (w1, h1, l1)] 0 0) = false, decide (1 < taO [(w0, h0, l0), (w1, h1, l1), (w2, h2, l2)] 0 0) = false]) := by kernel_rfl
theorem ta_31 (w0 w1 w2 w3 w4 v0 v1 v2 v3 v4 q h0 h1 h2 l0 l1 l2 : Nat) : runB Tryz.prog 117 #[slU 1 3, slV 3, u q] (HD [w0, w1, w2, w3, w4] [v0, v1, v2, v3, v4]) [n, n, n, n, n, f, n, n, f, n, f] [(105, rt (tp [u h0, u l0])), (105, rt (tp [u h1, u l1])), (105, rt (tp [u h2, u l2]))] [] =
    some (rt (bb (Int.ofNat (tkB [(w1, h0, l0), (w2, h1, l1), (w3, h2, l2)] w4) != 0)), HE ([w0] ++ tkW [(w1, h0, l0), (w2, h1, l1), (w3, h2, l2)] w4 ++ []) [v0, v1, v2, v3, v4], [PureX Tryz.prog 105 #[u v0, u q] (rt (tp [u h0, u l0])), PureX Tryz.prog 105 #[u v1, u q] (rt (tp [u h1, u l1])), decide (1 < taO [(w1, h0, l0)] 0 0) = false, PureX Tryz.prog 105 #[u v2, u q] (rt (tp [u h2, u l2])), decide (1 < taO [(w1, h0, l0), (w2, h1, l1)] 0 0) = false, decide (1 < taO [(w1, h0, l0), (w2, h1, l1), (w3, h2, l2)] 0 0) = false]) := by kernel_rfl
theorem ta_40 (w0 w1 w2 w3 w4 v0 v1 v2 v3 v4 q h0 h1 h2 h3 l0 l1 l2 l3 : Nat) : runB Tryz.prog 117 #[slU 0 4, slV 4, u q] (HD [w0, w1, w2, w3, w4] [v0, v1, v2, v3, v4]) [n, n, n, n, n, f, n, n, f, n, n, f, n, f] [(105, rt (tp [u h0, u l0])), (105, rt (tp [u h1, u l1])), (105, rt (tp [u h2, u l2])), (105, rt (tp [u h3, u l3]))] [] =
    some (rt (bb (Int.ofNat (tkB [(w0, h0, l0), (w1, h1, l1), (w2, h2, l2), (w3, h3, l3)] w4) != 0)), HE ([] ++ tkW [(w0, h0, l0), (w1, h1, l1), (w2, h2, l2), (w3, h3, l3)] w4 ++ []) [v0, v1, v2, v3, v4], [PureX Tryz.prog 105 #[u v0, u q] (rt (tp [u h0, u l0])), PureX Tryz.prog 105 #[u v1, u q] (rt (tp [u h1, u l1])), decide (1 < taO [(w0, h0, l0)] 0 0) = false, PureX Tryz.prog 105 #[u v2, u q] (rt (tp [u h2, u l2])), decide (1 < taO [(w0, h0, l0), (w1, h1, l1)] 0 0) = false, PureX Tryz.prog 105 #[u v3, u q] (rt (tp [u h3, u l3])), decide (1 < taO [(w0, h0, l0), (w1, h1, l1), (w2, h2, l2)] 0 0) = false, decide (1 < taO [(w0, h0, l0), (w1, h1, l1), (w2, h2, l2), (w3, h3, l3)] 0 0) = false]) := by kernel_rfl

end Go.Proofs.YtcmfgabhgodlaaaGreatDoor

/- What putBack of package quot comes to, place by place. -/
namespace Go.Proofs.YtcmfgabhgodlaaaGreatDoor
open Go Go.RowKit
set_option linter.unusedSimpArgs false
set_option linter.unusedVariables false

/-- The carry behind some words. -/
def pbO : List Nat → List Nat → Nat → Nat
  | w :: r, v :: vs, c => pbO r vs ((w + v + c) / 18446744073709551616)
  | _, _, c => c
theorem pb_10 (w0 w1 w2 w3 w4 v0 v1 v2 v3 v4 : Nat) : runB Tryz.prog 118 #[slU 0 1, slV 1] (HD [w0, w1, w2, w3, w4] [v0, v1, v2, v3, v4]) [n, n, n, f] [] [] =
    some (rt (bb (Int.ofNat (pbC [w0, w1] [v0] 0) != 0)), HE ([] ++ pbW [w0, w1] [v0] 0 ++ [w2, w3, w4]) [v0, v1, v2, v3, v4], [decide (1 < pbO [w0] [v0] 0) = false]) := by kernel_rfl
theorem pb_11 (w0 w1 w2 w3 w4 v0 v1 v2 v3 v4 : Nat) : runB Tryz.prog 118 #[slU 1 1, slV 1] (HD [w0, w1, w2, w3, w4] [v0, v1, v2, v3, v4]) [n, n, n, f] [] [] =
    some (rt (bb (Int.ofNat (pbC [w1, w2] [v0] 0) != 0)), HE ([w0] ++ pbW [w1, w2] [v0] 0 ++ [w3, w4]) [v0, v1, v2, v3, v4], [decide (1 < pbO [w1] [v0] 0) = false]) := by kernel_rfl
theorem pb_12 (w0 w1 w2 w3 w4 v0 v1 v2 v3 v4 : Nat) : runB Tryz.prog 118 #[slU 2 1, slV 1] (HD [w0, w1, w2, w3, w4] [v0, v1, v2, v3, v4]) [n, n, n, f] [] [] =
    some (rt (bb (Int.ofNat (pbC [w2, w3] [v0] 0) != 0)), HE ([w0, w1] ++ pbW [w2, w3] [v0] 0 ++ [w4]) [v0, v1, v2, v3, v4], [decide (1 < pbO [w2] [v0] 0) = false]) := by kernel_rfl
theorem pb_13 (w0 w1 w2 w3 w4 v0 v1 v2 v3 v4 : Nat) : runB Tryz.prog 118 #[slU 3 1, slV 1] (HD [w0, w1, w2, w3, w4] [v0, v1, v2, v3, v4]) [n, n, n, f] [] [] =
    some (rt (bb (Int.ofNat (pbC [w3, w4] [v0] 0) != 0)), HE ([w0, w1, w2] ++ pbW [w3, w4] [v0] 0 ++ []) [v0, v1, v2, v3, v4], [decide (1 < pbO [w3] [v0] 0) = false]) := by kernel_rfl
theorem pb_20 (w0 w1 w2 w3 w4 v0 v1 v2 v3 v4 : Nat) : runB Tryz.prog 118 #[slU 0 2, slV 2] (HD [w0, w1, w2, w3, w4] [v0, v1, v2, v3, v4]) [n, n, n, f, n, f] [] [] =
    some (rt (bb (Int.ofNat (pbC [w0, w1, w2] [v0, v1] 0) != 0)), HE ([] ++ pbW [w0, w1, w2] [v0, v1] 0 ++ [w3, w4]) [v0, v1, v2, v3, v4], [decide (1 < pbO [w0] [v0] 0) = false, decide (1 < pbO [w0, w1] [v0, v1] 0) = false]) := by kernel_rfl
theorem pb_21 (w0 w1 w2 w3 w4 v0 v1 v2 v3 v4 : Nat) : runB Tryz.prog 118 #[slU 1 2, slV 2] (HD [w0, w1, w2, w3, w4] [v0, v1, v2, v3, v4]) [n, n, n, f, n, f] [] [] =
    some (rt (bb (Int.ofNat (pbC [w1, w2, w3] [v0, v1] 0) != 0)), HE ([w0] ++ pbW [w1, w2, w3] [v0, v1] 0 ++ [w4]) [v0, v1, v2, v3, v4], [decide (1 < pbO [w1] [v0] 0) = false, decide (1 < pbO [w1, w2] [v0, v1] 0) = false]) := by kernel_rfl
theorem pb_22 (w0 w1 w2 w3 w4 v0 v1 v2 v3 v4 : Nat) : runB Tryz.prog 118 #[slU 2 2, slV 2] (HD [w0, w1, w2, w3, w4] [v0, v1, v2, v3, v4]) [n, n, n, f, n, f] [] [] =
    some (rt (bb (Int.ofNat (pbC [w2, w3, w4] [v0, v1] 0) != 0)), HE ([w0, w1] ++ pbW [w2, w3, w4] [v0, v1] 0 ++ []) [v0, v1, v2, v3, v4], [decide (1 < pbO [w2] [v0] 0) = false, decide (1 < pbO [w2, w3] [v0, v1] 0) = false]) := by kernel_rfl
theorem pb_30 (w0 w1 w2 w3 w4 v0 v1 v2 v3 v4 : Nat) : runB Tryz.prog 118 #[slU 0 3, slV 3] (HD [w0, w1, w2, w3, w4] [v0, v1, v2, v3, v4]) [n, n, n, f, n, f, n, f] [] [] =
    some (rt (bb (Int.ofNat (pbC [w0, w1, w2, w3] [v0, v1, v2] 0) != 0)), HE ([] ++ pbW [w0, w1, w2, w3] [v0, v1, v2] 0 ++ [w4]) [v0, v1, v2, v3, v4], [decide (1 < pbO [w0] [v0] 0) = false, decide (1 < pbO [w0, w1] [v0, v1] 0) = false, decide (1 < pbO [w0, w1, w2] [v0, v1, v2] 0) = false]) := by kernel_rfl
theorem pb_31 (w0 w1 w2 w3 w4 v0 v1 v2 v3 v4 : Nat) : runB Tryz.prog 118 #[slU 1 3, slV 3] (HD [w0, w1, w2, w3, w4] [v0, v1, v2, v3, v4]) [n, n, n, f, n, f, n, f] [] [] =
    some (rt (bb (Int.ofNat (pbC [w1, w2, w3, w4] [v0, v1, v2] 0) != 0)), HE ([w0] ++ pbW [w1, w2, w3, w4] [v0, v1, v2] 0 ++ []) [v0, v1, v2, v3, v4], [decide (1 < pbO [w1] [v0] 0) = false, decide (1 < pbO [w1, w2] [v0, v1] 0) = false, decide (1 < pbO [w1, w2, w3] [v0, v1, v2] 0) = false]) := by kernel_rfl
theorem pb_40 (w0 w1 w2 w3 w4 v0 v1 v2 v3 v4 : Nat) : runB Tryz.prog 118 #[slU 0 4, slV 4] (HD [w0, w1, w2, w3, w4] [v0, v1, v2, v3, v4]) [n, n, n, f, n, f, n, f, n, f] [] [] =
    some (rt (bb (Int.ofNat (pbC [w0, w1, w2, w3, w4] [v0, v1, v2, v3] 0) != 0)), HE ([] ++ pbW [w0, w1, w2, w3, w4] [v0, v1, v2, v3] 0 ++ []) [v0, v1, v2, v3, v4], [decide (1 < pbO [w0] [v0] 0) = false, decide (1 < pbO [w0, w1] [v0, v1] 0) = false, decide (1 < pbO [w0, w1, w2] [v0, v1, v2] 0) = false, decide (1 < pbO [w0, w1, w2, w3] [v0, v1, v2, v3] 0) = false]) := by kernel_rfl

end Go.Proofs.YtcmfgabhgodlaaaGreatDoor
