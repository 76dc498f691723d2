/- Texts of the seat, joined. -/
import Derived.Test.YtcmfgabhgodlaaaGreatDoorZz32
import Derived.Test.YtcmfgabhgodlaaaGreatDoorZz14
/- The document's count of a number's bits. -/
namespace Go.Proofs.YtcmfgabhgodlaaaGreatDoor
open Go Go.RowKit
set_option linter.unusedSimpArgs false
set_option linter.unusedVariables false
set_option maxRecDepth 100000

theorem StepV.blockn {P : Program} {b : Code} {t t1 : List Value} {D D1 : List VDef} {H H1 : Hp} {id : Nat} (h : StepV P b t D H .normal t1 D1 H1) : StepV P (.block id b) t D H .normal t1 D1 H1 := by
  refine ⟨h.1, fun n0 A w0 β a w hR => wpIn_block (wpIn_mono (h.2 n0 A w0 β a w hR) ?_)⟩
  rintro e a' w' ⟨rfl, hR'⟩
  exact ⟨rfl, hR'⟩

noncomputable def b146 : Code := match Tryz.f79.body with | some c => c | none => .skip
noncomputable def BL : Code := cK (cK (cB (cA (cB (cB b146)))))
noncomputable def BI : Code := cK (cK (cB (cK (cA (cB BL)))))
noncomputable def BR5 : Code := cA (cK (cA (cB BL)))
noncomputable def BR4 : Code := cB (cB BL)
theorem b146_eq : Tryz.f79.body = some (.seq (cA b146) (.seq (cA (cB b146)) (.seq (.seq (cA (cA (cB (cB b146)))) (.block 0 (.loop BL))) (cB (cB (cB b146)))))) := by kernel_rfl
theorem BL_eq : BL = .seq (cA BL) (.seq (.block 1 (.seq BR5 (.block 2 (.loop BI)))) BR4) := by kernel_rfl
def BT (a : Nat) (n i : Int) (X : Nat → Value) : List Value := [wv a, ptr 3000, i6 0, i6 n, i6 i, X 5, X 6, X 7, X 8, X 9, X 10, X 11, X 12, X 13, X 14, X 15, X 16, X 17, X 18, X 19, X 20, X 21, X 22, X 23, X 24]
def BW (a : Nat) (n i : Int) (v : Value) (k : Int) (X : Nat → Value) : List Value := [wv a, ptr 3000, i6 0, i6 n, i6 i, v, i6 k, X 7, X 8, X 9, X 10, X 11, X 12, X 13, X 14, X 15, X 16, X 17, X 18, X 19, X 20, X 21, X 22, X 23, X 24]
section
variable (a w : Nat) (n i k : Int) (X : Nat → Value)
theorem bq_0 : runNS Tryz.prog 3000 (cA b146) (frame0 Tryz.f79 #[wv a]) [] [] [] [] = some (.normal, [wv a, ptr 3000, i6 0] ++ List.replicate 22 ud, [(3000, pw a)], []) := by kernel_rfl
theorem bq_1 : runNS Tryz.prog 3001 (cA (cB b146)) ([wv a, ptr 3000, i6 0] ++ List.replicate 22 ud) [(3000, pw a)] [] [] [] = some (.normal, [wv a, ptr 3000, i6 0, i6 0] ++ List.replicate 21 ud, [(3000, pw a)], []) := by kernel_rfl
theorem bq_2 : runNS Tryz.prog 3001 (cA (cA (cB (cB b146)))) ([wv a, ptr 3000, i6 0, i6 0] ++ List.replicate 21 ud) [(3000, pw a)] [] [] [] = some (.normal, BT a 0 0 (fun _ => ud), [(3000, pw a)], []) := by kernel_rfl
theorem bq_end : ∃ T, runNS Tryz.prog 4000 (cB (cB (cB b146))) (BT a n i X) [(3000, pw a)] [] [] [] = some (.ret, T, [(3000, pw a)], []) ∧ vresults Tryz.prog Tryz.f79 T [(3000, pw a)] = some (i6 n) := ⟨_, rfl, rfl⟩
theorem bq_out : ∃ Y, runNS Tryz.prog 4000 BL (BT a n 4 X) [(3000, pw a)] [] [] [] = some (.exit 0, BT a n 4 Y, [(3000, pw a)], []) := ⟨fun j => match j with | 7 => i6 4 | 8 => bb false | j => X j, by kernel_rfl⟩
theorem bq_r : ∃ Y, runNS Tryz.prog 4000 BI (BW a n i (u w) k X) [(3000, pw a)] [t] [] [] = some (.normal, BW a (IntKind.i64.wrap (IntKind.i64.wrap (64 * i) + k)) i (.int .u64 (IntKind.u64.wrap (Int.ofNat (w / 2)))) (IntKind.i64.wrap (k + 1)) Y, [(3000, pw a)], [decide (0 < Int.ofNat w) = true]) :=
  ⟨fun j => match j with | 14 => u w | 15 => bb (decide (0 < Int.ofNat w)) | 16 => u w | 17 => .int .u64 (IntKind.u64.wrap (Int.ofNat (w / 2))) | 18 => i6 k | 19 => i6 (IntKind.i64.wrap (k + 1)) | 20 => i6 i | 21 => i6 (IntKind.i64.wrap (64 * i)) | 22 => i6 k | 23 => i6 (IntKind.i64.wrap (IntKind.i64.wrap (64 * i) + k)) | j => X j, by kernel_rfl⟩
theorem bq_x : ∃ Y, runNS Tryz.prog 4000 BI (BW a n i (u w) k X) [(3000, pw a)] [f] [] [] = some (.exit 2, BT a n i Y, [(3000, pw a)], [decide (0 < Int.ofNat w) = false]) :=
  ⟨fun j => match j with | 5 => u w | 6 => i6 k | 14 => u w | 15 => bb (decide (0 < Int.ofNat w)) | j => X j, by kernel_rfl⟩
theorem bq_t0 : ∃ Y, runNS Tryz.prog 4000 (cA BL) (BT a n 0 X) [(3000, pw a)] [] [] [] = some (.normal, BT a n 0 Y, [(3000, pw a)], []) := ⟨fun j => match j with | 7 => i6 0 | 8 => bb true | j => X j, by kernel_rfl⟩
theorem bq_w0 : ∃ Y, runNS Tryz.prog 4000 BR5 (BT a n 0 X) [(3000, pw a)] [] [] [] = some (.normal, BW a n 0 (u (a % 18446744073709551616)) 1 Y, [(3000, pw a)], []) := ⟨fun j => match j with | 11 => i6 0 | 12 => pto 3000 0 | 13 => u (a % 18446744073709551616) | j => X j, by kernel_rfl⟩
theorem bq_i0 : ∃ Y, runNS Tryz.prog 4000 BR4 (BT a n 0 X) [(3000, pw a)] [] [] [] = some (.normal, BT a n 1 Y, [(3000, pw a)], []) := ⟨fun j => match j with | 9 => i6 0 | 10 => i6 1 | j => X j, by kernel_rfl⟩
theorem bq_t1 : ∃ Y, runNS Tryz.prog 4000 (cA BL) (BT a n 1 X) [(3000, pw a)] [] [] [] = some (.normal, BT a n 1 Y, [(3000, pw a)], []) := ⟨fun j => match j with | 7 => i6 1 | 8 => bb true | j => X j, by kernel_rfl⟩
theorem bq_w1 : ∃ Y, runNS Tryz.prog 4000 BR5 (BT a n 1 X) [(3000, pw a)] [] [] [] = some (.normal, BW a n 1 (u (a / 18446744073709551616 % 18446744073709551616)) 1 Y, [(3000, pw a)], []) := ⟨fun j => match j with | 11 => i6 1 | 12 => pto 3000 1 | 13 => u (a / 18446744073709551616 % 18446744073709551616) | j => X j, by kernel_rfl⟩
theorem bq_i1 : ∃ Y, runNS Tryz.prog 4000 BR4 (BT a n 1 X) [(3000, pw a)] [] [] [] = some (.normal, BT a n 2 Y, [(3000, pw a)], []) := ⟨fun j => match j with | 9 => i6 1 | 10 => i6 2 | j => X j, by kernel_rfl⟩
theorem bq_t2 : ∃ Y, runNS Tryz.prog 4000 (cA BL) (BT a n 2 X) [(3000, pw a)] [] [] [] = some (.normal, BT a n 2 Y, [(3000, pw a)], []) := ⟨fun j => match j with | 7 => i6 2 | 8 => bb true | j => X j, by kernel_rfl⟩
theorem bq_w2 : ∃ Y, runNS Tryz.prog 4000 BR5 (BT a n 2 X) [(3000, pw a)] [] [] [] = some (.normal, BW a n 2 (u (a / 340282366920938463463374607431768211456 % 18446744073709551616)) 1 Y, [(3000, pw a)], []) := ⟨fun j => match j with | 11 => i6 2 | 12 => pto 3000 2 | 13 => u (a / 340282366920938463463374607431768211456 % 18446744073709551616) | j => X j, by kernel_rfl⟩
theorem bq_i2 : ∃ Y, runNS Tryz.prog 4000 BR4 (BT a n 2 X) [(3000, pw a)] [] [] [] = some (.normal, BT a n 3 Y, [(3000, pw a)], []) := ⟨fun j => match j with | 9 => i6 2 | 10 => i6 3 | j => X j, by kernel_rfl⟩
theorem bq_t3 : ∃ Y, runNS Tryz.prog 4000 (cA BL) (BT a n 3 X) [(3000, pw a)] [] [] [] = some (.normal, BT a n 3 Y, [(3000, pw a)], []) := ⟨fun j => match j with | 7 => i6 3 | 8 => bb true | j => X j, by kernel_rfl⟩
theorem bq_w3 : ∃ Y, runNS Tryz.prog 4000 BR5 (BT a n 3 X) [(3000, pw a)] [] [] [] = some (.normal, BW a n 3 (u (a / 6277101735386680763835789423207666416102355444464034512896 % 18446744073709551616)) 1 Y, [(3000, pw a)], []) := ⟨fun j => match j with | 11 => i6 3 | 12 => pto 3000 3 | 13 => u (a / 6277101735386680763835789423207666416102355444464034512896 % 18446744073709551616) | j => X j, by kernel_rfl⟩
theorem bq_i3 : ∃ Y, runNS Tryz.prog 4000 BR4 (BT a n 3 X) [(3000, pw a)] [] [] [] = some (.normal, BT a n 4 Y, [(3000, pw a)], []) := ⟨fun j => match j with | 9 => i6 3 | 10 => i6 4 | j => X j, by kernel_rfl⟩
end

theorem bi_loop (a : Nat) (i : Nat) (hi : i ≤ 3) : ∀ (L w k : Nat) (n : Int) (X : Nat → Value), (w = 0 ∧ L = 0) ∨ (1 ≤ L ∧ 2 ^ (L - 1) ≤ w ∧ w < 2 ^ L) → w < 18446744073709551616 → 1 ≤ k → k + L ≤ 65 → ∃ r Y,
    LoopN Tryz.prog BI r (BW a n i (u w) k X) [] [(3000, pw a)] (.exit 2) (BT a (if L = 0 then n else ((64 * i + (k - 1 + L) : Nat) : Int)) i Y) [] [(3000, pw a)]
  | 0, w, k, n, X, h, hw, hk, hL => by
    obtain ⟨Y, hY⟩ := bq_x a w n i k X
    have h0 : w = 0 := by rcases h with h | h <;> omega
    subst h0
    exact ⟨1, Y, LoopN.last (runNS_step mix hY ⟨rfl, trivial⟩)⟩
  | L + 1, w, k, n, X, h, hw, hk, hL => by
    obtain ⟨Y, hY⟩ := bq_r a w n i k X
    have h1 : 1 ≤ L + 1 ∧ 2 ^ (L + 1 - 1) ≤ w ∧ w < 2 ^ (L + 1) := by
      rcases h with h | h
      · omega
      · exact h
    rw [Nat.add_sub_cancel] at h1
    have hp : 0 < 2 ^ L := Nat.pos_of_ne_zero (by simp)
    have e1 : IntKind.u64.wrap (Int.ofNat (w / 2)) = Int.ofNat (w / 2) := by
      rw [IntKind.wrap_u64]; simp only [Int.ofNat_eq_natCast]; omega
    have e2 : IntKind.i64.wrap ((k : Int) + 1) = ((k + 1 : Nat) : Int) := by rw [wrapI (by omega)]; omega
    have e3 : IntKind.i64.wrap (64 * (i : Int)) = 64 * (i : Int) := wrapI (by omega)
    have e4 : IntKind.i64.wrap (64 * (i : Int) + (k : Int)) = ((64 * i + k : Nat) : Int) := by rw [wrapI (by omega)]; omega
    rw [e1, e2, e3, e4] at hY
    have hh : (w / 2 = 0 ∧ L = 0) ∨ (1 ≤ L ∧ 2 ^ (L - 1) ≤ w / 2 ∧ w / 2 < 2 ^ L) := by
      rw [Nat.pow_succ] at h1
      rcases Nat.eq_zero_or_pos L with h2 | h2
      · subst h2
        exact .inl ⟨by omega, rfl⟩
      · have h3 : 2 ^ L = 2 ^ (L - 1) * 2 := by rw [← Nat.pow_succ, Nat.succ_eq_add_one, Nat.sub_add_cancel h2]
        exact .inr ⟨h2, by omega, by omega⟩
    obtain ⟨r, Z, hZ⟩ := bi_loop a i hi L (w / 2) (k + 1) ((64 * i + k : Nat) : Int) Y hh (by omega) (by omega) (by omega)
    have e5 : (if L = 0 then ((64 * i + k : Nat) : Int) else ((64 * i + (k + 1 - 1 + L) : Nat) : Int)) = (if L + 1 = 0 then n else ((64 * i + (k - 1 + (L + 1)) : Nat) : Int)) := by
      rw [if_neg (Nat.succ_ne_zero L)]
      split <;> omega
    rw [e5] at hZ
    exact ⟨r + 1, Z, LoopN.round (runNS_step mix hY ⟨decide_eq_true (by simp only [Int.ofNat_eq_natCast]; omega), trivial⟩) hZ⟩
def bstep (i y : Nat) (n : Int) : Int := if y = 0 then n else ((64 * i + Lib.bitLen y : Nat) : Int)
theorem bi_word (a i y : Nat) (hi : i ≤ 3) (hy : y < 18446744073709551616) (n : Int) (X : Nat → Value) : ∃ Y, StepV Tryz.prog (.block 2 (.loop BI)) (BW a n i (u y) 1 X) [] [(3000, pw a)] .normal (BT a (bstep i y n) i Y) [] [(3000, pw a)] := by
  unfold bstep
  by_cases h0 : y = 0
  · obtain ⟨r, Y, h⟩ := bi_loop a i hi 0 y 1 n X (.inl ⟨h0, rfl⟩) hy (by decide) (by decide)
    rw [if_pos rfl] at h
    rw [if_pos h0]
    exact ⟨Y, (LoopN.loop h).block⟩
  · obtain ⟨b1, b2, b3, b4⟩ := bitLen_b h0 hy
    obtain ⟨r, Y, h⟩ := bi_loop a i hi (Lib.bitLen y) y 1 n X (.inr ⟨b1, b3, b4⟩) hy (by decide) (by omega)
    rw [if_neg (by omega), show 1 - 1 + Lib.bitLen y = Lib.bitLen y by omega] at h
    rw [if_neg h0]
    exact ⟨Y, (LoopN.loop h).block⟩
theorem bl_0 (a : Nat) (n : Int) (X : Nat → Value) : ∃ Y, StepV Tryz.prog BL (BT a n 0 X) [] [(3000, pw a)] .normal (BT a (bstep 0 (a % 18446744073709551616) n) 1 Y) [] [(3000, pw a)] := by
  obtain ⟨X1, h1⟩ := bq_t0 a n X
  obtain ⟨X2, h2⟩ := bq_w0 a n X1
  obtain ⟨X3, h3⟩ := bi_word a 0 (a % 18446744073709551616) (by decide) (Nat.mod_lt _ (by decide)) n X2
  obtain ⟨X4, h4⟩ := bq_i0 a (bstep 0 (a % 18446744073709551616) n) X3
  rw [BL_eq]
  exact ⟨X4, StepV.seq (runNS_step mix h1 trivial) (StepV.seq (StepV.blockn (StepV.seq (runNS_step mix h2 trivial) h3)) (runNS_step mix h4 trivial))⟩
theorem bl_1 (a : Nat) (n : Int) (X : Nat → Value) : ∃ Y, StepV Tryz.prog BL (BT a n 1 X) [] [(3000, pw a)] .normal (BT a (bstep 1 (a / 18446744073709551616 % 18446744073709551616) n) 2 Y) [] [(3000, pw a)] := by
  obtain ⟨X1, h1⟩ := bq_t1 a n X
  obtain ⟨X2, h2⟩ := bq_w1 a n X1
  obtain ⟨X3, h3⟩ := bi_word a 1 (a / 18446744073709551616 % 18446744073709551616) (by decide) (Nat.mod_lt _ (by decide)) n X2
  obtain ⟨X4, h4⟩ := bq_i1 a (bstep 1 (a / 18446744073709551616 % 18446744073709551616) n) X3
  rw [BL_eq]
  exact ⟨X4, StepV.seq (runNS_step mix h1 trivial) (StepV.seq (StepV.blockn (StepV.seq (runNS_step mix h2 trivial) h3)) (runNS_step mix h4 trivial))⟩
theorem bl_2 (a : Nat) (n : Int) (X : Nat → Value) : ∃ Y, StepV Tryz.prog BL (BT a n 2 X) [] [(3000, pw a)] .normal (BT a (bstep 2 (a / 340282366920938463463374607431768211456 % 18446744073709551616) n) 3 Y) [] [(3000, pw a)] := by
  obtain ⟨X1, h1⟩ := bq_t2 a n X
  obtain ⟨X2, h2⟩ := bq_w2 a n X1
  obtain ⟨X3, h3⟩ := bi_word a 2 (a / 340282366920938463463374607431768211456 % 18446744073709551616) (by decide) (Nat.mod_lt _ (by decide)) n X2
  obtain ⟨X4, h4⟩ := bq_i2 a (bstep 2 (a / 340282366920938463463374607431768211456 % 18446744073709551616) n) X3
  rw [BL_eq]
  exact ⟨X4, StepV.seq (runNS_step mix h1 trivial) (StepV.seq (StepV.blockn (StepV.seq (runNS_step mix h2 trivial) h3)) (runNS_step mix h4 trivial))⟩
theorem bl_3 (a : Nat) (n : Int) (X : Nat → Value) : ∃ Y, StepV Tryz.prog BL (BT a n 3 X) [] [(3000, pw a)] .normal (BT a (bstep 3 (a / 6277101735386680763835789423207666416102355444464034512896 % 18446744073709551616) n) 4 Y) [] [(3000, pw a)] := by
  obtain ⟨X1, h1⟩ := bq_t3 a n X
  obtain ⟨X2, h2⟩ := bq_w3 a n X1
  obtain ⟨X3, h3⟩ := bi_word a 3 (a / 6277101735386680763835789423207666416102355444464034512896 % 18446744073709551616) (by decide) (Nat.mod_lt _ (by decide)) n X2
  obtain ⟨X4, h4⟩ := bq_i3 a (bstep 3 (a / 6277101735386680763835789423207666416102355444464034512896 % 18446744073709551616) n) X3
  rw [BL_eq]
  exact ⟨X4, StepV.seq (runNS_step mix h1 trivial) (StepV.seq (StepV.blockn (StepV.seq (runNS_step mix h2 trivial) h3)) (runNS_step mix h4 trivial))⟩
theorem bl_4 (a : Nat) (n : Int) (X : Nat → Value) : ∃ Y, StepV Tryz.prog BL (BT a n 4 X) [] [(3000, pw a)] (.exit 0) (BT a n 4 Y) [] [(3000, pw a)] := by
  obtain ⟨X1, h1⟩ := bq_out a n X
  exact ⟨X1, runNS_step mix h1 trivial⟩
theorem len_at {a t P y : Nat} (hP : P = 2 ^ (64 * t)) (ht : t ≤ 3) (h : y = a / P) (h0 : y ≠ 0) (hy : y < 18446744073709551616) : IsLen a (64 * t + Lib.bitLen y) := by
  have hp : 0 < P := by rw [hP]; exact Nat.pos_of_ne_zero (by simp)
  have := isLen_of (lo := a % P) (P := P) (Nat.mod_lt _ hp) hP ht h0 hy
  rw [h, Nat.mod_add_div] at this
  rw [h]
  exact this
theorem bsteps {a : Nat} (ha : a < Mw) : ∃ L : Nat, bstep 3 (a / 6277101735386680763835789423207666416102355444464034512896 % 18446744073709551616) (bstep 2 (a / 340282366920938463463374607431768211456 % 18446744073709551616) (bstep 1 (a / 18446744073709551616 % 18446744073709551616) (bstep 0 (a % 18446744073709551616) 0))) = (L : Int) ∧ IsLen a L := by
  unfold Mw at ha
  have d3 : a / 6277101735386680763835789423207666416102355444464034512896 < 18446744073709551616 := by omega
  unfold bstep
  by_cases h3 : a / 6277101735386680763835789423207666416102355444464034512896 % 18446744073709551616 = 0
  · rw [if_pos h3]
    rw [Nat.mod_eq_of_lt d3] at h3
    have d2 : a / 340282366920938463463374607431768211456 < 18446744073709551616 := by omega
    by_cases h2 : a / 340282366920938463463374607431768211456 % 18446744073709551616 = 0
    · rw [if_pos h2]
      rw [Nat.mod_eq_of_lt d2] at h2
      have d1 : a / 18446744073709551616 < 18446744073709551616 := by omega
      by_cases h1 : a / 18446744073709551616 % 18446744073709551616 = 0
      · rw [if_pos h1]
        rw [Nat.mod_eq_of_lt d1] at h1
        have d0 : a < 18446744073709551616 := by omega
        rw [Nat.mod_eq_of_lt d0]
        by_cases h0 : a = 0
        · rw [if_pos h0]
          exact ⟨0, rfl, .inl ⟨h0, rfl⟩⟩
        · rw [if_neg h0]
          exact ⟨_, rfl, len_at (P := 1) (by decide) (by decide) (Nat.div_one a).symm h0 d0⟩
      · rw [if_neg h1]
        rw [Nat.mod_eq_of_lt d1] at h1 ⊢
        exact ⟨_, rfl, len_at (by decide) (by decide) rfl h1 d1⟩
    · rw [if_neg h2]
      rw [Nat.mod_eq_of_lt d2] at h2 ⊢
      exact ⟨_, rfl, len_at (by decide) (by decide) rfl h2 d2⟩
  · rw [if_neg h3]
    rw [Nat.mod_eq_of_lt d3] at h3 ⊢
    exact ⟨_, rfl, len_at (by decide) (by decide) rfl h3 d3⟩
theorem len_doc {a : Nat} (ha : a < Mw) : ∃ L : Nat, IsLen a L ∧ PureX Tryz.prog 79 #[wv a] (rt (i6 L)) := by
  obtain ⟨L, hL, hI⟩ := bsteps ha
  obtain ⟨X1, h1⟩ := bl_0 a 0 (fun _ => ud)
  obtain ⟨X2, h2⟩ := bl_1 a _ X1
  obtain ⟨X3, h3⟩ := bl_2 a _ X2
  obtain ⟨X4, h4⟩ := bl_3 a _ X3
  rw [hL] at h4
  obtain ⟨X5, h5⟩ := bl_4 a L X4
  have hl := (LoopN.loop (LoopN.round h1 (LoopN.round h2 (LoopN.round h3 (LoopN.round h4 (LoopN.last h5)))))).block
  obtain ⟨T, hE, hv⟩ := bq_end a L 4 X5
  have hw := StepV.seq (runNS_step mix (bq_0 a) trivial) (StepV.seq (runNS_step mix (bq_1 a) trivial) (StepV.seq (StepV.seq (runNS_step mix (bq_2 a) trivial) hl) (runNS_step mix hE trivial)))
  exact ⟨L, hI, CallsV.pure (callsV_step Tryz.func79 b146_eq hw rfl hv rfl (fun _ _ h => by cases h) rfl) rfl rfl⟩

end Go.Proofs.YtcmfgabhgodlaaaGreatDoor
