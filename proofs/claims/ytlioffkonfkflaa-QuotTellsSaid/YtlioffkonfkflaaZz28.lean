/- Texts of the seat, joined. -/
import Derived.Test.YtlioffkonfkflaaZz25
import Derived.Test.YtlioffkonfkflaaZz16
/- The document's count of a number's bits. -/
namespace Go.Proofs.Ytlioffkonfkflaa
open Go Go.RowKit
set_option linter.unusedSimpArgs false
set_option linter.unusedVariables false
set_option maxRecDepth 100000

theorem StepV.blockn {P : Program} {b : Code} {t t1 : List Value} {D D1 : List VDef} {H H1 : Hp} {id : Nat} (h : StepV P b t D H .normal t1 D1 H1) : StepV P (.block id b) t D H .normal t1 D1 H1 := by
  refine ⟨h.1, fun n0 A w0 β a w hR => wpIn_block (wpIn_mono (h.2 n0 A w0 β a w hR) ?_)⟩
  rintro e a' w' ⟨rfl, hR'⟩
  exact ⟨rfl, hR'⟩

noncomputable def b146 : Code := match Try.f66.body with | some c => c | none => .skip
noncomputable def BL : Code := cK (cK (cB (cA (cB (cB b146)))))
noncomputable def BI : Code := cK (cK (cB (cK (cA (cB BL)))))
noncomputable def BR5 : Code := cA (cK (cA (cB BL)))
noncomputable def BR4 : Code := cB (cB BL)
theorem b146_eq : Try.f66.body = some (.seq (cA b146) (.seq (cA (cB b146)) (.seq (.seq (cA (cA (cB (cB b146)))) (.block 0 (.loop BL))) (cB (cB (cB b146)))))) := by kernel_rfl
theorem BL_eq : BL = .seq (cA BL) (.seq (.block 1 (.seq BR5 (.block 2 (.loop BI)))) BR4) := by kernel_rfl
def BT (a : Nat) (n i : Int) (X : Nat → Value) : List Value := [wv a, ptr 3000, i6 0, i6 n, i6 i, X 5, X 6, X 7, X 8, X 9, X 10, X 11, X 12, X 13, X 14, X 15, X 16, X 17, X 18, X 19, X 20, X 21, X 22, X 23, X 24]
def BW (a : Nat) (n i : Int) (v : Value) (k : Int) (X : Nat → Value) : List Value := [wv a, ptr 3000, i6 0, i6 n, i6 i, v, i6 k, X 7, X 8, X 9, X 10, X 11, X 12, X 13, X 14, X 15, X 16, X 17, X 18, X 19, X 20, X 21, X 22, X 23, X 24]
section
variable (a w : Nat) (n i k : Int) (X : Nat → Value)
theorem bq_0 : runNS Try.prog 3000 (cA b146) (frame0 Try.f66 #[wv a]) [] [] [] [] = some (.normal, [wv a, ptr 3000, i6 0] ++ List.replicate 22 ud, [(3000, pw a)], []) := by kernel_rfl
theorem bq_1 : runNS Try.prog 3001 (cA (cB b146)) ([wv a, ptr 3000, i6 0] ++ List.replicate 22 ud) [(3000, pw a)] [] [] [] = some (.normal, [wv a, ptr 3000, i6 0, i6 0] ++ List.replicate 21 ud, [(3000, pw a)], []) := by kernel_rfl
theorem bq_2 : runNS Try.prog 3001 (cA (cA (cB (cB b146)))) ([wv a, ptr 3000, i6 0, i6 0] ++ List.replicate 21 ud) [(3000, pw a)] [] [] [] = some (.normal, BT a 0 0 (fun _ => ud), [(3000, pw a)], []) := by kernel_rfl
theorem bq_end : ∃ T, runNS Try.prog 4000 (cB (cB (cB b146))) (BT a n i X) [(3000, pw a)] [] [] [] = some (.ret, T, [(3000, pw a)], []) ∧ vresults Try.prog Try.f66 T [(3000, pw a)] = some (i6 n) := ⟨_, rfl, rfl⟩
theorem bq_out : ∃ Y, runNS Try.prog 4000 BL (BT a n 4 X) [(3000, pw a)] [] [] [] = some (.exit 0, BT a n 4 Y, [(3000, pw a)], []) := ⟨fun j => match j with | 7 => i6 4 | 8 => bb false | j => X j, by kernel_rfl⟩
theorem bq_r : ∃ Y, runNS Try.prog 4000 BI (BW a n i (u w) k X) [(3000, pw a)] [t] [] [] = some (.normal, BW a (IntKind.i64.wrap (IntKind.i64.wrap (64 * i) + k)) i (.int .u64 (IntKind.u64.wrap (Int.ofNat (w / 2)))) (IntKind.i64.wrap (k + 1)) Y, [(3000, pw a)], [decide (0 < Int.ofNat w) = true]) :=
  ⟨fun j => match j with | 14 => u w | 15 => bb (decide (0 < Int.ofNat w)) | 16 => u w | 17 => .int .u64 (IntKind.u64.wrap (Int.ofNat (w / 2))) | 18 => i6 k | 19 => i6 (IntKind.i64.wrap (k + 1)) | 20 => i6 i | 21 => i6 (IntKind.i64.wrap (64 * i)) | 22 => i6 k | 23 => i6 (IntKind.i64.wrap (IntKind.i64.wrap (64 * i) + k)) | j => X j, by kernel_rfl⟩
theorem bq_x : ∃ Y, runNS Try.prog 4000 BI (BW a n i (u w) k X) [(3000, pw a)] [f] [] [] = some (.exit 2, BT a n i Y, [(3000, pw a)], [decide (0 < Int.ofNat w) = false]) :=
  ⟨fun j => match j with | 5 => u w | 6 => i6 k | 14 => u w | 15 => bb (decide (0 < Int.ofNat w)) | j => X j, by kernel_rfl⟩
theorem bq_t0 : ∃ Y, runNS Try.prog 4000 (cA BL) (BT a n 0 X) [(3000, pw a)] [] [] [] = some (.normal, BT a n 0 Y, [(3000, pw a)], []) := ⟨fun j => match j with | 7 => i6 0 | 8 => bb true | j => X j, by kernel_rfl⟩
theorem bq_w0 : ∃ Y, runNS Try.prog 4000 BR5 (BT a n 0 X) [(3000, pw a)] [] [] [] = some (.normal, BW a n 0 (u (a % 18446744073709551616)) 1 Y, [(3000, pw a)], []) := ⟨fun j => match j with | 11 => i6 0 | 12 => pto 3000 0 | 13 => u (a % 18446744073709551616) | j => X j, by kernel_rfl⟩
theorem bq_i0 : ∃ Y, runNS Try.prog 4000 BR4 (BT a n 0 X) [(3000, pw a)] [] [] [] = some (.normal, BT a n 1 Y, [(3000, pw a)], []) := ⟨fun j => match j with | 9 => i6 0 | 10 => i6 1 | j => X j, by kernel_rfl⟩
theorem bq_t1 : ∃ Y, runNS Try.prog 4000 (cA BL) (BT a n 1 X) [(3000, pw a)] [] [] [] = some (.normal, BT a n 1 Y, [(3000, pw a)], []) := ⟨fun j => match j with | 7 => i6 1 | 8 => bb true | j => X j, by kernel_rfl⟩
theorem bq_w1 : ∃ Y, runNS Try.prog 4000 BR5 (BT a n 1 X) [(3000, pw a)] [] [] [] = some (.normal, BW a n 1 (u (a / 18446744073709551616 % 18446744073709551616)) 1 Y, [(3000, pw a)], []) := ⟨fun j => match j with | 11 => i6 1 | 12 => pto 3000 1 | 13 => u (a / 18446744073709551616 % 18446744073709551616) | j => X j, by kernel_rfl⟩
theorem bq_i1 : ∃ Y, runNS Try.prog 4000 BR4 (BT a n 1 X) [(3000, pw a)] [] [] [] = some (.normal, BT a n 2 Y, [(3000, pw a)], []) := ⟨fun j => match j with | 9 => i6 1 | 10 => i6 2 | j => X j, by kernel_rfl⟩
theorem bq_t2 : ∃ Y, runNS Try.prog 4000 (cA BL) (BT a n 2 X) [(3000, pw a)] [] [] [] = some (.normal, BT a n 2 Y, [(3000, pw a)], []) := ⟨fun j => match j with | 7 => i6 2 | 8 => bb true | j => X j, by kernel_rfl⟩
theorem bq_w2 : ∃ Y, runNS Try.prog 4000 BR5 (BT a n 2 X) [(3000, pw a)] [] [] [] = some (.normal, BW a n 2 (u (a / 340282366920938463463374607431768211456 % 18446744073709551616)) 1 Y, [(3000, pw a)], []) := ⟨fun j => match j with | 11 => i6 2 | 12 => pto 3000 2 | 13 => u (a / 340282366920938463463374607431768211456 % 18446744073709551616) | j => X j, by kernel_rfl⟩
theorem bq_i2 : ∃ Y, runNS Try.prog 4000 BR4 (BT a n 2 X) [(3000, pw a)] [] [] [] = some (.normal, BT a n 3 Y, [(3000, pw a)], []) := ⟨fun j => match j with | 9 => i6 2 | 10 => i6 3 | j => X j, by kernel_rfl⟩
theorem bq_t3 : ∃ Y, runNS Try.prog 4000 (cA BL) (BT a n 3 X) [(3000, pw a)] [] [] [] = some (.normal, BT a n 3 Y, [(3000, pw a)], []) := ⟨fun j => match j with | 7 => i6 3 | 8 => bb true | j => X j, by kernel_rfl⟩
theorem bq_w3 : ∃ Y, runNS Try.prog 4000 BR5 (BT a n 3 X) [(3000, pw a)] [] [] [] = some (.normal, BW a n 3 (u (a / 6277101735386680763835789423207666416102355444464034512896 % 18446744073709551616)) 1 Y, [(3000, pw a)], []) := ⟨fun j => match j with | 11 => i6 3 | 12 => pto 3000 3 | 13 => u (a / 6277101735386680763835789423207666416102355444464034512896 % 18446744073709551616) | j => X j, by kernel_rfl⟩
theorem bq_i3 : ∃ Y, runNS Try.prog 4000 BR4 (BT a n 3 X) [(3000, pw a)] [] [] [] = some (.normal, BT a n 4 Y, [(3000, pw a)], []) := ⟨fun j => match j with | 9 => i6 3 | 10 => i6 4 | j => X j, by kernel_rfl⟩
end

theorem bi_loop (a : Nat) (i : Nat) (hi : i ≤ 3) : ∀ (L w k : Nat) (n : Int) (X : Nat → Value), (w = 0 ∧ L = 0) ∨ (1 ≤ L ∧ 2 ^ (L - 1) ≤ w ∧ w < 2 ^ L) → w < 18446744073709551616 → 1 ≤ k → k + L ≤ 65 → ∃ r Y,
    LoopN Try.prog BI r (BW a n i (u w) k X) [] [(3000, pw a)] (.exit 2) (BT a (if L = 0 then n else ((64 * i + (k - 1 + L) : Nat) : Int)) i Y) [] [(3000, pw a)]
  | 0, w, k, n, X, h, hw, hk, hL => by
    obtain ⟨Y, hY⟩ := bq_x a w n i k X
    have h0 : w = 0 := by rcases h with h | h <;> omega
    subst h0
    exact ⟨1, Y, LoopN.last (runNS_step mix hY ⟨rfl, trivial⟩)⟩
  | L + 1, w, k, n, X, h, hw, hk, hL => by
    obtain ⟨Y, hY⟩ := bq_r a w n i k X
    have h1 : 1 ≤ L + 1 ∧ 2 ^ (L + 1 - 1) ≤ w ∧ w < 2 ^ (L + 1) := by
      rcases h with h | h
      · omega
      · exact h
    rw [Nat.add_sub_cancel] at h1
    have hp : 0 < 2 ^ L := Nat.pos_of_ne_zero (by simp)
    have e1 : IntKind.u64.wrap (Int.ofNat (w / 2)) = Int.ofNat (w / 2) := by
      rw [IntKind.wrap_u64]; simp only [Int.ofNat_eq_natCast]; omega
    have e2 : IntKind.i64.wrap ((k : Int) + 1) = ((k + 1 : Nat) : Int) := by rw [wrapI (by omega)]; omega
    have e3 : IntKind.i64.wrap (64 * (i : Int)) = 64 * (i : Int) := wrapI (by omega)
    have e4 : IntKind.i64.wrap (64 * (i : Int) + (k : Int)) = ((64 * i + k : Nat) : Int) := by rw [wrapI (by omega)]; omega
    rw [e1, e2, e3, e4] at hY
    have hh : (w / 2 = 0 ∧ L = 0) ∨ (1 ≤ L ∧ 2 ^ (L - 1) ≤ w / 2 ∧ w / 2 < 2 ^ L) := by
      rw [Nat.pow_succ] at h1
      rcases Nat.eq_zero_or_pos L with h2 | h2
      · subst h2
        exact .inl ⟨by omega, rfl⟩
      · have h3 : 2 ^ L = 2 ^ (L - 1) * 2 := by rw [← Nat.pow_succ, Nat.succ_eq_add_one, Nat.sub_add_cancel h2]
        exact .inr ⟨h2, by omega, by omega⟩
    obtain ⟨r, Z, hZ⟩ := bi_loop a i hi L (w / 2) (k + 1) ((64 * i + k : Nat) : Int) Y hh (by omega) (by omega) (by omega)
    have e5 : (if L = 0 then ((64 * i + k : Nat) : Int) else ((64 * i + (k + 1 - 1 + L) : Nat) : Int)) = (if L + 1 = 0 then n else ((64 * i + (k - 1 + (L + 1)) : Nat) : Int)) := by
      rw [if_neg (Nat.succ_ne_zero L)]
      split <;> omega
    rw [e5] at hZ
    exact ⟨r + 1, Z, LoopN.round (runNS_step mix hY ⟨decide_eq_true (by simp only [Int.ofNat_eq_natCast]; omega), trivial⟩) hZ⟩
def bstep (i y : Nat) (n : Int) : Int := if y = 0 then n else ((64 * i + Lib.bitLen y : Nat) : Int)
theorem bi_word (a i y : Nat) (hi : i ≤ 3) (hy : y < 18446744073709551616) (n : Int) (X : Nat → Value) : ∃ Y, StepV Try.prog (.block 2 (.loop BI)) (BW a n i (u y) 1 X) [] [(3000, pw a)] .normal (BT a (bstep i y n) i Y) [] [(3000, pw a)] := by
  unfold bstep
  by_cases h0 : y = 0
  · obtain ⟨r, Y, h⟩ := bi_loop a i hi 0 y 1 n X (.inl ⟨h0, rfl⟩) hy (by decide) (by decide)
    rw [if_pos rfl] at h
    rw [if_pos h0]
    exact ⟨Y, (LoopN.loop h).block⟩
  · obtain ⟨b1, b2, b3, b4⟩ := bitLen_b h0 hy
    obtain ⟨r, Y, h⟩ := bi_loop a i hi (Lib.bitLen y) y 1 n X (.inr ⟨b1, b3, b4⟩) hy (by decide) (by omega)
    rw [if_neg (by omega), show 1 - 1 + Lib.bitLen y = Lib.bitLen y by omega] at h
    rw [if_neg h0]
    exact ⟨Y, (LoopN.loop h).block⟩
theorem bl_0 (a : Nat) (n : Int) (X : Nat → Value) : ∃ Y, StepV Try.prog BL (BT a n 0 X) [] [(3000, pw a)] .normal (BT a (bstep 0 (a % 18446744073709551616) n) 1 Y) [] [(3000, pw a)] := by
  obtain ⟨X1, h1⟩ := bq_t0 a n X
  obtain ⟨X2, h2⟩ := bq_w0 a n X1
  obtain ⟨X3, h3⟩ := bi_word a 0 (a % 18446744073709551616) (by decide) (Nat.mod_lt _ (by decide)) n X2
  obtain ⟨X4, h4⟩ := bq_i0 a (bstep 0 (a % 18446744073709551616) n) X3
  rw [BL_eq]
  exact ⟨X4, StepV.seq (runNS_step mix h1 trivial) (StepV.seq (StepV.blockn (StepV.seq (runNS_step mix h2 trivial) h3)) (runNS_step mix h4 trivial))⟩
theorem bl_1 (a : Nat) (n : Int) (X : Nat → Value) : ∃ Y, StepV Try.prog BL (BT a n 1 X) [] [(3000, pw a)] .normal (BT a (bstep 1 (a / 18446744073709551616 % 18446744073709551616) n) 2 Y) [] [(3000, pw a)] := by
  obtain ⟨X1, h1⟩ := bq_t1 a n X
  obtain ⟨X2, h2⟩ := bq_w1 a n X1
  obtain ⟨X3, h3⟩ := bi_word a 1 (a / 18446744073709551616 % 18446744073709551616) (by decide) (Nat.mod_lt _ (by decide)) n X2
  obtain ⟨X4, h4⟩ := bq_i1 a (bstep 1 (a / 18446744073709551616 % 18446744073709551616) n) X3
  rw [BL_eq]
  exact ⟨X4, StepV.seq (runNS_step mix h1 trivial) (StepV.seq (StepV.blockn (StepV.seq (runNS_step mix h2 trivial) h3)) (runNS_step mix h4 trivial))⟩
theorem bl_2 (a : Nat) (n : Int) (X : Nat → Value) : ∃ Y, StepV Try.prog BL (BT a n 2 X) [] [(3000, pw a)] .normal (BT a (bstep 2 (a / 340282366920938463463374607431768211456 % 18446744073709551616) n) 3 Y) [] [(3000, pw a)] := by
  obtain ⟨X1, h1⟩ := bq_t2 a n X
  obtain ⟨X2, h2⟩ := bq_w2 a n X1
  obtain ⟨X3, h3⟩ := bi_word a 2 (a / 340282366920938463463374607431768211456 % 18446744073709551616) (by decide) (Nat.mod_lt _ (by decide)) n X2
  obtain ⟨X4, h4⟩ := bq_i2 a (bstep 2 (a / 340282366920938463463374607431768211456 % 18446744073709551616) n) X3
  rw [BL_eq]
  exact ⟨X4, StepV.seq (runNS_step mix h1 trivial) (StepV.seq (StepV.blockn (StepV.seq (runNS_step mix h2 trivial) h3)) (runNS_step mix h4 trivial))⟩
theorem bl_3 (a : Nat) (n : Int) (X : Nat → Value) : ∃ Y, StepV Try.prog BL (BT a n 3 X) [] [(3000, pw a)] .normal (BT a (bstep 3 (a / 6277101735386680763835789423207666416102355444464034512896 % 18446744073709551616) n) 4 Y) [] [(3000, pw a)] := by
  obtain ⟨X1, h1⟩ := bq_t3 a n X
  obtain ⟨X2, h2⟩ := bq_w3 a n X1
  obtain ⟨X3, h3⟩ := bi_word a 3 (a / 6277101735386680763835789423207666416102355444464034512896 % 18446744073709551616) (by decide) (Nat.mod_lt _ (by decide)) n X2
  obtain ⟨X4, h4⟩ := bq_i3 a (bstep 3 (a / 6277101735386680763835789423207666416102355444464034512896 % 18446744073709551616) n) X3
  rw [BL_eq]
  exact ⟨X4, StepV.seq (runNS_step mix h1 trivial) (StepV.seq (StepV.blockn (StepV.seq (runNS_step mix h2 trivial) h3)) (runNS_step mix h4 trivial))⟩
theorem bl_4 (a : Nat) (n : Int) (X : Nat → Value) : ∃ Y, StepV Try.prog BL (BT a n 4 X) [] [(3000, pw a)] (.exit 0) (BT a n 4 Y) [] [(3000, pw a)] := by
  obtain ⟨X1, h1⟩ := bq_out a n X
  exact ⟨X1, runNS_step mix h1 trivial⟩
theorem len_at {a t P y : Nat} (hP : P = 2 ^ (64 * t)) (ht : t ≤ 3) (h : y = a / P) (h0 : y ≠ 0) (hy : y < 18446744073709551616) : IsLen a (64 * t + Lib.bitLen y) := by
  have hp : 0 < P := by rw [hP]; exact Nat.pos_of_ne_zero (by simp)
  have := isLen_of (lo := a % P) (P := P) (Nat.mod_lt _ hp) hP ht h0 hy
  rw [h, Nat.mod_add_div] at this
  rw [h]
  exact this
theorem bsteps {a : Nat} (ha : a < Mw) : ∃ L : Nat, bstep 3 (a / 6277101735386680763835789423207666416102355444464034512896 % 18446744073709551616) (bstep 2 (a / 340282366920938463463374607431768211456 % 18446744073709551616) (bstep 1 (a / 18446744073709551616 % 18446744073709551616) (bstep 0 (a % 18446744073709551616) 0))) = (L : Int) ∧ IsLen a L := by
  unfold Mw at ha
  have d3 : a / 6277101735386680763835789423207666416102355444464034512896 < 18446744073709551616 := by omega
  unfold bstep
  by_cases h3 : a / 6277101735386680763835789423207666416102355444464034512896 % 18446744073709551616 = 0
  · rw [if_pos h3]
    rw [Nat.mod_eq_of_lt d3] at h3
    have d2 : a / 340282366920938463463374607431768211456 < 18446744073709551616 := by omega
    by_cases h2 : a / 340282366920938463463374607431768211456 % 18446744073709551616 = 0
    · rw [if_pos h2]
      rw [Nat.mod_eq_of_lt d2] at h2
      have d1 : a / 18446744073709551616 < 18446744073709551616 := by omega
      by_cases h1 : a / 18446744073709551616 % 18446744073709551616 = 0
      · rw [if_pos h1]
        rw [Nat.mod_eq_of_lt d1] at h1
        have d0 : a < 18446744073709551616 := by omega
        rw [Nat.mod_eq_of_lt d0]
        by_cases h0 : a = 0
        · rw [if_pos h0]
          exact ⟨0, rfl, .inl ⟨h0, rfl⟩⟩
        · rw [if_neg h0]
          exact ⟨_, rfl, len_at (P := 1) (by decide) (by decide) (Nat.div_one a).symm h0 d0⟩
      · rw [if_neg h1]
        rw [Nat.mod_eq_of_lt d1] at h1 ⊢
        exact ⟨_, rfl, len_at (by decide) (by decide) rfl h1 d1⟩
    · rw [if_neg h2]
      rw [Nat.mod_eq_of_lt d2] at h2 ⊢
      exact ⟨_, rfl, len_at (by decide) (by decide) rfl h2 d2⟩
  · rw [if_neg h3]
    rw [Nat.mod_eq_of_lt d3] at h3 ⊢
    exact ⟨_, rfl, len_at (by decide) (by decide) rfl h3 d3⟩
theorem len_doc {a : Nat} (ha : a < Mw) : ∃ L : Nat, IsLen a L ∧ PureX Try.prog 66 #[wv a] (rt (i6 L)) := by
  obtain ⟨L, hL, hI⟩ := bsteps ha
  obtain ⟨X1, h1⟩ := bl_0 a 0 (fun _ => ud)
  obtain ⟨X2, h2⟩ := bl_1 a _ X1
  obtain ⟨X3, h3⟩ := bl_2 a _ X2
  obtain ⟨X4, h4⟩ := bl_3 a _ X3
  rw [hL] at h4
  obtain ⟨X5, h5⟩ := bl_4 a L X4
  have hl := (LoopN.loop (LoopN.round h1 (LoopN.round h2 (LoopN.round h3 (LoopN.round h4 (LoopN.last h5)))))).block
  obtain ⟨T, hE, hv⟩ := bq_end a L 4 X5
  have hw := StepV.seq (runNS_step mix (bq_0 a) trivial) (StepV.seq (runNS_step mix (bq_1 a) trivial) (StepV.seq (StepV.seq (runNS_step mix (bq_2 a) trivial) hl) (runNS_step mix hE trivial)))
  exact ⟨L, hI, CallsV.pure (callsV_step Try.func66 b146_eq hw rfl hv rfl (fun _ _ h => by cases h) rfl) rfl rfl⟩

end Go.Proofs.Ytlioffkonfkflaa

/- The document's whole roots: each piece of a round computed. -/
namespace Go.Proofs.Ytlioffkonfkflaa
open Go Go.RowKit
set_option linter.unusedSimpArgs false
set_option linter.unusedVariables false
set_option maxRecDepth 100000

/-- Letters, some of them written over. -/
def ovr (X : Nat → Value) : List (Nat × Value) → Nat → Value
  | [], j => X j
  | (k, v) :: l, j => if Nat.beq j k then v else ovr X l j
def nmb (j : Nat) : Bool := !(Nat.beq j 6 || Nat.beq j 7 || Nat.beq j 25 || Nat.beq j 31)
def PL (X : Nat → Value) : Prop := ∀ j, nmb j = true → wfV noB (X j) = true
def plB (l : List (Nat × Value)) : Bool := l.all fun e => !nmb e.1 || wfV noB e.2
theorem PL.ovr {X : Nat → Value} (h : PL X) : ∀ {l : List (Nat × Value)}, plB l = true → PL (Go.Proofs.Ytlioffkonfkflaa.ovr X l)
  | [], _ => h
  | (k, v) :: l, hl => by
    simp only [plB, List.all_cons, Bool.and_eq_true] at hl
    have ih : PL (Go.Proofs.Ytlioffkonfkflaa.ovr X l) := PL.ovr h hl.2
    intro j hj
    unfold Go.Proofs.Ytlioffkonfkflaa.ovr
    split
    · rename_i e
      have e := Nat.eq_of_beq_eq_true e
      subst e
      have := hl.1
      rw [hj] at this
      exact this
    · exact ih j hj
noncomputable def b105 : Code := match Try.f21.body with | some c => c | none => .skip
noncomputable def VZ : Code := cB (cB (cB b105))
noncomputable def VL : Code := cK (cK (cB (cA VZ)))
noncomputable def VR : Code := cK (cA (cB VL))
theorem b105_eq : Try.f21.body = some (.seq (cA b105) (.seq (cA (cB b105)) (.seq (cA (cB (cB b105))) (.seq (.seq (cA (cA VZ)) (.block 0 (.loop VL))) (cB VZ))))) := by kernel_rfl
theorem VL_eq : VL = .seq (cA VL) (.seq (.block 1 (.seq (cA VR) (.seq (cA (cB VR)) (cB (cB VR))))) (cB (cB VL))) := by kernel_rfl
def TF (a : Nat) (i : Int) (X : Nat → Value) : List Value := [wv a, ptr 3000, ptr 3001, i6 0, ptr 3002, i6 i, X 6, X 7, X 8, X 9, X 10, X 11, X 12, X 13, X 14, X 15, X 16, X 17, X 18, X 19, X 20, X 21, X 22, X 23, X 24, X 25, X 26, X 27, X 28, X 29, X 30, X 31, X 32, X 33, X 34, X 35, X 36, X 37, X 38, X 39, X 40, X 41, X 42, X 43, X 44, X 45, X 46, X 47]
def TG (a : Nat) (i : Int) (X : Nat → Value) : List Value := [wv a, ptr 3000, ptr 3001, i6 0, ptr 3002, i6 i, ptr 4000, X 7, X 8, X 9, X 10, X 11, X 12, X 13, X 14, X 15, X 16, X 17, X 18, X 19, X 20, X 21, X 22, X 23, X 24, X 25, X 26, X 27, X 28, X 29, X 30, X 31, X 32, X 33, X 34, X 35, X 36, X 37, X 38, X 39, X 40, X 41, X 42, X 43, X 44, X 45, X 46, X 47]
def TK (a : Nat) (i : Int) (X : Nat → Value) : List Value := [wv a, ptr 3000, ptr 3001, i6 0, ptr 3002, i6 i, ptr 4000, ptr 4001, X 8, X 9, X 10, X 11, X 12, X 13, X 14, X 15, X 16, X 17, X 18, X 19, X 20, X 21, X 22, X 23, X 24, X 25, X 26, X 27, X 28, X 29, X 30, X 31, X 32, X 33, X 34, X 35, X 36, X 37, X 38, X 39, X 40, X 41, X 42, X 43, X 44, X 45, X 46, X 47]
def TP (k l a : Nat) (i : Int) (q : Nat) (X : Nat → Value) : List Value := [wv a, ptr 3000, ptr 3001, i6 0, ptr 3002, i6 i, ptr k, ptr l, X 8, X 9, X 10, X 11, X 12, X 13, X 14, X 15, X 16, X 17, X 18, X 19, X 20, X 21, X 22, X 23, X 24, pto k q, X 26, X 27, X 28, X 29, X 30, pto k q, X 32, X 33, X 34, X 35, X 36, X 37, X 38, X 39, X 40, X 41, X 42, X 43, X 44, X 45, X 46, X 47]
def HVe (a r : Nat) : Hp := [(3000, pw a), (3001, pw 0), (3002, pw r)]
def HVf (a r : Nat) : Hp := [(3000, pw a), (3001, pw 0), (3002, pw r), (5000, deadO), (5001, deadO)]
def HVs (a r s x : Nat) : Hp := [(3002, pw r), (4001, pw s), (4000, pw x), (3000, pw a), (3001, pw 0), (5000, deadO), (5001, deadO)]
section
variable (a r x s L q : Nat) (i c : Int) (o : Bool) (X : Nat → Value)
theorem vq_0 : runNS Try.prog 3000 (cA b105) (frame0 Try.f21 #[wv a]) [] [] [] [] = some (.normal, [wv a, ptr 3000, ptr 3001, i6 0] ++ List.replicate 44 ud, [(3001, pw 0), (3000, pw a)], []) := by kernel_rfl
theorem vq_1 : runNS Try.prog 3002 (cA (cB b105)) ([wv a, ptr 3000, ptr 3001, i6 0] ++ List.replicate 44 ud) [(3001, pw 0), (3000, pw a)] [f] [(45, rt (i6 i))] [] = some (.normal, [wv a, ptr 3000, ptr 3001, i6 0, ud, ud, ud, ud, ud, wv a, i6 i, bb (decide (i < 0))] ++ List.replicate 36 ud, [(3001, pw 0), (3000, pw a)], [PureX Try.prog 45 #[wv a] (rt (i6 i)), decide (i < 0) = false]) := by kernel_rfl
theorem vq_2 : runNS Try.prog 3002 (cA (cB (cB b105))) ([wv a, ptr 3000, ptr 3001, i6 0, ud, ud, ud, ud, ud, wv a, i6 i, bb o] ++ List.replicate 36 ud) [(3001, pw 0), (3000, pw a)] [] [] [] = some (.normal, [wv a, ptr 3000, ptr 3001, i6 0, ptr 3002, ud, ud, ud, ud, wv a, i6 i, bb o] ++ List.replicate 36 ud, [(3002, pw 0), (3001, pw 0), (3000, pw a)], []) := by kernel_rfl
def XV0 : Nat → Value := ovr (fun _ => ud) [(9, wv a), (10, i6 i), (11, bb o), (13, wv a), (14, i6 (Int.ofNat L)), (15, i6 (IntKind.i64.wrap (Int.ofNat (L / 2))))]
theorem vq_3 : runNS Try.prog 3003 (cA (cA VZ)) ([wv a, ptr 3000, ptr 3001, i6 0, ptr 3002, ud, ud, ud, ud, wv a, i6 i, bb o] ++ List.replicate 36 ud) [(3002, pw 0), (3001, pw 0), (3000, pw a)] [] [(66, rt (i6 (Int.ofNat L)))] [] = some (.normal, TF a (IntKind.i64.wrap (Int.ofNat (L / 2))) (XV0 a L i o), [(3002, pw 0), (3001, pw 0), (3000, pw a)], [PureX Try.prog 66 #[wv a] (rt (i6 (Int.ofNat L)))]) := by kernel_rfl
theorem vq_t : runNS Try.prog 4000 (cA VL) (TF a i X) (HVf a r) [t] [] [] = some (.normal, TF a i (ovr X [(16, i6 i), (17, bb (decide (0 ≤ i)))]), HVf a r, [decide (0 ≤ i) = true]) := by kernel_rfl
theorem vq_f : runNS Try.prog 4000 VL (TF a i X) (HVf a r) [f] [] [] = some (.exit 0, TF a i (ovr X [(16, i6 i), (17, bb (decide (0 ≤ i)))]), HVf a r, [decide (0 ≤ i) = false]) := by kernel_rfl
theorem vq_7 : runNS Try.prog 4000 (cA VR) (TF a i X) (HVf a r) [] [] [] = some (.normal, TG a i (ovr X [(20, wv r)]), (4000, pw r) :: HVf a r, []) := by kernel_rfl
def xov : List (Nat × Value) := [(8, bb true), (32, tp [wv s, bb true]), (33, wv x), (34, wv x), (35, tp [wv s, bb true]), (36, wv s), (37, bb true), (38, bb true), (39, bb false), (40, bb false), (41, ud), (42, ud), (43, ud), (44, ud), (45, bb false)]
def xnv : List (Nat × Value) := [(8, bb false), (32, tp [wv s, bb false]), (33, wv x), (34, wv x), (35, tp [wv s, bb false]), (36, wv s), (37, bb false), (38, bb false), (39, bb true), (40, bb true), (41, wv s), (42, wv a), (43, i6 c), (44, bb (decide (c ≤ 0))), (45, bb (decide (c ≤ 0)))]
theorem vq_o : runNS Try.prog 4001 (cB (cB VR)) (TG a i X) ((4000, pw x) :: HVf a r) [] [(59, rt (tp [wv s, bb true]))] [] = some (.normal, TK a i (ovr X (xov x s)), (4001, pw s) :: (4000, pw x) :: HVf a r, [PureX Try.prog 59 #[wv x, wv x] (rt (tp [wv s, bb true]))]) := by kernel_rfl
theorem vq_y : runNS Try.prog 4001 (cB (cB VR)) (TG a i X) ((4000, pw x) :: HVf a r) [n, n, n, n, t] [(59, rt (tp [wv s, bb false])), (47, rt (i6 c))] [] = some (.normal, TK a i (ovr X ((46, wv x) :: xnv a x s c)), HVs a x s x, [PureX Try.prog 59 #[wv x, wv x] (rt (tp [wv s, bb false])), PureX Try.prog 47 #[wv s, wv a] (rt (i6 c)), decide (c ≤ 0) = true]) := by kernel_rfl
theorem vq_n : runNS Try.prog 4001 (cB (cB VR)) (TG a i X) ((4000, pw x) :: HVf a r) [n, n, n, n, f] [(59, rt (tp [wv s, bb false])), (47, rt (i6 c))] [] = some (.normal, TK a i (ovr X (xnv a x s c)), (4001, pw s) :: (4000, pw x) :: HVf a r, [PureX Try.prog 59 #[wv x, wv x] (rt (tp [wv s, bb false])), PureX Try.prog 47 #[wv s, wv a] (rt (i6 c)), decide (c ≤ 0) = false]) := by kernel_rfl
def xiv (i : Int) : List (Nat × Value) := [(18, i6 i), (19, i6 (IntKind.i64.wrap (i - 1)))]
theorem vq_i : runNS Try.prog 4002 (cB (cB VL)) (TK a i X) ((4001, pw s) :: (4000, pw x) :: HVf a r) [] [] [] = some (.normal, TK a (IntKind.i64.wrap (i - 1)) (ovr X (xiv i)), (4001, pw s) :: (4000, pw x) :: HVf a r, []) := by kernel_rfl
theorem vq_j : runNS Try.prog 4002 (cB (cB VL)) (TK a i X) (HVs a r s x) [] [] [] = some (.normal, TK a (IntKind.i64.wrap (i - 1)) (ovr X (xiv i)), HVs a r s x, []) := by kernel_rfl
theorem vq_e : ∃ T H, runNS Try.prog 6000 (cB VZ) (TF a i X) (HVf a r) [] [] [] = some (.ret, T, H, []) ∧ vresults Try.prog Try.f21 T H = some (tp [wv r, i6 0]) := ⟨_, _, rfl, rfl⟩
theorem vq_neg : runB Try.prog 21 #[wv a] [] [t] [(45, rt (i6 i))] [] = some (rt (tp [wv 0, i6 2]), [], [PureX Try.prog 45 #[wv a] (rt (i6 i)), decide (i < 0) = true]) := by kernel_rfl
end
abbrev rhV : Nat → Nat := rho [(5000, 4000), (5001, 4001)]

theorem tp_ren {X : Nat → Value} (h : PL X) (a : Nat) (i : Int) (q : Nat) : renL (rnm rhV) (TP 5000 5001 a i q X) = TP 4000 4001 a i q X := by
  have hx : ∀ j, nmb j = true → ren (rnm rhV) (X j) = X j := fun j hj => ren_plain _ (h j hj)
  have e : renL (rnm rhV) (TP 5000 5001 a i q X) = [wv a, ptr 3000, ptr 3001, i6 0, ptr 3002, i6 i, ptr 4000, ptr 4001, ren (rnm rhV) (X 8), ren (rnm rhV) (X 9), ren (rnm rhV) (X 10), ren (rnm rhV) (X 11), ren (rnm rhV) (X 12), ren (rnm rhV) (X 13), ren (rnm rhV) (X 14), ren (rnm rhV) (X 15), ren (rnm rhV) (X 16), ren (rnm rhV) (X 17), ren (rnm rhV) (X 18), ren (rnm rhV) (X 19), ren (rnm rhV) (X 20), ren (rnm rhV) (X 21), ren (rnm rhV) (X 22), ren (rnm rhV) (X 23), ren (rnm rhV) (X 24), pto 4000 q, ren (rnm rhV) (X 26), ren (rnm rhV) (X 27), ren (rnm rhV) (X 28), ren (rnm rhV) (X 29), ren (rnm rhV) (X 30), pto 4000 q, ren (rnm rhV) (X 32), ren (rnm rhV) (X 33), ren (rnm rhV) (X 34), ren (rnm rhV) (X 35), ren (rnm rhV) (X 36), ren (rnm rhV) (X 37), ren (rnm rhV) (X 38), ren (rnm rhV) (X 39), ren (rnm rhV) (X 40), ren (rnm rhV) (X 41), ren (rnm rhV) (X 42), ren (rnm rhV) (X 43), ren (rnm rhV) (X 44), ren (rnm rhV) (X 45), ren (rnm rhV) (X 46), ren (rnm rhV) (X 47)] := by kernel_rfl
  rw [e, hx 8 rfl, hx 9 rfl, hx 10 rfl, hx 11 rfl, hx 12 rfl, hx 13 rfl, hx 14 rfl, hx 15 rfl, hx 16 rfl, hx 17 rfl, hx 18 rfl, hx 19 rfl, hx 20 rfl, hx 21 rfl, hx 22 rfl, hx 23 rfl, hx 24 rfl, hx 26 rfl, hx 27 rfl, hx 28 rfl, hx 29 rfl, hx 30 rfl, hx 32 rfl, hx 33 rfl, hx 34 rfl, hx 35 rfl, hx 36 rfl, hx 37 rfl, hx 38 rfl, hx 39 rfl, hx 40 rfl, hx 41 rfl, hx 42 rfl, hx 43 rfl, hx 44 rfl, hx 45 rfl, hx 46 rfl, hx 47 rfl]
  rfl
theorem tp_wf {X : Nat → Value} (h : PL X) (a r : Nat) (i : Int) (q : Nat) : wfL (domB (HVf a r)) (TP 5000 5001 a i q X) = true := by
  have hx : ∀ j, nmb j = true → wfV (domB (HVf a r)) (X j) = true := fun j hj => wfV_mono (fun i hi => by cases hi) _ (h j hj)
  rw [wfL_all]
  intro v hv
  simp only [TP, List.mem_cons, List.not_mem_nil, or_false] at hv
  rcases hv with rfl | rfl | rfl | rfl | rfl | rfl | rfl | rfl | rfl | rfl | rfl | rfl | rfl | rfl | rfl | rfl | rfl | rfl | rfl | rfl | rfl | rfl | rfl | rfl | rfl | rfl | rfl | rfl | rfl | rfl | rfl | rfl | rfl | rfl | rfl | rfl | rfl | rfl | rfl | rfl | rfl | rfl | rfl | rfl | rfl | rfl | rfl | rfl

  · rfl
  · rfl
  · rfl
  · rfl
  · rfl
  · rfl
  · rfl
  · rfl
  · exact hx 8 rfl
  · exact hx 9 rfl
  · exact hx 10 rfl
  · exact hx 11 rfl
  · exact hx 12 rfl
  · exact hx 13 rfl
  · exact hx 14 rfl
  · exact hx 15 rfl
  · exact hx 16 rfl
  · exact hx 17 rfl
  · exact hx 18 rfl
  · exact hx 19 rfl
  · exact hx 20 rfl
  · exact hx 21 rfl
  · exact hx 22 rfl
  · exact hx 23 rfl
  · exact hx 24 rfl
  · rfl
  · exact hx 26 rfl
  · exact hx 27 rfl
  · exact hx 28 rfl
  · exact hx 29 rfl
  · exact hx 30 rfl
  · rfl
  · exact hx 32 rfl
  · exact hx 33 rfl
  · exact hx 34 rfl
  · exact hx 35 rfl
  · exact hx 36 rfl
  · exact hx 37 rfl
  · exact hx 38 rfl
  · exact hx 39 rfl
  · exact hx 40 rfl
  · exact hx 41 rfl
  · exact hx 42 rfl
  · exact hx 43 rfl
  · exact hx 44 rfl
  · exact hx 45 rfl
  · exact hx 46 rfl
  · exact hx 47 rfl
theorem ren_vs {X : Nat → Value} (h : PL X) (a r s x q : Nat) (i : Int) : Renum (HVe a 0) (TP 4000 4001 a i q X) [] (HVs a r s x) (TP 5000 5001 a i q X) [] (HVf a r) rhV :=
  renum_of (by kernel_rfl) (tp_ren h a i q) ⟨fun _ => rfl, fun _ => rfl, fun _ => rfl, fun h => (by cases h), fun h => (by cases h), trivial⟩ (by kernel_rfl) (by kernel_rfl) (tp_wf h a r i q)
theorem ren_vn {X : Nat → Value} (h : PL X) (a r s x q : Nat) (i : Int) : Renum (HVe a 0) (TP 4000 4001 a i q X) [] ((4001, pw s) :: (4000, pw x) :: HVf a r) (TP 5000 5001 a i q X) [] (HVf a r) rhV :=
  renum_of (by kernel_rfl) (tp_ren h a i q) ⟨fun _ => rfl, fun _ => rfl, fun _ => rfl, fun h => (by cases h), fun h => (by cases h), trivial⟩ (by kernel_rfl) (by kernel_rfl) (tp_wf h a r i q)
theorem ren_v0 (a L : Nat) (i j : Int) (o : Bool) : Renum (HVe a 0) (TF a j (XV0 a L i o)) [] (HVe a 0) (TF a j (XV0 a L i o)) [] (HVf a 0) (rho []) :=
  renum_of (by kernel_rfl) (by kernel_rfl) ⟨fun _ => rfl, fun _ => rfl, fun _ => rfl, fun h => (by cases h), fun h => (by cases h), trivial⟩ (by kernel_rfl) (by kernel_rfl) (by kernel_rfl)
theorem LoopI.pre {P : Program} {b : Code} {H0 : Hp} {m : Nat} {t t2 t' : List Value} {H H2 H' : Hp} {ex : Ex} {ρ : Nat → Nat} (hr : Renum H0 t [] H t2 [] H2 ρ) (h : LoopI P b H0 m t2 H2 ex t' H') : LoopI P b H0 m t H ex t' H' := by
  intro n0 A w0 β β1 a w hb hR
  exact h n0 A w0 β _ a w (fun i hi => by rw [hr.fix i hi]; exact hb i hi) (RelA.renum (H0 := H0) hR hr)

end Go.Proofs.Ytlioffkonfkflaa
