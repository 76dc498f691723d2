/- A division's floor, ceiling, whole. -/
import Derived.Test.YtpbhoamojocbpaaF10
namespace Go.Proofs.Ytpbhoamojocbpaa
open Go Go.RowKit
set_option linter.unusedSimpArgs false
set_option linter.unusedVariables false

/-- A division: times, left, by, below. -/
def DV (a b c : Nat) (s : Bool) : Value := .agg ⟨[u (a % 18446744073709551616), u (a / 18446744073709551616 % 18446744073709551616), u (a / 340282366920938463463374607431768211456 % 18446744073709551616), u (a / 6277101735386680763835789423207666416102355444464034512896 % 18446744073709551616), u (b % 18446744073709551616), u (b / 18446744073709551616 % 18446744073709551616), u (b / 340282366920938463463374607431768211456 % 18446744073709551616), u (b / 6277101735386680763835789423207666416102355444464034512896 % 18446744073709551616), u (c % 18446744073709551616), u (c / 18446744073709551616 % 18446744073709551616), u (c / 340282366920938463463374607431768211456 % 18446744073709551616), u (c / 6277101735386680763835789423207666416102355444464034512896 % 18446744073709551616), bb s]⟩
theorem qsize_raw1 (x y : Nat) (s : Int) (p : Bool) : runA Try.prog 99 #[wv x] [t] [(101, rt (.int .i64 (s))), (110, rt (tp [wv y, bb (p)]))] =
    some (rt (wv y), [PureX Try.prog 101 #[wv x] (rt (.int .i64 (s))), (decide (s < 0)) = true, PureX Try.prog 110 #[wv x] (rt (tp [wv y, bb (p)]))]) := by kernel_rfl
theorem qsize_raw2 (x : Nat) (s : Int) : runA Try.prog 99 #[wv x] [f] [(101, rt (.int .i64 (s)))] =
    some (rt (wv x), [PureX Try.prog 101 #[wv x] (rt (.int .i64 (s))), (decide (s < 0)) = false]) := by kernel_rfl
theorem exact_raw (a b c : Nat) (s : Bool) : runA Try.prog 103 #[DV a b c s] [] [] =
    some (rt (bb (eqv b 0)), []) := by kernel_rfl
theorem whole_raw1 (a b c : Nat) : runA Try.prog 102 #[DV a b c false, bb (false)] [] [] =
    some (rt (wv a), []) := by kernel_rfl
theorem whole_raw2 (a b c y : Nat) (o : Bool) : runA Try.prog 102 #[DV a b c true, bb (false)] [] [(110, rt (tp [wv y, bb (o)]))] =
    some (rt (wv y), [PureX Try.prog 110 #[wv a] (rt (tp [wv y, bb (o)]))]) := by kernel_rfl
theorem whole_raw3 (a b c y : Nat) (o : Bool) : runA Try.prog 102 #[DV a b c false, bb (true)] [] [(119, rt (tp [wv y, bb (o)]))] =
    some (rt (wv y), [PureX Try.prog 119 #[wv a, wv 1] (rt (tp [wv y, bb (o)]))]) := by kernel_rfl
theorem whole_raw4 (a b c y z : Nat) (o q : Bool) : runA Try.prog 102 #[DV a b c true, bb (true)] [] [(119, rt (tp [wv y, bb (o)])), (110, rt (tp [wv z, bb (q)]))] =
    some (rt (wv z), [PureX Try.prog 119 #[wv a, wv 1] (rt (tp [wv y, bb (o)])), PureX Try.prog 110 #[wv y] (rt (tp [wv z, bb (q)]))]) := by kernel_rfl
theorem floor_raw1 (a b c y : Nat) : runA Try.prog 54 #[DV a b c false] [] [(102, rt (wv y))] =
    some (rt (wv y), [PureX Try.prog 102 #[DV a b c false, bb (false)] (rt (wv y))]) := by kernel_rfl
theorem floor_raw2 (a b c y : Nat) (e : Bool) : runA Try.prog 54 #[DV a b c true] [] [(103, rt (bb (e))), (102, rt (wv y))] =
    some (rt (wv y), [PureX Try.prog 103 #[DV a b c true] (rt (bb (e))), PureX Try.prog 102 #[DV a b c true, bb (!(e))] (rt (wv y))]) := by kernel_rfl
theorem ceil_raw1 (a b c y : Nat) (e : Bool) : runA Try.prog 57 #[DV a b c false] [] [(103, rt (bb (e))), (102, rt (wv y))] =
    some (rt (wv y), [PureX Try.prog 103 #[DV a b c false] (rt (bb (e))), PureX Try.prog 102 #[DV a b c false, bb (!(e))] (rt (wv y))]) := by kernel_rfl
theorem ceil_raw2 (a b c y : Nat) : runA Try.prog 57 #[DV a b c true] [] [(102, rt (wv y))] =
    some (rt (wv y), [PureX Try.prog 102 #[DV a b c true, bb (false)] (rt (wv y))]) := by kernel_rfl

theorem qsize_z {z : Int} (h : inR z) : PureX Try.prog 99 #[wz z] (rt (wv z.natAbs)) := by
  have hs := sign_z h
  by_cases h0 : z < 0
  · have hn := neg_z h
    have e : wz (-z) = wv z.natAbs := by
      rw [wz_nat]
      congr 1
      omega
    rw [e] at hn
    exact runA_pure mix (qsize_raw1 (nz z) z.natAbs z.sign _) ⟨hs, decide_eq_true (Int.sign_neg_iff.2 h0), hn, trivial⟩ rfl rfl
  · have e : wz z = wv z.natAbs := by
      rw [wz_nat]
      congr 1
      omega
    have hd : decide (z.sign < 0) = false := decide_eq_false (fun c => h0 (Int.sign_neg_iff.1 c))
    have := runA_pure mix (qsize_raw2 (nz z) z.sign) ⟨hs, hd, trivial⟩ rfl rfl
    rw [← e]
    exact this
/-- What a division's whole comes to. -/
def whl (T : Nat) (s far : Bool) : Int := if s = true then -((T : Int) + if far = true then 1 else 0) else (T : Int) + if far = true then 1 else 0
theorem whole_x (T R C : Nat) (s far : Bool) : PureX Try.prog 102 #[DV T R C s, bb far] (rt (wz (whl T s far))) := by
  have ha := add_x T 1
  have hn := neg_x T
  have hn1 := neg_x (T + 1)
  have d0 := (dif_neg T).1
  have d1 := (dif_neg (T + 1)).1
  rw [d0] at hn
  rw [d1] at hn1
  have w0 := wz_nat T
  have w1 := wz_nat (T + 1)
  unfold whl
  cases s <;> cases far <;> simp only [if_true, if_false, Bool.false_eq_true, Int.add_zero]
  · rw [← w0]
    exact runA_pure mix (whole_raw1 T R C) trivial rfl rfl
  · rw [show (T : Int) + 1 = ((T + 1 : Nat) : Int) by omega, ← w1]
    exact runA_pure mix (whole_raw3 T R C (T + 1) (addO T 1)) ⟨ha, trivial⟩ rfl rfl
  · exact runA_pure mix (whole_raw2 T R C (nz (-(T : Int))) (subO 0 T)) ⟨hn, trivial⟩ rfl rfl
  · rw [show -((T : Int) + 1) = -((T + 1 : Nat) : Int) by omega]
    exact runA_pure mix (whole_raw4 T R C (T + 1) (nz (-((T + 1 : Nat) : Int))) (addO T 1) (subO 0 (T + 1))) ⟨ha, hn1, trivial⟩ rfl rfl
theorem exact_x (T R C : Nat) (s : Bool) : PureX Try.prog 103 #[DV T R C s] (rt (bb (decide (R % Mw = 0)))) := by
  have h := runA_pure mix (exact_raw T R C s) trivial rfl rfl
  rw [eqv_dec, Nat.zero_mod] at h
  exact h
theorem floor_x (T R C : Nat) (s : Bool) : PureX Try.prog 54 #[DV T R C s] (rt (wz (whl T s (s && !(decide (R % Mw = 0)))))) := by
  have he := exact_x T R C s
  generalize decide (R % Mw = 0) = e at he ⊢
  cases s
  · exact runA_pure mix (floor_raw1 T R C _) ⟨whole_x T R C false false, trivial⟩ rfl rfl
  · simp only [Bool.true_and]
    exact runA_pure mix (floor_raw2 T R C _ e) ⟨he, whole_x T R C true (!e), trivial⟩ rfl rfl
theorem ceil_x (T R C : Nat) (s : Bool) : PureX Try.prog 57 #[DV T R C s] (rt (wz (whl T s (!s && !(decide (R % Mw = 0)))))) := by
  have he := exact_x T R C s
  generalize decide (R % Mw = 0) = e at he ⊢
  cases s
  · simp only [Bool.not_false, Bool.true_and]
    exact runA_pure mix (ceil_raw1 T R C _ e) ⟨he, whole_x T R C false (!e), trivial⟩ rfl rfl
  · simp only [Bool.not_true, Bool.false_and]
    exact runA_pure mix (ceil_raw2 T R C _) ⟨whole_x T R C true false, trivial⟩ rfl rfl

end Go.Proofs.Ytpbhoamojocbpaa
