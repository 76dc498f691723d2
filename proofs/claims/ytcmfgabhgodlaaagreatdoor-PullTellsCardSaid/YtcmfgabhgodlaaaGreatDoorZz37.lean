/- Texts of the seat, joined. -/
import Derived.Test.YtcmfgabhgodlaaaGreatDoorZz36
import Derived.Test.YtcmfgabhgodlaaaGreatDoorZz32
/- The document's roots, and the program's where there is none: fractions, ints. -/
namespace Go.Proofs.YtcmfgabhgodlaaaGreatDoor
open Go Go.RowKit
set_option linter.unusedSimpArgs false
set_option linter.unusedVariables false
set_option maxRecDepth 100000

section
variable (a b c d g r s q m : Nat) (x y k e v j : Int) (p o : Bool)
theorem dint_raw  : runB Tryz.prog 23 #[wv a] [] [f] [(39, rt (wv b))] [] =
    some (rt (tp [ii (IntKind.i64.wrap (Int.ofNat (a % 18446744073709551616))), bb true]), [], [PureX Tryz.prog 39 #[ii (IntKind.i64.wrap (Int.ofNat (a % 18446744073709551616)))] (rt (wv b)), (!(eqv b a)) = false]) := by kernel_rfl
theorem dint_not  : runB Tryz.prog 23 #[wv a] [] [t] [(39, rt (wv b))] [] =
    some (rt (tp [ii 0, bb false]), [], [PureX Tryz.prog 39 #[ii (IntKind.i64.wrap (Int.ofNat (a % 18446744073709551616)))] (rt (wv b)), (!(eqv b a)) = true]) := by kernel_rfl
theorem dof_0  : runB Tryz.prog 40 #[wv a, wv b] [] [t] [] [] =
    some (rt (tp [wv b, ii 30]), [], [eqv b 0 = true]) := by kernel_rfl
theorem dof_n1  : runB Tryz.prog 40 #[wv a, wv b] [] [f, t, n, n, n] [(59, rt (ii x))] [] =
    some (rt (tp [wv 0, ii 2]), [], [eqv b 0 = false, PureX Tryz.prog 59 #[wv a] (rt (ii x)), decide (x < 0) = true]) := by kernel_rfl
theorem dof_n2  : runB Tryz.prog 40 #[wv a, wv b] [] [f, f, n, n, t] [(59, rt (ii x)), (59, rt (ii y))] [] =
    some (rt (tp [wv 0, ii 2]), [], [eqv b 0 = false, PureX Tryz.prog 59 #[wv a] (rt (ii x)), decide (x < 0) = false, PureX Tryz.prog 59 #[wv b] (rt (ii y)), decide (y < 0) = true]) := by kernel_rfl
theorem dof_ok  : runB Tryz.prog 40 #[wv a, wv b] [] [f, f, n, n, f, n] [(59, rt (ii x)), (59, rt (ii y)), (42, rt (tp [wv q, ii 0])), (60, rt (tp [wv r, ii 0]))] [] =
    some (rt (tp [wv r, ii 0]), [], [eqv b 0 = false, PureX Tryz.prog 59 #[wv a] (rt (ii x)), decide (x < 0) = false, PureX Tryz.prog 59 #[wv b] (rt (ii y)), decide (y < 0) = false, PureX Tryz.prog 42 #[wv a, wv b] (rt (tp [wv q, ii 0])), PureX Tryz.prog 60 #[wv q] (rt (tp [wv r, ii 0]))]) := by kernel_rfl
theorem dha_2  : runB Tryz.prog 22 #[wv a, wv b] [] [] [(40, rt (tp [wv r, ii 2]))] [] =
    some (rt (tp [wv 0, ii 2]), [], [PureX Tryz.prog 40 #[wv a, wv b] (rt (tp [wv r, ii 2]))]) := by kernel_rfl
theorem dha_30  : runB Tryz.prog 22 #[wv a, wv b] [] [] [(40, rt (tp [wv r, ii 30]))] [] =
    some (rt (tp [wv 0, ii 30]), [], [PureX Tryz.prog 40 #[wv a, wv b] (rt (tp [wv r, ii 30]))]) := by kernel_rfl
theorem dha_ok  : runB Tryz.prog 22 #[wv a, wv b] [] [] [(40, rt (tp [wv r, ii 0])), (39, rt (wv s)), (41, rt (tp [wv q, bb o])), (39, rt (wv d)), (42, rt (tp [wv m, ii 0]))] [] =
    some (rt (tp [wv m, ii 0]), [], [PureX Tryz.prog 40 #[wv a, wv b] (rt (tp [wv r, ii 0])), PureX Tryz.prog 39 #[ii 1] (rt (wv s)), PureX Tryz.prog 41 #[wv r, wv s] (rt (tp [wv q, bb o])), PureX Tryz.prog 39 #[ii 2] (rt (wv d)), PureX Tryz.prog 42 #[wv q, wv d] (rt (tp [wv m, ii 0]))]) := by kernel_rfl
end
theorem wrap_nz {x : Int} (hx : inR x) : isI (IntKind.i64.wrap (Int.ofNat (nz x % 18446744073709551616))) ∧ (isI x → IntKind.i64.wrap (Int.ofNat (nz x % 18446744073709551616)) = x) := by
  obtain ⟨y, hy⟩ : ∃ y, IntKind.i64.wrap (Int.ofNat (nz x % 18446744073709551616)) = y := ⟨_, rfl⟩
  rw [hy]
  have hc := nz_cast x
  unfold Mw at hc
  rw [IntKind.wrap_i64, show Int.ofNat (nz x % 18446744073709551616) = (nz x : Int) % 18446744073709551616 by simp, hc] at hy
  unfold isI
  unfold inR at hx
  subst hy
  rw [Int.emod_emod_of_dvd _ (by decide)]
  omega
theorem dint_ok {x : Int} (h : isI x) : PureX Tryz.prog 23 #[wz x] (rt (tp [ii x, bb true])) := by
  obtain ⟨h1, h2⟩ := wrap_nz (isI_R h)
  have ho := rof_z h.1 h.2
  have he := eqv_z (isI_R h) (isI_R h)
  have r := runB_pure mix (dint_raw (nz x) (nz x)) ⟨by rw [h2 h]; exact ho, by rw [he, decide_eq_true rfl]; rfl, trivial⟩ rfl rfl
  rw [h2 h] at r
  exact r
theorem dint_no {x : Int} (hx : inR x) (h : ¬ isI x) : PureX Tryz.prog 23 #[wz x] (rt (tp [ii 0, bb false])) := by
  obtain ⟨h1, h2⟩ := wrap_nz hx
  obtain ⟨y, hy⟩ : ∃ y, IntKind.i64.wrap (Int.ofNat (nz x % 18446744073709551616)) = y := ⟨_, rfl⟩
  rw [hy] at h1
  have he := eqv_z (isI_R h1) hx
  have hne : ¬ y = x := fun e => h (by rw [← e]; exact h1)
  exact runB_pure mix (dint_not (nz x) (nz y)) ⟨by rw [hy]; exact rof_z h1.1 h1.2, by rw [he, decide_eq_false hne]; rfl, trivial⟩ rfl rfl
theorem isq_in {x : Nat} (hx : x < 57896044618658097711785492504343953926634992332820282019728792003956564819968) : isq x + 1 < 57896044618658097711785492504343953926634992332820282019728792003956564819968 := Nat.lt_of_le_of_lt (isq_lt hx) (by decide)
def upq (x : Nat) : Nat := if isq x * isq x = x then isq x else isq x + 1
theorem rof_1 {a b : Int} (ha : inR a) (hb : inR b) (h0 : b ≠ 0) (h : a < 0 ∨ b < 0) : PureX Tryz.prog 52 #[wz a, wz b] (errs 2) := by
  have e0 := eqv_false hb (y := 0) (by decide) h0
  by_cases h1 : a < 0
  · exact runA_pure mix (of_p1 (nz a) (nz b) 2) ⟨e0, ref_pan ha h1, trivial⟩ rfl rfl
  · exact runA_pure mix (of_p2 (nz a) (nz b) 2) ⟨e0, ref_ok ha (by omega), ref_pan hb (by omega), trivial⟩ rfl rfl
theorem sg_neg {a : Int} (h : a < 0) : decide (a.sign < 0) = true := by rw [Int.sign_eq_neg_one_of_neg h]; rfl
theorem sg_non {a : Int} (h : ¬ a < 0) : decide (a.sign < 0) = false := by
  rcases (show a = 0 ∨ 0 < a by omega) with h | h
  · rw [h]; rfl
  · rw [Int.sign_eq_one_of_pos h]; rfl
theorem eqv_self (x : Nat) : eqv x x = true := by rw [eqv_dec]; exact decide_eq_true rfl
end Go.Proofs.YtcmfgabhgodlaaaGreatDoor
