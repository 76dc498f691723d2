/- CoefBack: its rounds. -/
import Derived.Test.YtcjjckokaiobcaaDoorZz11
import Derived.Test.YtcjjckokaiobcaaDoorZz7
namespace Go.Proofs.YtcjjckokaiobcaaDoor
open Go Go.RowKit
set_option linter.unusedSimpArgs false
set_option linter.unusedVariables false
set_option maxRecDepth 100000

/-- Numbers changed there and back. -/
theorem renum_swap {H0 H1 H2 : Hp} {t1 : List Value} {ρ σ : Nat → Nat} (p : Nat → Bool) (hp : ∀ i, p i = true → ρ (σ i) = i) (hpl : wfL p t1 = true) (hfix : H0.all (fun e => ρ e.1 == e.1) = true) (hat : AtOK H1 ρ H2) (hinj : injB ρ (liveKs H2) = true) (hwf : closedH H2 = true) (hwt : wfL (domB H2) (renL (rnm σ) t1) = true) :
    Renum H0 t1 [] H1 (renL (rnm σ) t1) [] H2 ρ := by
  refine renum_of hfix ?_ hat hinj hwf hwt
  rw [renL_comp]
  have e : renL (fun i => rnm ρ (σ i)) t1 = renL idN t1 := renL_congr (fun i hi => by show (ρ (σ i), capU) = _; rw [hp i hi]; rfl) t1 hpl
  rw [e]
  have := renA_id (⟨t1⟩ : Array Value)
  simpa [renA] using this
noncomputable def b5 : Code := match Tryd.f5.body with | some c => c | none => .skip
noncomputable def L5 : Code := cK (cK (cB (pcx 4 b5)))
theorem b5_eq : Tryd.f5.body = some (.seq (pcx 0 b5) (.seq (pcx 1 b5) (.seq (pcx 2 b5) (.seq (pcx 3 b5) (.seq (.seq (cA (pcx 4 b5)) (.block 0 (.loop L5))) (cB (cB (cB (cB (cB b5)))))))))) := by kernel_rfl
def F5 (off n' cap : Nat) (i : Int) (X : Nat → Value) : List Value := [slw 1 off n' cap, ud, bb false, slw 9000 0 n' capU, ii i, X 5, slw 1 off n' cap, ii n', bb (decide (60 < (n' : Int))), ud, slw 1 off n' cap, slw 9000 0 n' capU, slw 9000 0 n' capU, ii n', slw 1 off n' cap, ii n', bb ((n' : Int) != (n' : Int)), bb false, slw 9000 0 n' capU, slw 9001 0 n' capU, slw 1 off n' cap, bb true, bb (!true), bb (!true), X 24, X 25, X 26, X 27, X 28, X 29, X 30, X 31, X 32, X 33, X 34, X 35, X 36, X 37, X 38, X 39, X 40, X 41, X 42, X 43, X 44, X 45, X 46, X 47, X 48, X 49, X 50, X 51, X 52, X 53, X 54, X 55, X 56, X 57, X 58, X 59, X 60, X 61, X 62, X 63, X 64, X 65, X 66, X 67, X 68, X 69, X 70, X 71, X 72, X 73, X 74, X 75, X 76, X 77, X 78, X 79, X 80, X 81, X 82, X 83, X 84, X 85, X 86, X 87, X 88, X 89, X 90, ud]
abbrev B5 (off : Nat) (c : Array Value) (A B : List Value) : Hp := [(9001, opq 3 ⟨B⟩ 24), (1, win off c), (9000, opq 3 ⟨A⟩ 24)]
abbrev H5 (off : Nat) (c : Array Value) (A B : List Value) : Hp := [(5000, deadO), (9001, opq 3 ⟨B⟩ 24), (9000, opq 3 ⟨A⟩ 24), (1, win off c)]
theorem F5_ren (off n' cap : Nat) (i : Int) (X : Nat → Value) : renL (rnm (rho [(4000, 5000)])) (F5 off n' cap i X) = F5 off n' cap i (fun j => ren (rnm (rho [(4000, 5000)])) (X j)) := by
  unfold F5
  simp only [renL, ren_slw]
  kernel_rfl
theorem F5_ren0 (off n' cap : Nat) (i : Int) (X : Nat → Value) : renL (rnm (rho [])) (F5 off n' cap i X) = F5 off n' cap i (fun j => ren (rnm (rho [])) (X j)) := by
  unfold F5
  simp only [renL, ren_slw]
  kernel_rfl
section
variable (off n' cap : Nat) (c : Array Value) (i : Int) (X : Nat → Value) (o : Op3) (A B : List Value) (r : Bool)
/-- How far from the end. -/
abbrev jx (n' : Nat) (i : Int) : Int := wi (wi (n' - 1) - i)
def ow5 (v : Bool) : List Prop := [decide (i < (n' : Int)) = true, 0 ≤ jx n' i ∧ jx n' i < (n' : Int), ((⟨A⟩ : Array Value).toList.drop (0 + (jx n' i).toNat * 3)).take 3 = flO (ngO o), ixO i n', off ≤ off + i.toNat * 3, c[off + i.toNat * 3]? = some (uu o.1), (o.1 != o.1) = false,
  ixO i n', off ≤ off + i.toNat * 3 + 2, c[off + i.toNat * 3 + 2]? = some (ii o.2.2), (o.2.2 != o.2.2) = false, ixO i n', off ≤ off + i.toNat * 3 + 1, c[off + i.toNat * 3 + 1]? = some (ii o.2.1), (wi (0 - o.2.1) != wi (0 - o.2.1)) = false,
  ixO i n', off ≤ off + i.toNat * 3 + 1, c[off + i.toNat * 3 + 1]? = some (ii o.2.1), ixO i n', off ≤ off + i.toNat * 3 + 1, c[off + i.toNat * 3 + 1]? = some (ii o.2.1), (o.2.1 != wi (0 - o.2.1)) = v]
def ow5A : List Prop := [PureX Tryd.prog 19 #[ov (ngO o)] (rt (bb r)), ixO i n', off ≤ off + i.toNat * 3, (c.toList.drop (off + i.toNat * 3)).take 3 = flO o, PureX Tryd.prog 19 #[ov o] (rt (bb r)), (!(r == r)) = false]
noncomputable abbrev rA5 : Option (Ex × List Value × Hp × List Prop) := runLS Tryd.prog 4000 L5 (F5 off n' cap i X) (H5 off c A B) [t, f, n, n, n, n, n, n, n, f, n, n, n, n, n, n, n, n, f, n, n, n, n, n, n, n, n, n, n, n, n, t, n, n, n, n, n, n, n, n, f] [(19, rt (bb r)), (19, rt (bb r))] [] [flO (ngO o), [uu o.1], [ii o.2.2], [ii o.2.1], [ii o.2.1], [ii o.2.1], flO o]
noncomputable abbrev rB5 : Option (Ex × List Value × Hp × List Prop) := runLS Tryd.prog 4000 L5 (F5 off n' cap i X) (H5 off c A B) [t, f, n, n, n, n, n, n, n, f, n, n, n, n, n, n, n, n, f, n, n, n, n, n, n, n, n, n, n, n, n, f, n, n, n, n, n, n, n, n, n] [] [] [flO (ngO o), [uu o.1], [ii o.2.2], [ii o.2.1], [ii o.2.1], [ii o.2.1]]
theorem t5_A : rA5 off n' cap c i X o A B r = some (.normal, F5 off n' cap (wi (i + 1)) (lt (rA5 off n' cap c i X o A B r)), [(4000, .cells ⟨flO (ngO o)⟩ 24 (0, 0)), (5000, deadO), (9001, opq 3 ⟨B⟩ 24), (9000, opq 3 ⟨A⟩ 24), (1, win off c)], ow5 off n' c i o A true ++ ow5A off n' c i o r) := by kernel_rfl
theorem t5_B : rB5 off n' cap c i X o A B = some (.normal, F5 off n' cap (wi (i + 1)) (lt (rB5 off n' cap c i X o A B)), [(4000, .cells ⟨flO (ngO o)⟩ 24 (0, 0)), (5000, deadO), (9001, opq 3 ⟨B⟩ 24), (9000, opq 3 ⟨A⟩ 24), (1, win off c)], ow5 off n' c i o A false) := by kernel_rfl
theorem t5_x : ∃ Y, runLS Tryd.prog 4000 L5 (F5 off n' cap i X) (H5 off c A B) [f] [] [] [] = some (.exit 0, F5 off n' cap i Y, H5 off c A B, [decide (i < (n' : Int)) = false]) := ⟨lt (runLS Tryd.prog 4000 L5 (F5 off n' cap i X) (H5 off c A B) [f] [] [] []), by kernel_rfl⟩
def p5 (i : Nat) : Bool := i == 1 || (i == 4000 || (i == 9000 || i == 9001))
theorem p5_ok (i : Nat) (h : p5 i = true) : rho [(5000, 4000)] (rho [(4000, 5000)] i) = i := by
  simp only [p5, Bool.or_eq_true, beq_iff_eq] at h
  rcases h with rfl | rfl | rfl | rfl <;> rfl
theorem w5_A : wfL p5 (F5 off n' cap (wi (i + 1)) (lt (rA5 off n' cap c i X o A B r))) = true := by kernel_rfl
theorem w5_B : wfL p5 (F5 off n' cap (wi (i + 1)) (lt (rB5 off n' cap c i X o A B))) = true := by kernel_rfl
theorem v5_A : wfL (domB (H5 off c A B)) (renL (rnm (rho [(4000, 5000)])) (F5 off n' cap (wi (i + 1)) (lt (rA5 off n' cap c i X o A B r)))) = true := by kernel_rfl
theorem v5_B : wfL (domB (H5 off c A B)) (renL (rnm (rho [(4000, 5000)])) (F5 off n' cap (wi (i + 1)) (lt (rB5 off n' cap c i X o A B)))) = true := by kernel_rfl
theorem a5 : AtOK [(4000, .cells ⟨flO (ngO o)⟩ 24 (0, 0)), (5000, deadO), (9001, opq 3 ⟨B⟩ 24), (9000, opq 3 ⟨A⟩ 24), (1, win off c)] (rho [(5000, 4000)]) (H5 off c A B) := ⟨fun h => (by cases h), fun _ => by kernel_rfl, fun _ => by kernel_rfl, fun _ => by kernel_rfl, trivial⟩
theorem rn5_A : Renum (B5 off c A B) (F5 off n' cap (wi (i + 1)) (lt (rA5 off n' cap c i X o A B r))) [] [(4000, .cells ⟨flO (ngO o)⟩ 24 (0, 0)), (5000, deadO), (9001, opq 3 ⟨B⟩ 24), (9000, opq 3 ⟨A⟩ 24), (1, win off c)] (F5 off n' cap (wi (i + 1)) (fun j => ren (rnm (rho [(4000, 5000)])) (lt (rA5 off n' cap c i X o A B r) j))) [] (H5 off c A B) (rho [(5000, 4000)]) := by
  rw [← F5_ren]
  exact renum_swap p5 p5_ok (w5_A off n' cap c i X o A B r) (by kernel_rfl) (a5 off c o A B) (by kernel_rfl) (by kernel_rfl) (v5_A off n' cap c i X o A B r)
theorem rn5_B : Renum (B5 off c A B) (F5 off n' cap (wi (i + 1)) (lt (rB5 off n' cap c i X o A B))) [] [(4000, .cells ⟨flO (ngO o)⟩ 24 (0, 0)), (5000, deadO), (9001, opq 3 ⟨B⟩ 24), (9000, opq 3 ⟨A⟩ 24), (1, win off c)] (F5 off n' cap (wi (i + 1)) (fun j => ren (rnm (rho [(4000, 5000)])) (lt (rB5 off n' cap c i X o A B) j))) [] (H5 off c A B) (rho [(5000, 4000)]) := by
  rw [← F5_ren]
  exact renum_swap p5 p5_ok (w5_B off n' cap c i X o A B) (by kernel_rfl) (a5 off c o A B) (by kernel_rfl) (by kernel_rfl) (v5_B off n' cap c i X o A B)
theorem rn5_0 : Renum (B5 off c A B) (F5 off n' cap i (fun _ => ud)) [] (B5 off c A B) (F5 off n' cap i (fun _ => ud)) [] (H5 off c A B) (rho []) := by
  have e := F5_ren0 off n' cap i (fun _ => ud)
  have e2 : (fun j : Nat => ren (rnm (rho [])) ((fun _ => ud : Nat → Value) j)) = fun _ => ud := by funext j; kernel_rfl
  rw [e2] at e
  have := renum_swap (H0 := B5 off c A B) (H1 := B5 off c A B) (H2 := H5 off c A B) (t1 := F5 off n' cap i (fun _ => ud)) (ρ := rho []) (σ := rho []) p5 (fun i _ => rfl) (by kernel_rfl) (by kernel_rfl) ⟨fun h => (by cases h), fun _ => by kernel_rfl, fun _ => by kernel_rfl, fun _ => by kernel_rfl, trivial⟩ (by kernel_rfl) (by kernel_rfl) (by kernel_rfl)
  rw [e] at this
  exact this
theorem t5_p0 : runLS Tryd.prog 4000 (pcx 0 b5) (frame0 Tryd.f5 #[slw 1 off n' cap]) ([(1, win off c)]) [] [] [] [] = some (.normal, [slw 1 off n' cap, ud, bb false, ud, ud, ud, ud, ud, ud, ud, ud, ud, ud, ud, ud, ud, ud, ud, ud, ud, ud, ud, ud, ud, ud, ud, ud, ud, ud, ud, ud, ud, ud, ud, ud, ud, ud, ud, ud, ud, ud, ud, ud, ud, ud, ud, ud, ud, ud, ud, ud, ud, ud, ud, ud, ud, ud, ud, ud, ud, ud, ud, ud, ud, ud, ud, ud, ud, ud, ud, ud, ud, ud, ud, ud, ud, ud, ud, ud, ud, ud, ud, ud, ud, ud, ud, ud, ud, ud, ud, ud, ud], [(1, win off c)], []) := by kernel_rfl
theorem t5_p1 : runLS Tryd.prog 4000 (pcx 1 b5) ([slw 1 off n' cap, ud, bb false, ud, ud, ud, ud, ud, ud, ud, ud, ud, ud, ud, ud, ud, ud, ud, ud, ud, ud, ud, ud, ud, ud, ud, ud, ud, ud, ud, ud, ud, ud, ud, ud, ud, ud, ud, ud, ud, ud, ud, ud, ud, ud, ud, ud, ud, ud, ud, ud, ud, ud, ud, ud, ud, ud, ud, ud, ud, ud, ud, ud, ud, ud, ud, ud, ud, ud, ud, ud, ud, ud, ud, ud, ud, ud, ud, ud, ud, ud, ud, ud, ud, ud, ud, ud, ud, ud, ud, ud, ud]) ([(1, win off c)]) [f] [] [] [] = some (.normal, [slw 1 off n' cap, ud, bb false, ud, ud, ud, slw 1 off n' cap, ii n', bb (decide (60 < (n' : Int))), ud, ud, ud, ud, ud, ud, ud, ud, ud, ud, ud, ud, ud, ud, ud, ud, ud, ud, ud, ud, ud, ud, ud, ud, ud, ud, ud, ud, ud, ud, ud, ud, ud, ud, ud, ud, ud, ud, ud, ud, ud, ud, ud, ud, ud, ud, ud, ud, ud, ud, ud, ud, ud, ud, ud, ud, ud, ud, ud, ud, ud, ud, ud, ud, ud, ud, ud, ud, ud, ud, ud, ud, ud, ud, ud, ud, ud, ud, ud, ud, ud, ud, ud], [(1, win off c)], [decide (60 < (n' : Int)) = false]) := by kernel_rfl
theorem t5_p2 : runLS Tryd.prog 4000 (pcx 2 b5) ([slw 1 off n' cap, ud, bb false, ud, ud, ud, slw 1 off n' cap, ii n', bb (decide (60 < (n' : Int))), ud, ud, ud, ud, ud, ud, ud, ud, ud, ud, ud, ud, ud, ud, ud, ud, ud, ud, ud, ud, ud, ud, ud, ud, ud, ud, ud, ud, ud, ud, ud, ud, ud, ud, ud, ud, ud, ud, ud, ud, ud, ud, ud, ud, ud, ud, ud, ud, ud, ud, ud, ud, ud, ud, ud, ud, ud, ud, ud, ud, ud, ud, ud, ud, ud, ud, ud, ud, ud, ud, ud, ud, ud, ud, ud, ud, ud, ud, ud, ud, ud, ud, ud]) ([(1, win off c)]) [] [] [(17, rt (slw 9000 0 n' capU), [(9000, opq 3 ⟨A⟩ 24), (1, win off c)])] [] = some (.normal, [slw 1 off n' cap, ud, bb false, slw 9000 0 n' capU, ud, ud, slw 1 off n' cap, ii n', bb (decide (60 < (n' : Int))), ud, slw 1 off n' cap, slw 9000 0 n' capU, ud, ud, ud, ud, ud, ud, ud, ud, ud, ud, ud, ud, ud, ud, ud, ud, ud, ud, ud, ud, ud, ud, ud, ud, ud, ud, ud, ud, ud, ud, ud, ud, ud, ud, ud, ud, ud, ud, ud, ud, ud, ud, ud, ud, ud, ud, ud, ud, ud, ud, ud, ud, ud, ud, ud, ud, ud, ud, ud, ud, ud, ud, ud, ud, ud, ud, ud, ud, ud, ud, ud, ud, ud, ud, ud, ud, ud, ud, ud, ud], [(9000, opq 3 ⟨A⟩ 24), (1, win off c)], [CallsV Tryd.prog (.func 17) #[slw 1 off n' cap] [(1, win off c)] (rt (slw 9000 0 n' capU)) [(9000, opq 3 ⟨A⟩ 24), (1, win off c)]]) := by kernel_rfl
theorem t5_p3 : runLS Tryd.prog 4000 (pcx 3 b5) ([slw 1 off n' cap, ud, bb false, slw 9000 0 n' capU, ud, ud, slw 1 off n' cap, ii n', bb (decide (60 < (n' : Int))), ud, slw 1 off n' cap, slw 9000 0 n' capU, ud, ud, ud, ud, ud, ud, ud, ud, ud, ud, ud, ud, ud, ud, ud, ud, ud, ud, ud, ud, ud, ud, ud, ud, ud, ud, ud, ud, ud, ud, ud, ud, ud, ud, ud, ud, ud, ud, ud, ud, ud, ud, ud, ud, ud, ud, ud, ud, ud, ud, ud, ud, ud, ud, ud, ud, ud, ud, ud, ud, ud, ud, ud, ud, ud, ud, ud, ud, ud, ud, ud, ud, ud, ud, ud, ud, ud, ud, ud, ud]) ([(9000, opq 3 ⟨A⟩ 24), (1, win off c)]) [f, n, n] [] [(17, rt (slw 9001 0 n' capU), [(9001, opq 3 ⟨B⟩ 24), (9000, opq 3 ⟨A⟩ 24)]), (16, rt (bb true), [(9001, opq 3 ⟨B⟩ 24), (1, win off c)])] [] = some (.normal, [slw 1 off n' cap, ud, bb false, slw 9000 0 n' capU, ud, ud, slw 1 off n' cap, ii n', bb (decide (60 < (n' : Int))), ud, slw 1 off n' cap, slw 9000 0 n' capU, slw 9000 0 n' capU, ii n', slw 1 off n' cap, ii n', bb ((n' : Int) != (n' : Int)), bb false, slw 9000 0 n' capU, slw 9001 0 n' capU, slw 1 off n' cap, bb true, bb (!true), bb (!true), ud, ud, ud, ud, ud, ud, ud, ud, ud, ud, ud, ud, ud, ud, ud, ud, ud, ud, ud, ud, ud, ud, ud, ud, ud, ud, ud, ud, ud, ud, ud, ud, ud, ud, ud, ud, ud, ud, ud, ud, ud, ud, ud, ud, ud, ud, ud, ud, ud, ud, ud, ud, ud, ud, ud, ud, ud, ud, ud, ud, ud, ud, ud, ud, ud, ud, ud, ud], B5 off c A B, [((n' : Int) != (n' : Int)) = false, CallsV Tryd.prog (.func 17) #[slw 9000 0 n' capU] [(9000, opq 3 ⟨A⟩ 24)] (rt (slw 9001 0 n' capU)) [(9001, opq 3 ⟨B⟩ 24), (9000, opq 3 ⟨A⟩ 24)], CallsV Tryd.prog (.func 16) #[slw 9001 0 n' capU, slw 1 off n' cap] [(9001, opq 3 ⟨B⟩ 24), (1, win off c)] (rt (bb true)) [(9001, opq 3 ⟨B⟩ 24), (1, win off c)]]) := by kernel_rfl
theorem t5_p4 : runLS Tryd.prog 4000 (cA (pcx 4 b5)) ([slw 1 off n' cap, ud, bb false, slw 9000 0 n' capU, ud, ud, slw 1 off n' cap, ii n', bb (decide (60 < (n' : Int))), ud, slw 1 off n' cap, slw 9000 0 n' capU, slw 9000 0 n' capU, ii n', slw 1 off n' cap, ii n', bb ((n' : Int) != (n' : Int)), bb false, slw 9000 0 n' capU, slw 9001 0 n' capU, slw 1 off n' cap, bb true, bb (!true), bb (!true), ud, ud, ud, ud, ud, ud, ud, ud, ud, ud, ud, ud, ud, ud, ud, ud, ud, ud, ud, ud, ud, ud, ud, ud, ud, ud, ud, ud, ud, ud, ud, ud, ud, ud, ud, ud, ud, ud, ud, ud, ud, ud, ud, ud, ud, ud, ud, ud, ud, ud, ud, ud, ud, ud, ud, ud, ud, ud, ud, ud, ud, ud, ud, ud, ud, ud, ud, ud]) (B5 off c A B) [] [] [] [] = some (.normal, F5 off n' cap 0 (fun _ => ud), B5 off c A B, []) := by kernel_rfl
theorem t5_t : ∃ T, runLS Tryd.prog 4000 (cB (cB (cB (cB (cB b5))))) (F5 off n' cap i X) (H5 off c A B) [] [(8, rt (bb true))] [] [] = some (.ret, T, H5 off c A B, [PureX Tryd.prog 8 #[] (rt (bb true))]) ∧ vresults Tryd.prog Tryd.f5 T (H5 off c A B) = some (bb true) := ⟨tmpsOf (runLS Tryd.prog 4000 (cB (cB (cB (cB (cB b5))))) (F5 off n' cap i X) (H5 off c A B) [] [(8, rt (bb true))] [] []), by kernel_rfl, by kernel_rfl⟩
theorem t5_big : runF Tryd.prog 1000 [1] 5 #[slw 1 off n' cap] [(1, win off c)] [t] [(8, rt (bb true))] [] [] = some (rt (bb true), [(1, win off c)], [decide (60 < (n' : Int)) = true, PureX Tryd.prog 8 #[] (rt (bb true))]) := by kernel_rfl
end
theorem t5_nil : runF Tryd.prog 1000 [] 5 #[sl0] [] [] [(8, rt (bb true))] [(17, rt sl0, []), (17, rt sl0, []), (16, rt (bb true), [])] [] = some (rt (bb true), [], [CallsV Tryd.prog (.func 17) #[sl0] [] (rt sl0) [], CallsV Tryd.prog (.func 17) #[sl0] [] (rt sl0) [], CallsV Tryd.prog (.func 16) #[sl0, sl0] [] (rt (bb true)) [], PureX Tryd.prog 8 #[] (rt (bb true))]) := by kernel_rfl
theorem t5_e (off cap : Nat) (c : Array Value) : runF Tryd.prog 1000 [1] 5 #[slw 1 off 0 cap] [(1, win off c)] [] [(8, rt (bb true))] [(17, rt sl0, [(1, win off c)]), (17, rt sl0, []), (16, rt (bb true), [(1, win off c)])] [] = some (rt (bb true), [(1, win off c)], [CallsV Tryd.prog (.func 17) #[slw 1 off 0 cap] [(1, win off c)] (rt sl0) [(1, win off c)], CallsV Tryd.prog (.func 17) #[sl0] [] (rt sl0) [], CallsV Tryd.prog (.func 16) #[sl0, slw 1 off 0 cap] [(1, win off c)] (rt (bb true)) [(1, win off c)], PureX Tryd.prog 8 #[] (rt (bb true))]) := by kernel_rfl

end Go.Proofs.YtcjjckokaiobcaaDoor
