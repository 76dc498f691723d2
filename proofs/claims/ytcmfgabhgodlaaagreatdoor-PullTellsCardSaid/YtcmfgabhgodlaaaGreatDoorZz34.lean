/- Texts of the seat, joined. -/
import Derived.Test.YtcmfgabhgodlaaaGreatDoorZz33
/- The document's whole roots: each piece of a round computed. -/
namespace Go.Proofs.YtcmfgabhgodlaaaGreatDoor
open Go Go.RowKit
set_option linter.unusedSimpArgs false
set_option linter.unusedVariables false
set_option maxRecDepth 100000

/-- Letters, some of them written over. -/
def ovr (X : Nat → Value) : List (Nat × Value) → Nat → Value
  | [], j => X j
  | (k, v) :: l, j => if Nat.beq j k then v else ovr X l j
def nmb (j : Nat) : Bool := !(Nat.beq j 6 || Nat.beq j 7 || Nat.beq j 25 || Nat.beq j 31)
def PL (X : Nat → Value) : Prop := ∀ j, nmb j = true → wfV noB (X j) = true
def plB (l : List (Nat × Value)) : Bool := l.all fun e => !nmb e.1 || wfV noB e.2
theorem PL.ovr {X : Nat → Value} (h : PL X) : ∀ {l : List (Nat × Value)}, plB l = true → PL (Go.Proofs.YtcmfgabhgodlaaaGreatDoor.ovr X l)
  | [], _ => h
  | (k, v) :: l, hl => by
    simp only [plB, List.all_cons, Bool.and_eq_true] at hl
    have ih : PL (Go.Proofs.YtcmfgabhgodlaaaGreatDoor.ovr X l) := PL.ovr h hl.2
    intro j hj
    unfold Go.Proofs.YtcmfgabhgodlaaaGreatDoor.ovr
    split
    · rename_i e
      have e := Nat.eq_of_beq_eq_true e
      subst e
      have := hl.1
      rw [hj] at this
      exact this
    · exact ih j hj
noncomputable def b105 : Code := match Tryz.f60.body with | some c => c | none => .skip
noncomputable def VZ : Code := cB (cB (cB b105))
noncomputable def VL : Code := cK (cK (cB (cA VZ)))
noncomputable def VR : Code := cK (cA (cB VL))
theorem b105_eq : Tryz.f60.body = some (.seq (cA b105) (.seq (cA (cB b105)) (.seq (cA (cB (cB b105))) (.seq (.seq (cA (cA VZ)) (.block 0 (.loop VL))) (cB VZ))))) := by kernel_rfl
theorem VL_eq : VL = .seq (cA VL) (.seq (.block 1 (.seq (cA VR) (.seq (cA (cB VR)) (cB (cB VR))))) (cB (cB VL))) := by kernel_rfl
def TF (a : Nat) (i : Int) (X : Nat → Value) : List Value := [wv a, ptr 3000, ptr 3001, i6 0, ptr 3002, i6 i, X 6, X 7, X 8, X 9, X 10, X 11, X 12, X 13, X 14, X 15, X 16, X 17, X 18, X 19, X 20, X 21, X 22, X 23, X 24, X 25, X 26, X 27, X 28, X 29, X 30, X 31, X 32, X 33, X 34, X 35, X 36, X 37, X 38, X 39, X 40, X 41, X 42, X 43, X 44, X 45, X 46, X 47]
def TG (a : Nat) (i : Int) (X : Nat → Value) : List Value := [wv a, ptr 3000, ptr 3001, i6 0, ptr 3002, i6 i, ptr 4000, X 7, X 8, X 9, X 10, X 11, X 12, X 13, X 14, X 15, X 16, X 17, X 18, X 19, X 20, X 21, X 22, X 23, X 24, X 25, X 26, X 27, X 28, X 29, X 30, X 31, X 32, X 33, X 34, X 35, X 36, X 37, X 38, X 39, X 40, X 41, X 42, X 43, X 44, X 45, X 46, X 47]
def TK (a : Nat) (i : Int) (X : Nat → Value) : List Value := [wv a, ptr 3000, ptr 3001, i6 0, ptr 3002, i6 i, ptr 4000, ptr 4001, X 8, X 9, X 10, X 11, X 12, X 13, X 14, X 15, X 16, X 17, X 18, X 19, X 20, X 21, X 22, X 23, X 24, X 25, X 26, X 27, X 28, X 29, X 30, X 31, X 32, X 33, X 34, X 35, X 36, X 37, X 38, X 39, X 40, X 41, X 42, X 43, X 44, X 45, X 46, X 47]
def TP (k l a : Nat) (i : Int) (q : Nat) (X : Nat → Value) : List Value := [wv a, ptr 3000, ptr 3001, i6 0, ptr 3002, i6 i, ptr k, ptr l, X 8, X 9, X 10, X 11, X 12, X 13, X 14, X 15, X 16, X 17, X 18, X 19, X 20, X 21, X 22, X 23, X 24, pto k q, X 26, X 27, X 28, X 29, X 30, pto k q, X 32, X 33, X 34, X 35, X 36, X 37, X 38, X 39, X 40, X 41, X 42, X 43, X 44, X 45, X 46, X 47]
def HVe (a r : Nat) : Hp := [(3000, pw a), (3001, pw 0), (3002, pw r)]
def HVf (a r : Nat) : Hp := [(3000, pw a), (3001, pw 0), (3002, pw r), (5000, deadO), (5001, deadO)]
def HVs (a r s x : Nat) : Hp := [(3002, pw r), (4001, pw s), (4000, pw x), (3000, pw a), (3001, pw 0), (5000, deadO), (5001, deadO)]
section
variable (a r x s L q : Nat) (i c : Int) (o : Bool) (X : Nat → Value)
theorem vq_0 : runNS Tryz.prog 3000 (cA b105) (frame0 Tryz.f60 #[wv a]) [] [] [] [] = some (.normal, [wv a, ptr 3000, ptr 3001, i6 0] ++ List.replicate 44 ud, [(3001, pw 0), (3000, pw a)], []) := by kernel_rfl
theorem vq_1 : runNS Tryz.prog 3002 (cA (cB b105)) ([wv a, ptr 3000, ptr 3001, i6 0] ++ List.replicate 44 ud) [(3001, pw 0), (3000, pw a)] [f] [(59, rt (i6 i))] [] = some (.normal, [wv a, ptr 3000, ptr 3001, i6 0, ud, ud, ud, ud, ud, wv a, i6 i, bb (decide (i < 0))] ++ List.replicate 36 ud, [(3001, pw 0), (3000, pw a)], [PureX Tryz.prog 59 #[wv a] (rt (i6 i)), decide (i < 0) = false]) := by kernel_rfl
theorem vq_2 : runNS Tryz.prog 3002 (cA (cB (cB b105))) ([wv a, ptr 3000, ptr 3001, i6 0, ud, ud, ud, ud, ud, wv a, i6 i, bb o] ++ List.replicate 36 ud) [(3001, pw 0), (3000, pw a)] [] [] [] = some (.normal, [wv a, ptr 3000, ptr 3001, i6 0, ptr 3002, ud, ud, ud, ud, wv a, i6 i, bb o] ++ List.replicate 36 ud, [(3002, pw 0), (3001, pw 0), (3000, pw a)], []) := by kernel_rfl
def XV0 : Nat → Value := ovr (fun _ => ud) [(9, wv a), (10, i6 i), (11, bb o), (13, wv a), (14, i6 (Int.ofNat L)), (15, i6 (IntKind.i64.wrap (Int.ofNat (L / 2))))]
theorem vq_3 : runNS Tryz.prog 3003 (cA (cA VZ)) ([wv a, ptr 3000, ptr 3001, i6 0, ptr 3002, ud, ud, ud, ud, wv a, i6 i, bb o] ++ List.replicate 36 ud) [(3002, pw 0), (3001, pw 0), (3000, pw a)] [] [(79, rt (i6 (Int.ofNat L)))] [] = some (.normal, TF a (IntKind.i64.wrap (Int.ofNat (L / 2))) (XV0 a L i o), [(3002, pw 0), (3001, pw 0), (3000, pw a)], [PureX Tryz.prog 79 #[wv a] (rt (i6 (Int.ofNat L)))]) := by kernel_rfl
theorem vq_t : runNS Tryz.prog 4000 (cA VL) (TF a i X) (HVf a r) [t] [] [] = some (.normal, TF a i (ovr X [(16, i6 i), (17, bb (decide (0 ≤ i)))]), HVf a r, [decide (0 ≤ i) = true]) := by kernel_rfl
theorem vq_f : runNS Tryz.prog 4000 VL (TF a i X) (HVf a r) [f] [] [] = some (.exit 0, TF a i (ovr X [(16, i6 i), (17, bb (decide (0 ≤ i)))]), HVf a r, [decide (0 ≤ i) = false]) := by kernel_rfl
theorem vq_7 : runNS Tryz.prog 4000 (cA VR) (TF a i X) (HVf a r) [] [] [] = some (.normal, TG a i (ovr X [(20, wv r)]), (4000, pw r) :: HVf a r, []) := by kernel_rfl
def xov : List (Nat × Value) := [(8, bb true), (32, tp [wv s, bb true]), (33, wv x), (34, wv x), (35, tp [wv s, bb true]), (36, wv s), (37, bb true), (38, bb true), (39, bb false), (40, bb false), (41, ud), (42, ud), (43, ud), (44, ud), (45, bb false)]
def xnv : List (Nat × Value) := [(8, bb false), (32, tp [wv s, bb false]), (33, wv x), (34, wv x), (35, tp [wv s, bb false]), (36, wv s), (37, bb false), (38, bb false), (39, bb true), (40, bb true), (41, wv s), (42, wv a), (43, i6 c), (44, bb (decide (c ≤ 0))), (45, bb (decide (c ≤ 0)))]
theorem vq_o : runNS Tryz.prog 4001 (cB (cB VR)) (TG a i X) ((4000, pw x) :: HVf a r) [] [(38, rt (tp [wv s, bb true]))] [] = some (.normal, TK a i (ovr X (xov x s)), (4001, pw s) :: (4000, pw x) :: HVf a r, [PureX Tryz.prog 38 #[wv x, wv x] (rt (tp [wv s, bb true]))]) := by kernel_rfl
theorem vq_y : runNS Tryz.prog 4001 (cB (cB VR)) (TG a i X) ((4000, pw x) :: HVf a r) [n, n, n, n, t] [(38, rt (tp [wv s, bb false])), (30, rt (i6 c))] [] = some (.normal, TK a i (ovr X ((46, wv x) :: xnv a x s c)), HVs a x s x, [PureX Tryz.prog 38 #[wv x, wv x] (rt (tp [wv s, bb false])), PureX Tryz.prog 30 #[wv s, wv a] (rt (i6 c)), decide (c ≤ 0) = true]) := by kernel_rfl
theorem vq_n : runNS Tryz.prog 4001 (cB (cB VR)) (TG a i X) ((4000, pw x) :: HVf a r) [n, n, n, n, f] [(38, rt (tp [wv s, bb false])), (30, rt (i6 c))] [] = some (.normal, TK a i (ovr X (xnv a x s c)), (4001, pw s) :: (4000, pw x) :: HVf a r, [PureX Tryz.prog 38 #[wv x, wv x] (rt (tp [wv s, bb false])), PureX Tryz.prog 30 #[wv s, wv a] (rt (i6 c)), decide (c ≤ 0) = false]) := by kernel_rfl
def xiv (i : Int) : List (Nat × Value) := [(18, i6 i), (19, i6 (IntKind.i64.wrap (i - 1)))]
theorem vq_i : runNS Tryz.prog 4002 (cB (cB VL)) (TK a i X) ((4001, pw s) :: (4000, pw x) :: HVf a r) [] [] [] = some (.normal, TK a (IntKind.i64.wrap (i - 1)) (ovr X (xiv i)), (4001, pw s) :: (4000, pw x) :: HVf a r, []) := by kernel_rfl
theorem vq_j : runNS Tryz.prog 4002 (cB (cB VL)) (TK a i X) (HVs a r s x) [] [] [] = some (.normal, TK a (IntKind.i64.wrap (i - 1)) (ovr X (xiv i)), HVs a r s x, []) := by kernel_rfl
theorem vq_e : ∃ T H, runNS Tryz.prog 6000 (cB VZ) (TF a i X) (HVf a r) [] [] [] = some (.ret, T, H, []) ∧ vresults Tryz.prog Tryz.f60 T H = some (tp [wv r, i6 0]) := ⟨_, _, rfl, rfl⟩
theorem vq_neg : runB Tryz.prog 60 #[wv a] [] [t] [(59, rt (i6 i))] [] = some (rt (tp [wv 0, i6 2]), [], [PureX Tryz.prog 59 #[wv a] (rt (i6 i)), decide (i < 0) = true]) := by kernel_rfl
end
abbrev rhV : Nat → Nat := rho [(5000, 4000), (5001, 4001)]

theorem tp_ren {X : Nat → Value} (h : PL X) (a : Nat) (i : Int) (q : Nat) : renL (rnm rhV) (TP 5000 5001 a i q X) = TP 4000 4001 a i q X := by
  have hx : ∀ j, nmb j = true → ren (rnm rhV) (X j) = X j := fun j hj => ren_plain _ (h j hj)
  have e : renL (rnm rhV) (TP 5000 5001 a i q X) = [wv a, ptr 3000, ptr 3001, i6 0, ptr 3002, i6 i, ptr 4000, ptr 4001, ren (rnm rhV) (X 8), ren (rnm rhV) (X 9), ren (rnm rhV) (X 10), ren (rnm rhV) (X 11), ren (rnm rhV) (X 12), ren (rnm rhV) (X 13), ren (rnm rhV) (X 14), ren (rnm rhV) (X 15), ren (rnm rhV) (X 16), ren (rnm rhV) (X 17), ren (rnm rhV) (X 18), ren (rnm rhV) (X 19), ren (rnm rhV) (X 20), ren (rnm rhV) (X 21), ren (rnm rhV) (X 22), ren (rnm rhV) (X 23), ren (rnm rhV) (X 24), pto 4000 q, ren (rnm rhV) (X 26), ren (rnm rhV) (X 27), ren (rnm rhV) (X 28), ren (rnm rhV) (X 29), ren (rnm rhV) (X 30), pto 4000 q, ren (rnm rhV) (X 32), ren (rnm rhV) (X 33), ren (rnm rhV) (X 34), ren (rnm rhV) (X 35), ren (rnm rhV) (X 36), ren (rnm rhV) (X 37), ren (rnm rhV) (X 38), ren (rnm rhV) (X 39), ren (rnm rhV) (X 40), ren (rnm rhV) (X 41), ren (rnm rhV) (X 42), ren (rnm rhV) (X 43), ren (rnm rhV) (X 44), ren (rnm rhV) (X 45), ren (rnm rhV) (X 46), ren (rnm rhV) (X 47)] := by kernel_rfl
  rw [e, hx 8 rfl, hx 9 rfl, hx 10 rfl, hx 11 rfl, hx 12 rfl, hx 13 rfl, hx 14 rfl, hx 15 rfl, hx 16 rfl, hx 17 rfl, hx 18 rfl, hx 19 rfl, hx 20 rfl, hx 21 rfl, hx 22 rfl, hx 23 rfl, hx 24 rfl, hx 26 rfl, hx 27 rfl, hx 28 rfl, hx 29 rfl, hx 30 rfl, hx 32 rfl, hx 33 rfl, hx 34 rfl, hx 35 rfl, hx 36 rfl, hx 37 rfl, hx 38 rfl, hx 39 rfl, hx 40 rfl, hx 41 rfl, hx 42 rfl, hx 43 rfl, hx 44 rfl, hx 45 rfl, hx 46 rfl, hx 47 rfl]
  rfl
theorem tp_wf {X : Nat → Value} (h : PL X) (a r : Nat) (i : Int) (q : Nat) : wfL (domB (HVf a r)) (TP 5000 5001 a i q X) = true := by
  have hx : ∀ j, nmb j = true → wfV (domB (HVf a r)) (X j) = true := fun j hj => wfV_mono (fun i hi => by cases hi) _ (h j hj)
  rw [wfL_all]
  intro v hv
  simp only [TP, List.mem_cons, List.not_mem_nil, or_false] at hv
  rcases hv with rfl | rfl | rfl | rfl | rfl | rfl | rfl | rfl | rfl | rfl | rfl | rfl | rfl | rfl | rfl | rfl | rfl | rfl | rfl | rfl | rfl | rfl | rfl | rfl | rfl | rfl | rfl | rfl | rfl | rfl | rfl | rfl | rfl | rfl | rfl | rfl | rfl | rfl | rfl | rfl | rfl | rfl | rfl | rfl | rfl | rfl | rfl | rfl

  · rfl
  · rfl
  · rfl
  · rfl
  · rfl
  · rfl
  · rfl
  · rfl
  · exact hx 8 rfl
  · exact hx 9 rfl
  · exact hx 10 rfl
  · exact hx 11 rfl
  · exact hx 12 rfl
  · exact hx 13 rfl
  · exact hx 14 rfl
  · exact hx 15 rfl
  · exact hx 16 rfl
  · exact hx 17 rfl
  · exact hx 18 rfl
  · exact hx 19 rfl
  · exact hx 20 rfl
  · exact hx 21 rfl
  · exact hx 22 rfl
  · exact hx 23 rfl
  · exact hx 24 rfl
  · rfl
  · exact hx 26 rfl
  · exact hx 27 rfl
  · exact hx 28 rfl
  · exact hx 29 rfl
  · exact hx 30 rfl
  · rfl
  · exact hx 32 rfl
  · exact hx 33 rfl
  · exact hx 34 rfl
  · exact hx 35 rfl
  · exact hx 36 rfl
  · exact hx 37 rfl
  · exact hx 38 rfl
  · exact hx 39 rfl
  · exact hx 40 rfl
  · exact hx 41 rfl
  · exact hx 42 rfl
  · exact hx 43 rfl
  · exact hx 44 rfl
  · exact hx 45 rfl
  · exact hx 46 rfl
  · exact hx 47 rfl
theorem ren_vs {X : Nat → Value} (h : PL X) (a r s x q : Nat) (i : Int) : Renum (HVe a 0) (TP 4000 4001 a i q X) [] (HVs a r s x) (TP 5000 5001 a i q X) [] (HVf a r) rhV :=
  renum_of (by kernel_rfl) (tp_ren h a i q) ⟨fun _ => rfl, fun _ => rfl, fun _ => rfl, fun h => (by cases h), fun h => (by cases h), trivial⟩ (by kernel_rfl) (by kernel_rfl) (tp_wf h a r i q)
theorem ren_vn {X : Nat → Value} (h : PL X) (a r s x q : Nat) (i : Int) : Renum (HVe a 0) (TP 4000 4001 a i q X) [] ((4001, pw s) :: (4000, pw x) :: HVf a r) (TP 5000 5001 a i q X) [] (HVf a r) rhV :=
  renum_of (by kernel_rfl) (tp_ren h a i q) ⟨fun _ => rfl, fun _ => rfl, fun _ => rfl, fun h => (by cases h), fun h => (by cases h), trivial⟩ (by kernel_rfl) (by kernel_rfl) (tp_wf h a r i q)
theorem ren_v0 (a L : Nat) (i j : Int) (o : Bool) : Renum (HVe a 0) (TF a j (XV0 a L i o)) [] (HVe a 0) (TF a j (XV0 a L i o)) [] (HVf a 0) (rho []) :=
  renum_of (by kernel_rfl) (by kernel_rfl) ⟨fun _ => rfl, fun _ => rfl, fun _ => rfl, fun h => (by cases h), fun h => (by cases h), trivial⟩ (by kernel_rfl) (by kernel_rfl) (by kernel_rfl)
theorem LoopI.pre {P : Program} {b : Code} {H0 : Hp} {m : Nat} {t t2 t' : List Value} {H H2 H' : Hp} {ex : Ex} {ρ : Nat → Nat} (hr : Renum H0 t [] H t2 [] H2 ρ) (h : LoopI P b H0 m t2 H2 ex t' H') : LoopI P b H0 m t H ex t' H' := by
  intro n0 A w0 β β1 a w hb hR
  exact h n0 A w0 β _ a w (fun i hi => by rw [hr.fix i hi]; exact hb i hi) (RelA.renum (H0 := H0) hR hr)

end Go.Proofs.YtcmfgabhgodlaaaGreatDoor
