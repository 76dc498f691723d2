/- The document's Left: as often doubled. -/
import Derived.Test.YtlioffkonfkflaaZz28
import Derived.Test.YtlioffkonfkflaaZz25
namespace Go.Proofs.Ytlioffkonfkflaa
open Go Go.RowKit
set_option linter.unusedSimpArgs false
set_option linter.unusedVariables false
set_option maxRecDepth 100000

theorem StepV.blockr {P : Program} {b : Code} {t t1 : List Value} {D D1 : List VDef} {H H1 : Hp} {id : Nat} (h : StepV P b t D H .ret t1 D1 H1) : StepV P (.block id b) t D H .ret t1 D1 H1 := by
  refine ⟨h.1, fun n0 A w0 β a w hR => wpIn_block (wpIn_mono (h.2 n0 A w0 β a w hR) ?_)⟩
  rintro e a' w' ⟨rfl, hR'⟩
  exact ⟨rfl, hR'⟩
theorem StepV.seqr {P : Program} {x y : Code} {t t1 : List Value} {D D1 : List VDef} {H H1 : Hp} (h1 : StepV P x t D H .ret t1 D1 H1) : StepV P (.seq x y) t D H .ret t1 D1 H1 := by
  refine ⟨h1.1, fun n0 A w0 β a w hR => wpIn_seq (wpIn_mono (h1.2 n0 A w0 β a w hR) ?_)⟩
  rintro e a' w' ⟨rfl, hR'⟩
  exact ⟨rfl, hR'⟩
noncomputable def b14 : Code := match Try.f14.body with | some c => c | none => .skip
noncomputable def LZ : Code := cB (cB b14)
noncomputable def LL : Code := cK (cK (cB (cA LZ)))
theorem b14_eq : Try.f14.body = some (.seq (cA b14) (.seq (cA (cB b14)) (.seq (.seq (cA (cA LZ)) (.block 0 (.loop LL))) (cB LZ)))) := by kernel_rfl
def LF (a : Nat) (x i : Int) (X : Nat → Value) : List Value := [wv a, i6 x, ptr 3000, ud, ptr 3001, i6 0, i6 i, X 7, X 8, X 9, X 10, X 11, X 12, X 13, X 14, X 15, X 16, X 17, X 18, X 19, X 20, X 21, X 22, X 23, X 24, X 25, X 26, X 27, X 28, X 29, X 30]
def LP (k a : Nat) (x i : Int) (X : Nat → Value) : List Value := [wv a, i6 x, ptr 3000, ud, ptr 3001, i6 0, i6 i, ptr k, X 8, X 9, X 10, X 11, X 12, X 13, X 14, X 15, X 16, X 17, X 18, X 19, X 20, X 21, X 22, X 23, X 24, X 25, X 26, X 27, X 28, X 29, X 30]
def HLe (a : Nat) : Hp := [(3000, pw a), (3001, pw 0)]
def HLf (a : Nat) : Hp := [(3000, pw a), (3001, pw 0), (5000, deadO)]
def nml (j : Nat) : Bool := !(Nat.beq j 7)
def PLL (X : Nat → Value) : Prop := ∀ j, nml j = true → wfV noB (X j) = true
def pllB (l : List (Nat × Value)) : Bool := l.all fun e => !nml e.1 || wfV noB e.2
theorem PLL.ovr {X : Nat → Value} (h : PLL X) : ∀ {l : List (Nat × Value)}, pllB l = true → PLL (Go.Proofs.Ytlioffkonfkflaa.ovr X l)
  | [], _ => h
  | (k, v) :: l, hl => by
    simp only [pllB, List.all_cons, Bool.and_eq_true] at hl
    have ih : PLL (Go.Proofs.Ytlioffkonfkflaa.ovr X l) := PLL.ovr h hl.2
    intro j hj
    unfold Go.Proofs.Ytlioffkonfkflaa.ovr
    split
    · rename_i e
      have e := Nat.eq_of_beq_eq_true e
      subst e
      have := hl.1
      rw [hj] at this
      exact this
    · exact ih j hj
section
variable (a0 a b : Nat) (x i : Int) (X : Nat → Value)
theorem lq_0 : runNS Try.prog 3000 (cA b14) (frame0 Try.f14 #[wv a, i6 x]) [] [] [] [] = some (.normal, [wv a, i6 x, ptr 3000, ud, ptr 3001, i6 0] ++ List.replicate 25 ud, [(3001, pw 0), (3000, pw a)], []) := by kernel_rfl
def lpre (x : Int) : List Value := [wv a, i6 x, ptr 3000, ud, ptr 3001, i6 0, ud, ud, ud, i6 x, bb (decide (x < 0)), bb false, i6 x, bb (decide (254 < x)), bb (decide (254 < x))] ++ List.replicate 16 ud
theorem lq_1 : runNS Try.prog 3002 (cA (cB b14)) ([wv a, i6 x, ptr 3000, ud, ptr 3001, i6 0] ++ List.replicate 25 ud) [(3001, pw 0), (3000, pw a)] [f, n, f] [] [] = some (.normal, lpre a x, [(3001, pw 0), (3000, pw a)], [decide (x < 0) = false, decide (254 < x) = false]) := by kernel_rfl
def XL0 : Nat → Value := ovr (fun _ => ud) [(9, i6 x), (10, bb (decide (x < 0))), (11, bb false), (12, i6 x), (13, bb (decide (254 < x))), (14, bb (decide (254 < x)))]
theorem lq_2 : runNS Try.prog 3002 (cA (cA LZ)) (lpre a x) [(3001, pw 0), (3000, pw a)] [] [] [] = some (.normal, LF a x 0 (XL0 x), [(3001, pw 0), (3000, pw a)], []) := by kernel_rfl
def xlr (i x : Int) (a b : Nat) : List (Nat × Value) := [(8, bb false), (16, i6 i), (17, i6 x), (18, bb (decide (i < x))), (19, i6 i), (20, i6 (IntKind.i64.wrap (i + 1))), (21, tp [wv b, bb false]), (22, wv a), (23, wv a), (24, tp [wv b, bb false]), (25, wv b), (26, bb false), (27, bb false), (29, wv b)]
theorem lq_r : runNS Try.prog 4000 LL (LF a0 x i X) (HLf a) [t] [(53, rt (tp [wv b, bb false]))] [] = some (.normal, LP 4000 a0 x (IntKind.i64.wrap (i + 1)) (ovr X (xlr i x a b)), [(3000, pw b), (4000, pw b), (3001, pw 0), (5000, deadO)], [decide (i < x) = true, PureX Try.prog 53 #[wv a, wv a] (rt (tp [wv b, bb false]))]) := by kernel_rfl
theorem lq_o : ∃ T H, runNS Try.prog 4000 LL (LF a0 x i X) (HLf a) [t] [(53, rt (tp [wv b, bb true]))] [] = some (.ret, T, H, [decide (i < x) = true, PureX Try.prog 53 #[wv a, wv a] (rt (tp [wv b, bb true]))]) ∧ (domB H 3000 = true ∧ domB H 3001 = true) ∧ vresults Try.prog Try.f14 T H = some (tp [wv 0, i6 20]) := ⟨[wv a0, i6 x, ptr 3000, ud, ptr 3001, i6 20, i6 i, ptr 4000, bb true, X 9, X 10, X 11, X 12, X 13, X 14, X 15, i6 i, i6 x, bb (decide (i < x)), X 19, X 20, tp [wv b, bb true], wv a, wv a, tp [wv b, bb true], wv b, bb true, bb true, wv 0, X 29, X 30], [(3001, pw 0), (4000, pw b), (3000, pw a), (5000, deadO)], by kernel_rfl, ⟨rfl, rfl⟩, by kernel_rfl⟩
theorem lq_x : ∃ Y, runNS Try.prog 4000 LL (LF a0 x i X) (HLf a) [f] [] [] = some (.exit 0, LF a0 x i Y, HLf a, [decide (i < x) = false]) := ⟨ovr X [(16, i6 i), (17, i6 x), (18, bb (decide (i < x)))], by kernel_rfl⟩
theorem lq_e : ∃ T H, runNS Try.prog 6000 (cB LZ) (LF a0 x i X) (HLf a) [] [] [] = some (.ret, T, H, []) ∧ vresults Try.prog Try.f14 T H = some (tp [wv a, i6 0]) := ⟨_, _, rfl, rfl⟩
theorem lq_lo : runB Try.prog 14 #[wv a, i6 x] [] [t, n, n] [] [] = some (rt (tp [wv 0, i6 2]), [], [decide (x < 0) = true]) := by kernel_rfl
theorem lq_hi : runB Try.prog 14 #[wv a, i6 x] [] [f, n, t] [] [] = some (rt (tp [wv 0, i6 2]), [], [decide (x < 0) = false, decide (254 < x) = true]) := by kernel_rfl
end
abbrev rhL : Nat → Nat := rho [(5000, 4000)]
theorem lp_ren {X : Nat → Value} (h : PLL X) (a : Nat) (x i : Int) : renL (rnm rhL) (LP 5000 a x i X) = LP 4000 a x i X := by
  have hx : ∀ j, nml j = true → ren (rnm rhL) (X j) = X j := fun j hj => ren_plain _ (h j hj)
  have e : renL (rnm rhL) (LP 5000 a x i X) = [wv a, i6 x, ptr 3000, ud, ptr 3001, i6 0, i6 i, ptr 4000, ren (rnm rhL) (X 8), ren (rnm rhL) (X 9), ren (rnm rhL) (X 10), ren (rnm rhL) (X 11), ren (rnm rhL) (X 12), ren (rnm rhL) (X 13), ren (rnm rhL) (X 14), ren (rnm rhL) (X 15), ren (rnm rhL) (X 16), ren (rnm rhL) (X 17), ren (rnm rhL) (X 18), ren (rnm rhL) (X 19), ren (rnm rhL) (X 20), ren (rnm rhL) (X 21), ren (rnm rhL) (X 22), ren (rnm rhL) (X 23), ren (rnm rhL) (X 24), ren (rnm rhL) (X 25), ren (rnm rhL) (X 26), ren (rnm rhL) (X 27), ren (rnm rhL) (X 28), ren (rnm rhL) (X 29), ren (rnm rhL) (X 30)] := by kernel_rfl
  rw [e, hx 8 rfl, hx 9 rfl, hx 10 rfl, hx 11 rfl, hx 12 rfl, hx 13 rfl, hx 14 rfl, hx 15 rfl, hx 16 rfl, hx 17 rfl, hx 18 rfl, hx 19 rfl, hx 20 rfl, hx 21 rfl, hx 22 rfl, hx 23 rfl, hx 24 rfl, hx 25 rfl, hx 26 rfl, hx 27 rfl, hx 28 rfl, hx 29 rfl, hx 30 rfl]
  rfl
theorem lp_wf {X : Nat → Value} (h : PLL X) (a b : Nat) (x i : Int) : wfL (domB (HLf b)) (LP 5000 a x i X) = true := by
  have hx : ∀ j, nml j = true → wfV (domB (HLf b)) (X j) = true := fun j hj => wfV_mono (fun i hi => by cases hi) _ (h j hj)
  rw [wfL_all]
  intro v hv
  simp only [LP, List.mem_cons, List.not_mem_nil, or_false] at hv
  rcases hv with rfl | rfl | rfl | rfl | rfl | rfl | rfl | rfl | rfl | rfl | rfl | rfl | rfl | rfl | rfl | rfl | rfl | rfl | rfl | rfl | rfl | rfl | rfl | rfl | rfl | rfl | rfl | rfl | rfl | rfl | rfl
  · rfl
  · rfl
  · rfl
  · rfl
  · rfl
  · rfl
  · rfl
  · rfl
  · exact hx 8 rfl
  · exact hx 9 rfl
  · exact hx 10 rfl
  · exact hx 11 rfl
  · exact hx 12 rfl
  · exact hx 13 rfl
  · exact hx 14 rfl
  · exact hx 15 rfl
  · exact hx 16 rfl
  · exact hx 17 rfl
  · exact hx 18 rfl
  · exact hx 19 rfl
  · exact hx 20 rfl
  · exact hx 21 rfl
  · exact hx 22 rfl
  · exact hx 23 rfl
  · exact hx 24 rfl
  · exact hx 25 rfl
  · exact hx 26 rfl
  · exact hx 27 rfl
  · exact hx 28 rfl
  · exact hx 29 rfl
  · exact hx 30 rfl
theorem ren_l {X : Nat → Value} (h : PLL X) (a0 c b : Nat) (x i : Int) : Renum (HLe c) (LP 4000 a0 x i X) [] [(3000, pw b), (4000, pw b), (3001, pw 0), (5000, deadO)] (LP 5000 a0 x i X) [] (HLf b) rhL :=
  renum_of (by kernel_rfl) (lp_ren h a0 x i) ⟨fun _ => rfl, fun _ => rfl, fun h => (by cases h), trivial⟩ (by kernel_rfl) (by kernel_rfl) (lp_wf h a0 b x i)
theorem ren_l0 (a : Nat) (x : Int) : Renum (HLe a) (LF a x 0 (XL0 x)) [] (HLe a) (LF a x 0 (XL0 x)) [] (HLf a) (rho []) :=
  renum_of (by kernel_rfl) (by kernel_rfl) ⟨fun _ => rfl, fun _ => rfl, fun h => (by cases h), trivial⟩ (by kernel_rfl) (by kernel_rfl) (by kernel_rfl)
theorem LoopI.preL {P : Program} {b : Code} {H0 : Hp} {m : Nat} {t t2 t' : List Value} {H H2 H' : Hp} {ex : Ex} {ρ : Nat → Nat} (hr : Renum H0 t [] H t2 [] H2 ρ) (h : LoopI P b H0 m t2 H2 ex t' H') : LoopI P b H0 m t H ex t' H' := by
  intro n0 A w0 β β1 a w hb hR
  exact h n0 A w0 β _ a w (fun i hi => by rw [hr.fix i hi]; exact hb i hi) (RelA.renum (H0 := H0) hR hr)
theorem hle_dom (c : Nat) (H : Hp) (h0 : domB H 3000 = true) (h1 : domB H 3001 = true) : ∀ i, domB (HLe c) i = true → domB H i = true := fun i hi => by
  obtain ⟨e, he, rfl⟩ := memK _ i hi
  simp only [HLe, List.mem_cons, List.not_mem_nil, or_false] at he
  rcases he with rfl | rfl
  · exact h0
  · exact h1
theorem over_on {a : Int} (h : ¬ inR (a + a)) (j : Nat) : ¬ inR (a * 2 ^ (j + 1)) := by
  have hp : (1 : Int) ≤ 2 ^ j := Int.pow_pos (by decide)
  rw [Int.pow_succ, Int.mul_comm (2 ^ j) 2, ← Int.mul_assoc, show a * 2 = a + a by omega]
  generalize a + a = c at *
  generalize (2 : Int) ^ j = p at *
  intro hc
  apply h
  unfold inR at *
  rcases Int.lt_or_le c 0 with h1 | h1
  · have := Int.mul_le_mul_of_nonneg_left hp (show 0 ≤ -c by omega)
    rw [Int.neg_mul, Int.neg_mul, Int.mul_one] at this
    omega
  · have := Int.mul_le_mul_of_nonneg_left hp h1
    rw [Int.mul_one] at this
    omega
theorem loopL (a0 c x : Nat) (hx : x ≤ 254) : ∀ (j i : Nat) (a : Int) (X : Nat → Value), i + j = x → inR a → PLL X →
    (inR (a * 2 ^ j) → ∃ r Y, LoopI Try.prog LL (HLe c) r (LF a0 x i X) (HLf (nz a)) (.exit 0) (LF a0 x x Y) (HLf (nz (a * 2 ^ j)))) ∧
    (¬ inR (a * 2 ^ j) → ∃ r T H, LoopI Try.prog LL (HLe c) r (LF a0 x i X) (HLf (nz a)) .ret T H ∧ (∀ i, domB (HLe c) i = true → domB H i = true) ∧ vresults Try.prog Try.f14 T H = some (tp [wv 0, i6 20]))
  | 0, i, a, X, hi, ha, hX => by
    have hd : ∀ i, domB (HLe c) i = true → domB (HLf (nz a)) i = true := hle_dom c _ rfl rfl
    have e : i = x := by omega
    subst e
    rw [Int.pow_zero, Int.mul_one]
    refine ⟨fun _ => ?_, fun h => absurd ha h⟩
    obtain ⟨Y, hY⟩ := lq_x a0 (nz a) i i X
    exact ⟨1, Y, LoopI.last hd (runNS_step mix hY ⟨decide_eq_false (by omega), trivial⟩)⟩
  | j + 1, i, a, X, hi, ha, hX => by
    have hd : ∀ i, domB (HLe c) i = true → domB (HLf (nz a)) i = true := hle_dom c _ rfl rfl
    have hA := radd_z ha ha
    have ht : decide ((i : Int) < (x : Int)) = true := decide_eq_true (by omega)
    have hw : IntKind.i64.wrap ((i : Int) + 1) = ((i + 1 : Nat) : Int) := by rw [wrapI (by omega)]; omega
    by_cases ho : inR (a + a)
    · rw [decide_eq_false (not_not_intro ho)] at hA
      have s := runNS_step mix (lq_r a0 (nz a) (nz (a + a)) x i X) ⟨ht, hA, trivial⟩
      rw [hw] at s
      have p : PLL (ovr X (xlr i x (nz a) (nz (a + a)))) := PLL.ovr hX rfl
      have e2 : a * 2 ^ (j + 1) = (a + a) * 2 ^ j := by
        rw [Int.pow_succ, Int.mul_comm (2 ^ j) 2, ← Int.mul_assoc, show a * 2 = a + a by omega]
      have ih := loopL a0 c x hx j (i + 1) (a + a) (ovr (ovr X (xlr i x (nz a) (nz (a + a)))) [(7, ptr 5000)]) (by omega) ho (PLL.ovr p rfl)
      rw [e2]
      have toF : LP 5000 a0 x ((i + 1 : Nat) : Int) (ovr X (xlr i x (nz a) (nz (a + a)))) = LF a0 x ((i + 1 : Nat) : Int) (ovr (ovr X (xlr i x (nz a) (nz (a + a)))) [(7, ptr 5000)]) := rfl
      rw [← toF] at ih
      refine ⟨fun h => ?_, fun h => ?_⟩
      · obtain ⟨r, Y, hL⟩ := ih.1 h
        exact ⟨r + 1, Y, LoopI.round hd s (ren_l p _ _ _ _ _) hL⟩
      · obtain ⟨r, T, H, hL, h2, h3⟩ := ih.2 h
        exact ⟨r + 1, T, H, LoopI.round hd s (ren_l p _ _ _ _ _) hL, h2, h3⟩
    · rw [decide_eq_true ho] at hA
      refine ⟨fun h => absurd h (over_on ho j), fun _ => ?_⟩
      obtain ⟨T, H, hT, hh, hv⟩ := lq_o a0 (nz a) (nz (a + a)) x i X
      exact ⟨1, T, H, LoopI.lastRet hd (runNS_step mix hT ⟨ht, hA, trivial⟩), hle_dom c _ hh.1 hh.2, hv⟩
theorem perm_l (a : Nat) (i : Nat) : look (HLe a) i = look [(3001, pw 0), (3000, pw a)] i :=
  look_eq (G := HLe a) (H := [(3001, pw 0), (3000, pw a)]) ⟨rfl, rfl, trivial⟩ ⟨rfl, rfl, trivial⟩ i
/-- The document's Left. -/
theorem dleft_z {a : Int} {x : Nat} (ha : inR a) (hx : x ≤ 254) : PureX Try.prog 14 #[wz a, i6 (x : Int)] (rt (tp [wz (if inR (a * 2 ^ x) then a * 2 ^ x else 0), i6 (if inR (a * 2 ^ x) then 0 else 20)])) := by
  have s0 := runNS_step mix (lq_0 (nz a) x) trivial
  have s1 := runNS_step mix (lq_1 (nz a) x) ⟨decide_eq_false (by omega), decide_eq_false (by omega), trivial⟩
  have s2 := (runNS_step mix (lq_2 (nz a) x) trivial).perm (perm_l (nz a))
  have pX : PLL (XL0 x) := by
    unfold XL0
    exact PLL.ovr (fun j hj => rfl) rfl
  have hl := loopL (nz a) (nz a) x hx x 0 a (XL0 x) (by omega) ha pX
  by_cases h : inR (a * 2 ^ x)
  · rw [if_pos h, if_pos h]
    obtain ⟨r, Y, hL⟩ := hl.1 h
    have lp := (LoopI.loop (hle_dom _ _ rfl rfl) (LoopI.preL (ren_l0 (nz a) x) hL)).block (id := 0)
    obtain ⟨T, H, hE, hres⟩ := lq_e (nz a) (nz (a * 2 ^ x)) x x Y
    have hw := StepV.seq s0 (StepV.seq s1 (StepV.seq (StepV.seq s2 lp) (runNS_step mix hE trivial)))
    exact CallsV.pure (callsV_step Try.func14 b14_eq hw rfl hres rfl (fun _ _ h => by cases h) rfl) rfl rfl
  · rw [if_neg h, if_neg h]
    obtain ⟨r, T, H, hL, hd, hres⟩ := hl.2 h
    have lp := StepV.blockr (id := 0) (LoopI.loop hd (LoopI.preL (ren_l0 (nz a) x) hL))
    have hw := StepV.seq s0 (StepV.seq s1 (StepV.seqr (y := cB LZ) (StepV.seq s2 lp)))
    exact CallsV.pure (callsV_step Try.func14 b14_eq hw rfl hres rfl (fun _ _ h => by cases h) rfl) rfl rfl
theorem dleft_bad {a : Int} {x : Int} (h : x < 0 ∨ 254 < x) : PureX Try.prog 14 #[wz a, i6 x] (rt (tp [wz 0, i6 2])) := by
  by_cases h1 : x < 0
  · exact runB_pure mix (lq_lo (nz a) x) ⟨decide_eq_true h1, trivial⟩ rfl rfl
  · exact runB_pure mix (lq_hi (nz a) x) ⟨decide_eq_false h1, decide_eq_true (by omega), trivial⟩ rfl rfl

end Go.Proofs.Ytlioffkonfkflaa
