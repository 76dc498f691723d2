/- Texts of the seat, joined. -/
import Derived.Test.YtelohlpjgfknoaaZz6
/- Lists and configurations compared, number by number: what comes of it, of lists of any length. -/
namespace Go.Proofs.Ytelohlpjgfknoaa
open Go Go.RowKit
set_option linter.unusedSimpArgs false
set_option linter.unusedVariables false
set_option maxRecDepth 100000

theorem wrapI {z : Int} (h : -9223372036854775808 ≤ z ∧ z < 9223372036854775808) : IntKind.i64.wrap z = z := by
  rw [IntKind.wrap_i64]
  omega
theorem cw_get (off : Nat) {L : List Int} {i : Nat} {x : Int} (h : L[i]? = some x) : (cwx fl1 off L)[off + (i : Int).toNat * 1]? = some (ii x) := by
  rw [cwx_at (Nat.le_add_right _ _), fl1_map, Nat.add_sub_cancel_left, List.getElem?_map, Int.toNat_natCast, Nat.mul_one, h]
  rfl
/-- Two lists compared from a place on. -/
theorem two_loop {P : Program} {RL : Code} {H : Hp} {QI : Int → (Nat → Value) → List Value} {fc : Func} {L M : List Int} (hlen : M.length = L.length)
    (hround : ∀ (i : Nat) X x, L[i]? = some x → M[i]? = some x → ∃ Y, StepV P RL (QI (i : Int) X) [] H .normal (QI ((i + 1 : Nat) : Int) Y) [] H)
    (hbad : ∀ (i : Nat) X x y, L[i]? = some x → M[i]? = some y → x ≠ y → ∃ T, StepV P RL (QI (i : Int) X) [] H .ret T [] H ∧ vresults P fc T H = some (bb false))
    (hend : ∀ X, ∃ Y, StepV P RL (QI (L.length : Int) X) [] H (.exit 0) (QI (L.length : Int) Y) [] H) : ∀ (j i : Nat) (X : Nat → Value), i + j = L.length →
    (L.drop i = M.drop i → ∃ r Y, LoopN P RL r (QI (i : Int) X) [] H (.exit 0) (QI (L.length : Int) Y) [] H) ∧
    (L.drop i ≠ M.drop i → ∃ r T, LoopN P RL r (QI (i : Int) X) [] H .ret T [] H ∧ vresults P fc T H = some (bb false))
  | 0, i, X, hi => by
    have e : i = L.length := by omega
    subst e
    refine ⟨fun _ => ?_, fun h => ?_⟩
    · obtain ⟨Y, hY⟩ := hend X
      exact ⟨1, Y, LoopN.last hY⟩
    · rw [List.drop_length, ← hlen, List.drop_length] at h
      exact absurd rfl h
  | j + 1, i, X, hi => by
    have hlt : i < L.length := by omega
    have hlt2 : i < M.length := by omega
    have hx : L[i]? = some L[i] := List.getElem?_eq_getElem hlt
    have hy : M[i]? = some M[i] := List.getElem?_eq_getElem hlt2
    rw [List.drop_eq_getElem_cons hlt, List.drop_eq_getElem_cons hlt2]
    generalize L[i] = x at hx
    generalize M[i] = y at hy
    by_cases e : x = y
    · subst e
      obtain ⟨Y, hY⟩ := hround i X x hx hy
      obtain ⟨i1, i2⟩ := two_loop hlen hround hbad hend j (i + 1) Y (by omega)
      refine ⟨fun h => ?_, fun h => ?_⟩
      · obtain ⟨r, Z, hl⟩ := i1 (List.cons.inj h).2
        exact ⟨r + 1, Z, LoopN.round hY hl⟩
      · obtain ⟨r, T, hl, hv⟩ := i2 (fun e => h (by rw [e]))
        exact ⟨r + 1, T, LoopN.round hY hl, hv⟩
    · refine ⟨fun h => absurd (List.cons.inj h).1 e, fun _ => ?_⟩
      obtain ⟨T, hT, hv⟩ := hbad i X x y hx hy e
      exact ⟨1, T, LoopN.lastRet hT, hv⟩
abbrev HT (o1 o2 : Nat) (c1 c2 : Array Value) : Hp := [(1, win o1 c1), (2, win o2 c2)]

noncomputable def b13 : Code := match Try.f13.body with | some c => c | none => .skip
noncomputable def L13 : Code := cK (cK (cB (cA (cB (cB b13)))))
theorem b13_eq : Try.f13.body = some (.seq (cA b13) (.seq (cA (cB b13)) (.seq (.seq (cA (cA (cB (cB b13)))) (.block 0 (.loop L13))) (cB (cB (cB b13)))))) := by kernel_rfl
def QP13 (sa sb : Value) (X : Nat → Value) : List Value := [sa, sb, X 2, X 3, bb false, X 5, X 6, X 7, X 8, X 9, X 10, X 11, X 12, X 13, X 14, X 15, X 16, X 17, X 18, X 19, X 20, X 21, X 22, X 23, X 24, X 25]
def QI13 (sa sb : Value) (n' : Nat) (i : Int) (X : Nat → Value) : List Value := [sa, sb, X 2, X 3, bb false, ii i, X 6, X 7, X 8, X 9, X 10, X 11, X 12, X 13, X 14, X 15, X 16, X 17, X 18, X 19, X 20, X 21, X 22, X 23, X 24, X 25]
section
variable (o1 o2 n' cap1 cap2 : Nat) (c1 c2 : Array Value) (i x y : Int) (X : Nat → Value)
theorem p13_0 : runLS Try.prog 3000 (cA b13) (frame0 Try.f13 #[(slw 1 o1 n' cap1), (slw 2 o2 n' cap2)]) (HT o1 o2 c1 c2) [] [] [] [] = some (.normal, (QP13 (slw 1 o1 n' cap1) (slw 2 o2 n' cap2) (fun _ => ud)), (HT o1 o2 c1 c2), []) := by kernel_rfl
theorem p13_1 : ∃ Y, runLS Try.prog 4000 (cA (cB b13)) (QP13 (slw 1 o1 n' cap1) (slw 2 o2 n' cap2) X) (HT o1 o2 c1 c2) [f] [] [] [] = some (.normal, (QP13 (slw 1 o1 n' cap1) (slw 2 o2 n' cap2) Y), (HT o1 o2 c1 c2), [(((n' : Int) != (n' : Int)) = false)]) :=
  ⟨lt (runLS Try.prog 4000 (cA (cB b13)) (QP13 (slw 1 o1 n' cap1) (slw 2 o2 n' cap2) X) (HT o1 o2 c1 c2) [f] [] [] []), by kernel_rfl⟩
theorem p13_2 : ∃ Y, runLS Try.prog 4000 (cA (cA (cB (cB b13)))) (QP13 (slw 1 o1 n' cap1) (slw 2 o2 n' cap2) X) (HT o1 o2 c1 c2) [] [] [] [] = some (.normal, (QI13 (slw 1 o1 n' cap1) (slw 2 o2 n' cap2) n' 0 Y), (HT o1 o2 c1 c2), []) :=
  ⟨lt (runLS Try.prog 4000 (cA (cA (cB (cB b13)))) (QP13 (slw 1 o1 n' cap1) (slw 2 o2 n' cap2) X) (HT o1 o2 c1 c2) [] [] [] []), by kernel_rfl⟩
theorem p13_r : ∃ Y, runLS Try.prog 4000 L13 (QI13 (slw 1 o1 n' cap1) (slw 2 o2 n' cap2) n' i X) (HT o1 o2 c1 c2) [t, f] [] [] [[ii x], [ii x]] = some (.normal, (QI13 (slw 1 o1 n' cap1) (slw 2 o2 n' cap2) n' (wi (i + 1)) Y), (HT o1 o2 c1 c2), [(decide (i < (n' : Int))) = true, 0 ≤ i ∧ i < (n' : Int), o1 ≤ o1 + i.toNat * 1, c1[o1 + i.toNat * 1]? = some (ii x), 0 ≤ i ∧ i < (n' : Int), o2 ≤ o2 + i.toNat * 1, c2[o2 + i.toNat * 1]? = some (ii x), (x != x) = false]) :=
  ⟨lt (runLS Try.prog 4000 L13 (QI13 (slw 1 o1 n' cap1) (slw 2 o2 n' cap2) n' i X) (HT o1 o2 c1 c2) [t, f] [] [] [[ii x], [ii x]]), by kernel_rfl⟩
theorem p13_n : ∃ T, runLS Try.prog 4000 L13 (QI13 (slw 1 o1 n' cap1) (slw 2 o2 n' cap2) n' i X) (HT o1 o2 c1 c2) [t, t] [] [] [[ii x], [ii y]] = some (.ret, T, (HT o1 o2 c1 c2), [(decide (i < (n' : Int))) = true, 0 ≤ i ∧ i < (n' : Int), o1 ≤ o1 + i.toNat * 1, c1[o1 + i.toNat * 1]? = some (ii x), 0 ≤ i ∧ i < (n' : Int), o2 ≤ o2 + i.toNat * 1, c2[o2 + i.toNat * 1]? = some (ii y), (x != y) = true]) ∧ vresults Try.prog Try.f13 T (HT o1 o2 c1 c2) = some (bb false) :=
  ⟨tmpsOf (runLS Try.prog 4000 L13 (QI13 (slw 1 o1 n' cap1) (slw 2 o2 n' cap2) n' i X) (HT o1 o2 c1 c2) [t, t] [] [] [[ii x], [ii y]]), by kernel_rfl, by kernel_rfl⟩
theorem p13_x : ∃ Y, runLS Try.prog 4000 L13 (QI13 (slw 1 o1 n' cap1) (slw 2 o2 n' cap2) n' i X) (HT o1 o2 c1 c2) [f] [] [] [] = some (.exit 0, (QI13 (slw 1 o1 n' cap1) (slw 2 o2 n' cap2) n' i Y), (HT o1 o2 c1 c2), [(decide (i < (n' : Int))) = false]) :=
  ⟨lt (runLS Try.prog 4000 L13 (QI13 (slw 1 o1 n' cap1) (slw 2 o2 n' cap2) n' i X) (HT o1 o2 c1 c2) [f] [] [] []), by kernel_rfl⟩
theorem p13_e : ∃ T, runLS Try.prog 4000 (cB (cB (cB b13))) (QI13 (slw 1 o1 n' cap1) (slw 2 o2 n' cap2) n' i X) (HT o1 o2 c1 c2) [] [] [] [] = some (.ret, T, (HT o1 o2 c1 c2), []) ∧ vresults Try.prog Try.f13 T (HT o1 o2 c1 c2) = some (bb true) :=
  ⟨tmpsOf (runLS Try.prog 4000 (cB (cB (cB b13))) (QI13 (slw 1 o1 n' cap1) (slw 2 o2 n' cap2) n' i X) (HT o1 o2 c1 c2) [] [] [] []), by kernel_rfl, by kernel_rfl⟩
end
theorem eq13_w (o1 o2 cap1 cap2 : Nat) (L M : List Int) (hlen : M.length = L.length) (hL : L.length ≤ maxLen) : CallsV Try.prog (.func 13) #[(slw 1 o1 L.length cap1), (slw 2 o2 L.length cap2)] (HT o1 o2 (cwx fl1 o1 L) (cwx fl1 o2 M)) (rt (bb (decide (L = M)))) (HT o1 o2 (cwx fl1 o1 L) (cwx fl1 o2 M)) := by
  have s0 := runLS_step mix (p13_0 o1 o2 L.length cap1 cap2 (cwx fl1 o1 L) (cwx fl1 o2 M)) trivial
  obtain ⟨Y1, h1⟩ := p13_1 o1 o2 L.length cap1 cap2 (cwx fl1 o1 L) (cwx fl1 o2 M) (fun _ => ud)
  have s1 := runLS_step mix h1 ⟨bne_self_eq_false _, trivial⟩
  obtain ⟨Y2, h2⟩ := p13_2 o1 o2 L.length cap1 cap2 (cwx fl1 o1 L) (cwx fl1 o2 M) Y1
  have s2 := runLS_step mix h2 trivial
  have hw : ∀ i : Nat, i < L.length → wi ((i : Int) + 1) = ((i + 1 : Nat) : Int) := fun i hi => by simp only [maxLen] at hL; unfold wi; rw [wrapI (by omega)]; omega
  have key := two_loop (P := Try.prog) (RL := L13) (H := (HT o1 o2 (cwx fl1 o1 L) (cwx fl1 o2 M))) (QI := QI13 (slw 1 o1 L.length cap1) (slw 2 o2 L.length cap2) L.length) (fc := Try.f13) (L := L) (M := M) hlen
    (fun i X x hx hy => by
      have hi := (List.getElem?_eq_some_iff.1 hx).1
      have hix : 0 ≤ (i : Int) ∧ (i : Int) < (L.length : Int) := by omega
      obtain ⟨Y, hY⟩ := p13_r o1 o2 L.length cap1 cap2 (cwx fl1 o1 L) (cwx fl1 o2 M) (i : Int) x X
      rw [hw i hi] at hY
      exact ⟨Y, runLS_step mix hY ⟨decide_eq_true hix.2, hix, Nat.le_add_right _ _, cw_get o1 hx, hix, Nat.le_add_right _ _, cw_get o2 hy, bne_self_eq_false _, trivial⟩⟩)
    (fun i X x y hx hy hne => by
      have hi := (List.getElem?_eq_some_iff.1 hx).1
      have hix : 0 ≤ (i : Int) ∧ (i : Int) < (L.length : Int) := by omega
      obtain ⟨T, hT, hv⟩ := p13_n o1 o2 L.length cap1 cap2 (cwx fl1 o1 L) (cwx fl1 o2 M) (i : Int) x y X
      exact ⟨T, runLS_step mix hT ⟨decide_eq_true hix.2, hix, Nat.le_add_right _ _, cw_get o1 hx, hix, Nat.le_add_right _ _, cw_get o2 hy, bne_iff_ne.2 hne, trivial⟩, hv⟩)
    (fun X => by
      obtain ⟨Y, hY⟩ := p13_x o1 o2 L.length cap1 cap2 (cwx fl1 o1 L) (cwx fl1 o2 M) (L.length : Int) X
      exact ⟨Y, runLS_step mix hY ⟨decide_eq_false (by omega), trivial⟩⟩) L.length 0 Y2 (by omega)
  rw [List.drop_zero, List.drop_zero] at key
  have hsub : Sub (HT o1 o2 (cwx fl1 o1 L) (cwx fl1 o2 M)) (HT o1 o2 (cwx fl1 o1 L) (cwx fl1 o2 M)) := fun _ _ h => h
  by_cases e : L = M
  · rw [decide_eq_true e]
    obtain ⟨r, Y, hl⟩ := key.1 e
    obtain ⟨T, hE, hv⟩ := p13_e o1 o2 L.length cap1 cap2 (cwx fl1 o1 L) (cwx fl1 o2 M) (L.length : Int) Y
    exact callsV_step Try.func13 b13_eq (StepV.seq s0 (StepV.seq s1 (StepV.seq (StepV.seq s2 (LoopN.loop hl).block) (runLS_step mix hE trivial)))) rfl hv rfl hsub rfl
  · rw [decide_eq_false e]
    obtain ⟨r, T, hl, hv⟩ := key.2 e
    exact callsV_step Try.func13 b13_eq (StepV.seq s0 (StepV.seq s1 (StepV.seqrW (StepV.seq s2 (StepV.blockrW (id := 0) (LoopN.loop hl)))))) rfl hv rfl hsub rfl

noncomputable def b34 : Code := match Try.f34.body with | some c => c | none => .skip
noncomputable def L34 : Code := cK (cK (cB (cA (cB (cB b34)))))
theorem b34_eq : Try.f34.body = some (.seq (cA b34) (.seq (cA (cB b34)) (.seq (.seq (cA (cA (cB (cB b34)))) (.block 0 (.loop L34))) (cB (cB (cB b34)))))) := by kernel_rfl
def QP34 (sa sb : Value) (X : Nat → Value) : List Value := [sa, sb, X 2, X 3, bb false, X 5, X 6, X 7, X 8, X 9, X 10, X 11, X 12, X 13, X 14, X 15, X 16, X 17, X 18, X 19, X 20, X 21, X 22, X 23, X 24, X 25]
def QI34 (sa sb : Value) (n' : Nat) (i : Int) (X : Nat → Value) : List Value := [sa, sb, X 2, X 3, bb false, X 5, X 6, X 7, X 8, X 9, X 10, X 11, ii n', ii i, X 14, X 15, X 16, X 17, X 18, X 19, X 20, X 21, X 22, X 23, X 24, X 25]
section
variable (o1 o2 n' cap1 cap2 : Nat) (c1 c2 : Array Value) (i x y : Int) (X : Nat → Value)
theorem p34_0 : runLS Try.prog 3000 (cA b34) (frame0 Try.f34 #[(slw 1 o1 n' cap1), (slw 2 o2 n' cap2)]) (HT o1 o2 c1 c2) [] [] [] [] = some (.normal, (QP34 (slw 1 o1 n' cap1) (slw 2 o2 n' cap2) (fun _ => ud)), (HT o1 o2 c1 c2), []) := by kernel_rfl
theorem p34_1 : ∃ Y, runLS Try.prog 4000 (cA (cB b34)) (QP34 (slw 1 o1 n' cap1) (slw 2 o2 n' cap2) X) (HT o1 o2 c1 c2) [f] [] [] [] = some (.normal, (QP34 (slw 1 o1 n' cap1) (slw 2 o2 n' cap2) Y), (HT o1 o2 c1 c2), [(((n' : Int) != (n' : Int)) = false)]) :=
  ⟨lt (runLS Try.prog 4000 (cA (cB b34)) (QP34 (slw 1 o1 n' cap1) (slw 2 o2 n' cap2) X) (HT o1 o2 c1 c2) [f] [] [] []), by kernel_rfl⟩
theorem p34_2 : ∃ Y, runLS Try.prog 4000 (cA (cA (cB (cB b34)))) (QP34 (slw 1 o1 n' cap1) (slw 2 o2 n' cap2) X) (HT o1 o2 c1 c2) [] [] [] [] = some (.normal, (QI34 (slw 1 o1 n' cap1) (slw 2 o2 n' cap2) n' 0 Y), (HT o1 o2 c1 c2), []) :=
  ⟨lt (runLS Try.prog 4000 (cA (cA (cB (cB b34)))) (QP34 (slw 1 o1 n' cap1) (slw 2 o2 n' cap2) X) (HT o1 o2 c1 c2) [] [] [] []), by kernel_rfl⟩
theorem p34_r : ∃ Y, runLS Try.prog 4000 L34 (QI34 (slw 1 o1 n' cap1) (slw 2 o2 n' cap2) n' i X) (HT o1 o2 c1 c2) [t, f] [] [] [[ii x], [ii x]] = some (.normal, (QI34 (slw 1 o1 n' cap1) (slw 2 o2 n' cap2) n' (wi (i + 1)) Y), (HT o1 o2 c1 c2), [(decide (i < (n' : Int))) = true, 0 ≤ i ∧ i < (n' : Int), o1 ≤ o1 + i.toNat * 1, c1[o1 + i.toNat * 1]? = some (ii x), 0 ≤ i ∧ i < (n' : Int), o2 ≤ o2 + i.toNat * 1, c2[o2 + i.toNat * 1]? = some (ii x), (x != x) = false]) :=
  ⟨lt (runLS Try.prog 4000 L34 (QI34 (slw 1 o1 n' cap1) (slw 2 o2 n' cap2) n' i X) (HT o1 o2 c1 c2) [t, f] [] [] [[ii x], [ii x]]), by kernel_rfl⟩
theorem p34_n : ∃ T, runLS Try.prog 4000 L34 (QI34 (slw 1 o1 n' cap1) (slw 2 o2 n' cap2) n' i X) (HT o1 o2 c1 c2) [t, t] [] [] [[ii x], [ii y]] = some (.ret, T, (HT o1 o2 c1 c2), [(decide (i < (n' : Int))) = true, 0 ≤ i ∧ i < (n' : Int), o1 ≤ o1 + i.toNat * 1, c1[o1 + i.toNat * 1]? = some (ii x), 0 ≤ i ∧ i < (n' : Int), o2 ≤ o2 + i.toNat * 1, c2[o2 + i.toNat * 1]? = some (ii y), (x != y) = true]) ∧ vresults Try.prog Try.f34 T (HT o1 o2 c1 c2) = some (bb false) :=
  ⟨tmpsOf (runLS Try.prog 4000 L34 (QI34 (slw 1 o1 n' cap1) (slw 2 o2 n' cap2) n' i X) (HT o1 o2 c1 c2) [t, t] [] [] [[ii x], [ii y]]), by kernel_rfl, by kernel_rfl⟩
theorem p34_x : ∃ Y, runLS Try.prog 4000 L34 (QI34 (slw 1 o1 n' cap1) (slw 2 o2 n' cap2) n' i X) (HT o1 o2 c1 c2) [f] [] [] [] = some (.exit 0, (QI34 (slw 1 o1 n' cap1) (slw 2 o2 n' cap2) n' i Y), (HT o1 o2 c1 c2), [(decide (i < (n' : Int))) = false]) :=
  ⟨lt (runLS Try.prog 4000 L34 (QI34 (slw 1 o1 n' cap1) (slw 2 o2 n' cap2) n' i X) (HT o1 o2 c1 c2) [f] [] [] []), by kernel_rfl⟩
theorem p34_e : ∃ T, runLS Try.prog 4000 (cB (cB (cB b34))) (QI34 (slw 1 o1 n' cap1) (slw 2 o2 n' cap2) n' i X) (HT o1 o2 c1 c2) [] [] [] [] = some (.ret, T, (HT o1 o2 c1 c2), []) ∧ vresults Try.prog Try.f34 T (HT o1 o2 c1 c2) = some (bb true) :=
  ⟨tmpsOf (runLS Try.prog 4000 (cB (cB (cB b34))) (QI34 (slw 1 o1 n' cap1) (slw 2 o2 n' cap2) n' i X) (HT o1 o2 c1 c2) [] [] [] []), by kernel_rfl, by kernel_rfl⟩
end
theorem eq34_w (o1 o2 cap1 cap2 : Nat) (L M : List Int) (hlen : M.length = L.length) (hL : L.length ≤ maxLen) : CallsV Try.prog (.func 34) #[(slw 1 o1 L.length cap1), (slw 2 o2 L.length cap2)] (HT o1 o2 (cwx fl1 o1 L) (cwx fl1 o2 M)) (rt (bb (decide (L = M)))) (HT o1 o2 (cwx fl1 o1 L) (cwx fl1 o2 M)) := by
  have s0 := runLS_step mix (p34_0 o1 o2 L.length cap1 cap2 (cwx fl1 o1 L) (cwx fl1 o2 M)) trivial
  obtain ⟨Y1, h1⟩ := p34_1 o1 o2 L.length cap1 cap2 (cwx fl1 o1 L) (cwx fl1 o2 M) (fun _ => ud)
  have s1 := runLS_step mix h1 ⟨bne_self_eq_false _, trivial⟩
  obtain ⟨Y2, h2⟩ := p34_2 o1 o2 L.length cap1 cap2 (cwx fl1 o1 L) (cwx fl1 o2 M) Y1
  have s2 := runLS_step mix h2 trivial
  have hw : ∀ i : Nat, i < L.length → wi ((i : Int) + 1) = ((i + 1 : Nat) : Int) := fun i hi => by simp only [maxLen] at hL; unfold wi; rw [wrapI (by omega)]; omega
  have key := two_loop (P := Try.prog) (RL := L34) (H := (HT o1 o2 (cwx fl1 o1 L) (cwx fl1 o2 M))) (QI := QI34 (slw 1 o1 L.length cap1) (slw 2 o2 L.length cap2) L.length) (fc := Try.f34) (L := L) (M := M) hlen
    (fun i X x hx hy => by
      have hi := (List.getElem?_eq_some_iff.1 hx).1
      have hix : 0 ≤ (i : Int) ∧ (i : Int) < (L.length : Int) := by omega
      obtain ⟨Y, hY⟩ := p34_r o1 o2 L.length cap1 cap2 (cwx fl1 o1 L) (cwx fl1 o2 M) (i : Int) x X
      rw [hw i hi] at hY
      exact ⟨Y, runLS_step mix hY ⟨decide_eq_true hix.2, hix, Nat.le_add_right _ _, cw_get o1 hx, hix, Nat.le_add_right _ _, cw_get o2 hy, bne_self_eq_false _, trivial⟩⟩)
    (fun i X x y hx hy hne => by
      have hi := (List.getElem?_eq_some_iff.1 hx).1
      have hix : 0 ≤ (i : Int) ∧ (i : Int) < (L.length : Int) := by omega
      obtain ⟨T, hT, hv⟩ := p34_n o1 o2 L.length cap1 cap2 (cwx fl1 o1 L) (cwx fl1 o2 M) (i : Int) x y X
      exact ⟨T, runLS_step mix hT ⟨decide_eq_true hix.2, hix, Nat.le_add_right _ _, cw_get o1 hx, hix, Nat.le_add_right _ _, cw_get o2 hy, bne_iff_ne.2 hne, trivial⟩, hv⟩)
    (fun X => by
      obtain ⟨Y, hY⟩ := p34_x o1 o2 L.length cap1 cap2 (cwx fl1 o1 L) (cwx fl1 o2 M) (L.length : Int) X
      exact ⟨Y, runLS_step mix hY ⟨decide_eq_false (by omega), trivial⟩⟩) L.length 0 Y2 (by omega)
  rw [List.drop_zero, List.drop_zero] at key
  have hsub : Sub (HT o1 o2 (cwx fl1 o1 L) (cwx fl1 o2 M)) (HT o1 o2 (cwx fl1 o1 L) (cwx fl1 o2 M)) := fun _ _ h => h
  by_cases e : L = M
  · rw [decide_eq_true e]
    obtain ⟨r, Y, hl⟩ := key.1 e
    obtain ⟨T, hE, hv⟩ := p34_e o1 o2 L.length cap1 cap2 (cwx fl1 o1 L) (cwx fl1 o2 M) (L.length : Int) Y
    exact callsV_step Try.func34 b34_eq (StepV.seq s0 (StepV.seq s1 (StepV.seq (StepV.seq s2 (LoopN.loop hl).block) (runLS_step mix hE trivial)))) rfl hv rfl hsub rfl
  · rw [decide_eq_false e]
    obtain ⟨r, T, hl, hv⟩ := key.2 e
    exact callsV_step Try.func34 b34_eq (StepV.seq s0 (StepV.seq s1 (StepV.seqrW (StepV.seq s2 (StepV.blockrW (id := 0) (LoopN.loop hl)))))) rfl hv rfl hsub rfl

noncomputable def b14 : Code := match Try.f14.body with | some c => c | none => .skip
noncomputable def L14 : Code := cK (cK (cB (cA (cB (cB b14)))))
theorem b14_eq : Try.f14.body = some (.seq (cA b14) (.seq (cA (cB b14)) (.seq (.seq (cA (cA (cB (cB b14)))) (.block 0 (.loop L14))) (cB (cB (cB b14)))))) := by kernel_rfl
def QP14 (sa sb : Value) (X : Nat → Value) : List Value := [sa, sb, ptr 3000, ptr 3001, bb false, X 5, X 6, X 7, X 8, X 9, X 10, X 11, X 12, X 13, X 14, X 15, X 16, X 17, X 18, X 19, X 20, X 21, X 22, X 23, X 24, X 25, X 26, X 27, X 28, X 29, X 30, X 31, X 32, X 33, X 34, X 35, X 36, X 37, X 38, X 39, X 40, X 41, X 42, X 43, X 44, X 45, X 46, X 47, X 48, X 49, X 50, X 51, X 52, X 53, X 54, X 55, X 56, X 57, X 58, X 59, X 60, X 61, X 62, X 63, X 64, X 65]
def QI14 (sa sb : Value) (n' : Nat) (i : Int) (X : Nat → Value) : List Value := [sa, sb, ptr 3000, ptr 3001, bb false, ii i, X 6, X 7, X 8, X 9, X 10, X 11, X 12, X 13, X 14, X 15, X 16, X 17, X 18, X 19, X 20, X 21, X 22, X 23, X 24, X 25, X 26, X 27, X 28, X 29, X 30, X 31, X 32, X 33, X 34, X 35, X 36, X 37, X 38, X 39, X 40, X 41, X 42, X 43, X 44, X 45, X 46, X 47, X 48, X 49, X 50, X 51, X 52, X 53, X 54, X 55, X 56, X 57, X 58, X 59, X 60, X 61, X 62, X 63, X 64, X 65]
abbrev HT14 (sa sb : Value) (g b t' q m : Int) (o1 o2 : Nat) (c1 c2 : Array Value) : Hp := [(3001, .cells ⟨[sb, ii g, ii b, ii t', ii q, ii m]⟩ 24 (0, 0)), (3000, .cells ⟨[sa, ii g, ii b, ii t', ii q, ii m]⟩ 24 (0, 0)), (1, win o1 c1), (2, win o2 c2)]
section
variable (o1 o2 n' cap1 cap2 : Nat) (c1 c2 : Array Value) (g b t' q m : Int) (i x y : Int) (X : Nat → Value)
theorem p14_0 : runLS Try.prog 3000 (cA b14) (frame0 Try.f14 #[(cv (slw 1 o1 n' cap1) g b t' q m), (cv (slw 2 o2 n' cap2) g b t' q m)]) (HT o1 o2 c1 c2) [] [] [] [] = some (.normal, (QP14 (cv (slw 1 o1 n' cap1) g b t' q m) (cv (slw 2 o2 n' cap2) g b t' q m) (fun _ => ud)), (HT14 (slw 1 o1 n' cap1) (slw 2 o2 n' cap2) g b t' q m o1 o2 c1 c2), []) := by kernel_rfl
theorem p14_1 : ∃ Y, runLS Try.prog 4000 (cA (cB b14)) (QP14 (cv (slw 1 o1 n' cap1) g b t' q m) (cv (slw 2 o2 n' cap2) g b t' q m) X) (HT14 (slw 1 o1 n' cap1) (slw 2 o2 n' cap2) g b t' q m o1 o2 c1 c2) [f, n, n, n, n, f, n, n, n, n, f, n, n, n, n, f, n, n, n, n, f, n, n, n, n, f] [] [] [] = some (.normal, (QP14 (cv (slw 1 o1 n' cap1) g b t' q m) (cv (slw 2 o2 n' cap2) g b t' q m) Y), (HT14 (slw 1 o1 n' cap1) (slw 2 o2 n' cap2) g b t' q m o1 o2 c1 c2), [(((n' : Int) != (n' : Int)) = false), ((g != g) = false), ((b != b) = false), ((t' != t') = false), ((q != q) = false), ((m != m) = false)]) :=
  ⟨lt (runLS Try.prog 4000 (cA (cB b14)) (QP14 (cv (slw 1 o1 n' cap1) g b t' q m) (cv (slw 2 o2 n' cap2) g b t' q m) X) (HT14 (slw 1 o1 n' cap1) (slw 2 o2 n' cap2) g b t' q m o1 o2 c1 c2) [f, n, n, n, n, f, n, n, n, n, f, n, n, n, n, f, n, n, n, n, f, n, n, n, n, f] [] [] []), by kernel_rfl⟩
theorem p14_2 : ∃ Y, runLS Try.prog 4000 (cA (cA (cB (cB b14)))) (QP14 (cv (slw 1 o1 n' cap1) g b t' q m) (cv (slw 2 o2 n' cap2) g b t' q m) X) (HT14 (slw 1 o1 n' cap1) (slw 2 o2 n' cap2) g b t' q m o1 o2 c1 c2) [] [] [] [] = some (.normal, (QI14 (cv (slw 1 o1 n' cap1) g b t' q m) (cv (slw 2 o2 n' cap2) g b t' q m) n' 0 Y), (HT14 (slw 1 o1 n' cap1) (slw 2 o2 n' cap2) g b t' q m o1 o2 c1 c2), []) :=
  ⟨lt (runLS Try.prog 4000 (cA (cA (cB (cB b14)))) (QP14 (cv (slw 1 o1 n' cap1) g b t' q m) (cv (slw 2 o2 n' cap2) g b t' q m) X) (HT14 (slw 1 o1 n' cap1) (slw 2 o2 n' cap2) g b t' q m o1 o2 c1 c2) [] [] [] []), by kernel_rfl⟩
theorem p14_r : ∃ Y, runLS Try.prog 4000 L14 (QI14 (cv (slw 1 o1 n' cap1) g b t' q m) (cv (slw 2 o2 n' cap2) g b t' q m) n' i X) (HT14 (slw 1 o1 n' cap1) (slw 2 o2 n' cap2) g b t' q m o1 o2 c1 c2) [t, f] [] [] [[ii x], [ii x]] = some (.normal, (QI14 (cv (slw 1 o1 n' cap1) g b t' q m) (cv (slw 2 o2 n' cap2) g b t' q m) n' (wi (i + 1)) Y), (HT14 (slw 1 o1 n' cap1) (slw 2 o2 n' cap2) g b t' q m o1 o2 c1 c2), [(decide (i < (n' : Int))) = true, 0 ≤ i ∧ i < (n' : Int), o1 ≤ o1 + i.toNat * 1, c1[o1 + i.toNat * 1]? = some (ii x), 0 ≤ i ∧ i < (n' : Int), o2 ≤ o2 + i.toNat * 1, c2[o2 + i.toNat * 1]? = some (ii x), (x != x) = false]) :=
  ⟨lt (runLS Try.prog 4000 L14 (QI14 (cv (slw 1 o1 n' cap1) g b t' q m) (cv (slw 2 o2 n' cap2) g b t' q m) n' i X) (HT14 (slw 1 o1 n' cap1) (slw 2 o2 n' cap2) g b t' q m o1 o2 c1 c2) [t, f] [] [] [[ii x], [ii x]]), by kernel_rfl⟩
theorem p14_n : ∃ T, runLS Try.prog 4000 L14 (QI14 (cv (slw 1 o1 n' cap1) g b t' q m) (cv (slw 2 o2 n' cap2) g b t' q m) n' i X) (HT14 (slw 1 o1 n' cap1) (slw 2 o2 n' cap2) g b t' q m o1 o2 c1 c2) [t, t] [] [] [[ii x], [ii y]] = some (.ret, T, (HT14 (slw 1 o1 n' cap1) (slw 2 o2 n' cap2) g b t' q m o1 o2 c1 c2), [(decide (i < (n' : Int))) = true, 0 ≤ i ∧ i < (n' : Int), o1 ≤ o1 + i.toNat * 1, c1[o1 + i.toNat * 1]? = some (ii x), 0 ≤ i ∧ i < (n' : Int), o2 ≤ o2 + i.toNat * 1, c2[o2 + i.toNat * 1]? = some (ii y), (x != y) = true]) ∧ vresults Try.prog Try.f14 T (HT14 (slw 1 o1 n' cap1) (slw 2 o2 n' cap2) g b t' q m o1 o2 c1 c2) = some (bb false) :=
  ⟨tmpsOf (runLS Try.prog 4000 L14 (QI14 (cv (slw 1 o1 n' cap1) g b t' q m) (cv (slw 2 o2 n' cap2) g b t' q m) n' i X) (HT14 (slw 1 o1 n' cap1) (slw 2 o2 n' cap2) g b t' q m o1 o2 c1 c2) [t, t] [] [] [[ii x], [ii y]]), by kernel_rfl, by kernel_rfl⟩
theorem p14_x : ∃ Y, runLS Try.prog 4000 L14 (QI14 (cv (slw 1 o1 n' cap1) g b t' q m) (cv (slw 2 o2 n' cap2) g b t' q m) n' i X) (HT14 (slw 1 o1 n' cap1) (slw 2 o2 n' cap2) g b t' q m o1 o2 c1 c2) [f] [] [] [] = some (.exit 0, (QI14 (cv (slw 1 o1 n' cap1) g b t' q m) (cv (slw 2 o2 n' cap2) g b t' q m) n' i Y), (HT14 (slw 1 o1 n' cap1) (slw 2 o2 n' cap2) g b t' q m o1 o2 c1 c2), [(decide (i < (n' : Int))) = false]) :=
  ⟨lt (runLS Try.prog 4000 L14 (QI14 (cv (slw 1 o1 n' cap1) g b t' q m) (cv (slw 2 o2 n' cap2) g b t' q m) n' i X) (HT14 (slw 1 o1 n' cap1) (slw 2 o2 n' cap2) g b t' q m o1 o2 c1 c2) [f] [] [] []), by kernel_rfl⟩
theorem p14_e : ∃ T, runLS Try.prog 4000 (cB (cB (cB b14))) (QI14 (cv (slw 1 o1 n' cap1) g b t' q m) (cv (slw 2 o2 n' cap2) g b t' q m) n' i X) (HT14 (slw 1 o1 n' cap1) (slw 2 o2 n' cap2) g b t' q m o1 o2 c1 c2) [] [] [] [] = some (.ret, T, (HT14 (slw 1 o1 n' cap1) (slw 2 o2 n' cap2) g b t' q m o1 o2 c1 c2), []) ∧ vresults Try.prog Try.f14 T (HT14 (slw 1 o1 n' cap1) (slw 2 o2 n' cap2) g b t' q m o1 o2 c1 c2) = some (bb true) :=
  ⟨tmpsOf (runLS Try.prog 4000 (cB (cB (cB b14))) (QI14 (cv (slw 1 o1 n' cap1) g b t' q m) (cv (slw 2 o2 n' cap2) g b t' q m) n' i X) (HT14 (slw 1 o1 n' cap1) (slw 2 o2 n' cap2) g b t' q m o1 o2 c1 c2) [] [] [] []), by kernel_rfl, by kernel_rfl⟩
end
theorem eq14_w (o1 o2 cap1 cap2 : Nat) (g b t' q m : Int) (L M : List Int) (hlen : M.length = L.length) (hL : L.length ≤ maxLen) : CallsV Try.prog (.func 14) #[(cv (slw 1 o1 L.length cap1) g b t' q m), (cv (slw 2 o2 L.length cap2) g b t' q m)] (HT o1 o2 (cwx fl1 o1 L) (cwx fl1 o2 M)) (rt (bb (decide (L = M)))) (HT o1 o2 (cwx fl1 o1 L) (cwx fl1 o2 M)) := by
  have s0 := runLS_step mix (p14_0 o1 o2 L.length cap1 cap2 (cwx fl1 o1 L) (cwx fl1 o2 M) g b t' q m) trivial
  obtain ⟨Y1, h1⟩ := p14_1 o1 o2 L.length cap1 cap2 (cwx fl1 o1 L) (cwx fl1 o2 M) g b t' q m (fun _ => ud)
  have s1 := runLS_step mix h1 ⟨bne_self_eq_false _, bne_self_eq_false _, bne_self_eq_false _, bne_self_eq_false _, bne_self_eq_false _, bne_self_eq_false _, trivial⟩
  obtain ⟨Y2, h2⟩ := p14_2 o1 o2 L.length cap1 cap2 (cwx fl1 o1 L) (cwx fl1 o2 M) g b t' q m Y1
  have s2 := runLS_step mix h2 trivial
  have hw : ∀ i : Nat, i < L.length → wi ((i : Int) + 1) = ((i + 1 : Nat) : Int) := fun i hi => by simp only [maxLen] at hL; unfold wi; rw [wrapI (by omega)]; omega
  have key := two_loop (P := Try.prog) (RL := L14) (H := (HT14 (slw 1 o1 L.length cap1) (slw 2 o2 L.length cap2) g b t' q m o1 o2 (cwx fl1 o1 L) (cwx fl1 o2 M))) (QI := QI14 (cv (slw 1 o1 L.length cap1) g b t' q m) (cv (slw 2 o2 L.length cap2) g b t' q m) L.length) (fc := Try.f14) (L := L) (M := M) hlen
    (fun i X x hx hy => by
      have hi := (List.getElem?_eq_some_iff.1 hx).1
      have hix : 0 ≤ (i : Int) ∧ (i : Int) < (L.length : Int) := by omega
      obtain ⟨Y, hY⟩ := p14_r o1 o2 L.length cap1 cap2 (cwx fl1 o1 L) (cwx fl1 o2 M) g b t' q m (i : Int) x X
      rw [hw i hi] at hY
      exact ⟨Y, runLS_step mix hY ⟨decide_eq_true hix.2, hix, Nat.le_add_right _ _, cw_get o1 hx, hix, Nat.le_add_right _ _, cw_get o2 hy, bne_self_eq_false _, trivial⟩⟩)
    (fun i X x y hx hy hne => by
      have hi := (List.getElem?_eq_some_iff.1 hx).1
      have hix : 0 ≤ (i : Int) ∧ (i : Int) < (L.length : Int) := by omega
      obtain ⟨T, hT, hv⟩ := p14_n o1 o2 L.length cap1 cap2 (cwx fl1 o1 L) (cwx fl1 o2 M) g b t' q m (i : Int) x y X
      exact ⟨T, runLS_step mix hT ⟨decide_eq_true hix.2, hix, Nat.le_add_right _ _, cw_get o1 hx, hix, Nat.le_add_right _ _, cw_get o2 hy, bne_iff_ne.2 hne, trivial⟩, hv⟩)
    (fun X => by
      obtain ⟨Y, hY⟩ := p14_x o1 o2 L.length cap1 cap2 (cwx fl1 o1 L) (cwx fl1 o2 M) g b t' q m (L.length : Int) X
      exact ⟨Y, runLS_step mix hY ⟨decide_eq_false (by omega), trivial⟩⟩) L.length 0 Y2 (by omega)
  rw [List.drop_zero, List.drop_zero] at key
  have hsub : Sub (HT o1 o2 (cwx fl1 o1 L) (cwx fl1 o2 M)) (HT14 (slw 1 o1 L.length cap1) (slw 2 o2 L.length cap2) g b t' q m o1 o2 (cwx fl1 o1 L) (cwx fl1 o2 M)) := fun i o hi => by
    simp only [look] at hi ⊢
    by_cases e1 : 1 = i
    · subst e1; simpa using hi
    · rw [if_neg e1] at hi
      by_cases e2 : 2 = i
      · subst e2; simpa using hi
      · rw [if_neg e2] at hi; cases hi
  by_cases e : L = M
  · rw [decide_eq_true e]
    obtain ⟨r, Y, hl⟩ := key.1 e
    obtain ⟨T, hE, hv⟩ := p14_e o1 o2 L.length cap1 cap2 (cwx fl1 o1 L) (cwx fl1 o2 M) g b t' q m (L.length : Int) Y
    exact callsV_step Try.func14 b14_eq (StepV.seq s0 (StepV.seq s1 (StepV.seq (StepV.seq s2 (LoopN.loop hl).block) (runLS_step mix hE trivial)))) rfl hv rfl hsub rfl
  · rw [decide_eq_false e]
    obtain ⟨r, T, hl, hv⟩ := key.2 e
    exact callsV_step Try.func14 b14_eq (StepV.seq s0 (StepV.seq s1 (StepV.seqrW (StepV.seq s2 (StepV.blockrW (id := 0) (LoopN.loop hl)))))) rfl hv rfl hsub rfl

end Go.Proofs.Ytelohlpjgfknoaa
