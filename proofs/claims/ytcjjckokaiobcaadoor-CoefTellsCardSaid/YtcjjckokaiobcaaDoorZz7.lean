/- Texts of the seat, joined. -/
import Derived.Test.YtcjjckokaiobcaaDoorZz6
/- The same operations; the same numbers. -/
namespace Go.Proofs.YtcjjckokaiobcaaDoor
open Go Go.RowKit
set_option linter.unusedSimpArgs false
set_option linter.unusedVariables false
set_option maxRecDepth 100000

theorem cwI_at (off : Nat) {L : List Int} {i : Nat} {x : Int} (h : L[i]? = some x) : (cwx fl1 off L)[off + i * 1]? = some (ii x) := by
  rw [cwx_at (Nat.le_add_right _ _), Nat.add_sub_cancel_left, Nat.mul_one, fl1_map, List.getElem?_map, h]
  rfl
def eqO (a b : Op3) : Bool := (a.1 == b.1) && ((a.2.1 == b.2.1) && ((a.2.2 == b.2.2) && true))
theorem eqO_iff {a b : Op3} : eqO a b = true ↔ a = b := by
  obtain ⟨a1, a2, a3⟩ := a
  obtain ⟨b1, b2, b3⟩ := b
  simp [eqO]
def eqJ (a b : Int) : Bool := a == b
theorem eqJ_iff {a b : Int} : eqJ a b = true ↔ a = b := by simp [eqJ]
def F16 (s s' : Value) (i : Int) (X : Nat → Value) : List Value := [s, s', ud, ud, bb false, ii i, X 6, X 7, X 8, X 9, X 10, X 11, X 12, X 13, X 14, X 15, X 16, X 17, X 18, X 19, X 20, X 21, X 22, X 23, X 24, X 25]
abbrev H2w (off off2 : Nat) (c c' : Array Value) : Hp := [(1, win off c), (2, win off2 c')]
theorem drop_eq_cons {α : Type} {L : List α} {i : Nat} {x : α} (h : L[i]? = some x) : L.drop i = x :: L.drop (i + 1) := by
  obtain ⟨hlt, rfl⟩ := List.getElem?_eq_some_iff.1 h
  exact List.drop_eq_getElem_cons hlt
noncomputable def b16 : Code := match Tryd.f16.body with | some c => c | none => .skip
noncomputable def L16 : Code := cK (cK (cB (pcx 2 b16)))
theorem b16_eq : Tryd.f16.body = some (.seq (pcx 0 b16) (.seq (pcx 1 b16) (.seq (.seq (cA (pcx 2 b16)) (.block 0 (.loop L16))) (cB (cB (cB b16)))))) := by kernel_rfl
section
variable (off n' cap off2 m' cap2 : Nat) (c c' : Array Value) (i : Int) (X : Nat → Value) (a b : Op3)
def ow16 (v : Bool) : List Prop := [decide (i < (n' : Int)) = true, ixO i n', off ≤ off + i.toNat * 3, (c.toList.drop (off + i.toNat * 3)).take 3 = flO a, ixO i m', off2 ≤ off2 + i.toNat * 3, (c'.toList.drop (off2 + i.toNat * 3)).take 3 = flO b, (!(eqO a b)) = v]
theorem t16_p0 : runLS Tryd.prog 1000 (pcx 0 b16) (frame0 Tryd.f16 #[slw 1 off n' cap, slw 2 off2 m' cap2]) (H2w off off2 c c') [] [] [] [] = some (.normal, [slw 1 off n' cap, slw 2 off2 m' cap2, ud, ud, bb false] ++ List.replicate 21 ud, H2w off off2 c c', []) := by kernel_rfl
theorem t16_p1 : ∃ Y, runLS Tryd.prog 1000 (pcx 1 b16) ([slw 1 off n' cap, slw 2 off2 m' cap2, ud, ud, bb false] ++ List.replicate 21 ud) (H2w off off2 c c') [f] [] [] [] = some (.normal, (F16 (slw 1 off n' cap) (slw 2 off2 m' cap2) 0 Y).set 5 ud, H2w off off2 c c', [((n' : Int) != (m' : Int)) = false]) := ⟨lt (runLS Tryd.prog 1000 (pcx 1 b16) ([slw 1 off n' cap, slw 2 off2 m' cap2, ud, ud, bb false] ++ List.replicate 21 ud) (H2w off off2 c c') [f] [] [] []), by kernel_rfl⟩
theorem t16_p2 : runLS Tryd.prog 1000 (cA (pcx 2 b16)) ((F16 (slw 1 off n' cap) (slw 2 off2 m' cap2) 0 X).set 5 ud) (H2w off off2 c c') [] [] [] [] = some (.normal, F16 (slw 1 off n' cap) (slw 2 off2 m' cap2) 0 X, H2w off off2 c c', []) := by kernel_rfl
theorem t16_x : ∃ Y, runLS Tryd.prog 1000 L16 (F16 (slw 1 off n' cap) (slw 2 off2 m' cap2) i X) (H2w off off2 c c') [f] [] [] [] = some (.exit 0, F16 (slw 1 off n' cap) (slw 2 off2 m' cap2) i Y, H2w off off2 c c', [decide (i < (n' : Int)) = false]) := ⟨lt (runLS Tryd.prog 1000 L16 (F16 (slw 1 off n' cap) (slw 2 off2 m' cap2) i X) (H2w off off2 c c') [f] [] [] []), by kernel_rfl⟩
theorem t16_r : ∃ Y, runLS Tryd.prog 1000 L16 (F16 (slw 1 off n' cap) (slw 2 off2 m' cap2) i X) (H2w off off2 c c') [t, f] [] [] [flO a, flO b] = some (.normal, F16 (slw 1 off n' cap) (slw 2 off2 m' cap2) (wi (i + 1)) Y, H2w off off2 c c', ow16 off n' off2 m' c c' i a b false) := ⟨lt (runLS Tryd.prog 1000 L16 (F16 (slw 1 off n' cap) (slw 2 off2 m' cap2) i X) (H2w off off2 c c') [t, f] [] [] [flO a, flO b]), by kernel_rfl⟩
theorem t16_n : ∃ T, runLS Tryd.prog 1000 L16 (F16 (slw 1 off n' cap) (slw 2 off2 m' cap2) i X) (H2w off off2 c c') [t, t] [] [] [flO a, flO b] = some (.ret, T, H2w off off2 c c', ow16 off n' off2 m' c c' i a b true) ∧ vresults Tryd.prog Tryd.f16 T (H2w off off2 c c') = some (bb false) := ⟨tmpsOf (runLS Tryd.prog 1000 L16 (F16 (slw 1 off n' cap) (slw 2 off2 m' cap2) i X) (H2w off off2 c c') [t, t] [] [] [flO a, flO b]), by kernel_rfl, by kernel_rfl⟩
theorem t16_t : ∃ T, runLS Tryd.prog 1000 (cB (cB (cB b16))) (F16 (slw 1 off n' cap) (slw 2 off2 m' cap2) i X) (H2w off off2 c c') [] [] [] [] = some (.ret, T, H2w off off2 c c', []) ∧ vresults Tryd.prog Tryd.f16 T (H2w off off2 c c') = some (bb true) := ⟨_, rfl, rfl⟩
theorem t16_d : runF Tryd.prog 1000 [1, 2] 16 #[slw 1 off n' cap, slw 2 off2 m' cap2] (H2w off off2 c c') [t] [] [] [] = some (rt (bb false), H2w off off2 c c', [((n' : Int) != (m' : Int)) = true]) := by kernel_rfl
theorem t16_nn : runF Tryd.prog 1000 [] 16 #[sl0, sl0] [] [] [] [] [] = some (rt (bb true), [], []) := by kernel_rfl
theorem t16_wn : runF Tryd.prog 1000 [1] 16 #[slw 1 off n' cap, sl0] [(1, win off c)] [t] [] [] [] = some (rt (bb false), [(1, win off c)], [((n' : Int) != ((0 : Nat) : Int)) = true]) := by kernel_rfl
theorem t16_wn0 : runF Tryd.prog 1000 [1] 16 #[slw 1 off n' cap, sl0] [(1, win off c)] [f, f] [] [] [] = some (rt (bb true), [(1, win off c)], [((n' : Int) != ((0 : Nat) : Int)) = false, decide (0 < (n' : Int)) = false]) := by kernel_rfl
theorem t16_nw : runF Tryd.prog 1000 [2] 16 #[sl0, slw 2 off n' cap] [(2, win off c)] [t] [] [] [] = some (rt (bb false), [(2, win off c)], [(((0 : Nat) : Int) != (n' : Int)) = true]) := by kernel_rfl
theorem t16_nw0 : runF Tryd.prog 1000 [2] 16 #[sl0, slw 2 off n' cap] [(2, win off c)] [f, n] [] [] [] = some (rt (bb true), [(2, win off c)], [(((0 : Nat) : Int) != (n' : Int)) = false]) := by kernel_rfl
end
theorem loop16 (off cap off2 cap2 : Nat) (L M : List Op3) (hL : L.length ≤ 9223372036854775807) (hM : M.length = L.length) : ∀ (j i : Nat) (X : Nat → Value), i + j = L.length →
    (∃ r Y, LoopN Tryd.prog L16 r (F16 (slw 1 off L.length cap) (slw 2 off2 M.length cap2) i X) [] (H2w off off2 (cwx flO off L) (cwx flO off2 M)) (.exit 0) (F16 (slw 1 off L.length cap) (slw 2 off2 M.length cap2) L.length Y) [] (H2w off off2 (cwx flO off L) (cwx flO off2 M)) ∧ L.drop i = M.drop i) ∨
    (∃ r T, LoopN Tryd.prog L16 r (F16 (slw 1 off L.length cap) (slw 2 off2 M.length cap2) i X) [] (H2w off off2 (cwx flO off L) (cwx flO off2 M)) .ret T [] (H2w off off2 (cwx flO off L) (cwx flO off2 M)) ∧ vresults Tryd.prog Tryd.f16 T (H2w off off2 (cwx flO off L) (cwx flO off2 M)) = some (bb false) ∧ L.drop i ≠ M.drop i)
  | 0, i, X, hi => by
    have e : i = L.length := by omega
    subst e
    obtain ⟨Y, e⟩ := t16_x off L.length cap off2 M.length cap2 (cwx flO off L) (cwx flO off2 M) L.length X
    refine .inl ⟨1, Y, LoopN.last (runLS_step mix e ⟨decide_eq_false (by omega), trivial⟩), ?_⟩
    rw [List.drop_length, List.drop_eq_nil_of_le (by omega)]
  | j + 1, i, X, hi => by
    have hlt : i < L.length := by omega
    have hlt2 : i < M.length := by omega
    have hx : L[i]? = some L[i] := List.getElem?_eq_getElem hlt
    have hy : M[i]? = some M[i] := List.getElem?_eq_getElem hlt2
    generalize L[i] = a at hx
    generalize M[i] = b at hy
    rw [drop_eq_cons hx, drop_eq_cons hy]
    have hw := wi_nx hlt hL
    have how : ∀ v, (!(eqO a b)) = v → AllP (ow16 off L.length off2 M.length (cwx flO off L) (cwx flO off2 M) i a b v) := fun v hv => ⟨decide_eq_true (by omega), ⟨by omega, by omega⟩, Nat.le_add_right _ _, cwO_take off hx, ⟨by omega, by omega⟩, Nat.le_add_right _ _, cwO_take off2 hy, hv, trivial⟩
    by_cases he : a = b
    · obtain ⟨Y, e⟩ := t16_r off L.length cap off2 M.length cap2 (cwx flO off L) (cwx flO off2 M) i X a b
      rw [hw] at e
      have s := runLS_step mix e (how false (by rw [eqO_iff.2 he]; rfl))
      rcases loop16 off cap off2 cap2 L M hL hM j (i + 1) Y (by omega) with ⟨r, Z, h1, h2⟩ | ⟨r, T, h1, h2, h3⟩
      · exact .inl ⟨r + 1, Z, LoopN.round s h1, by rw [he, h2]⟩
      · exact .inr ⟨r + 1, T, LoopN.round s h1, h2, fun e => h3 (List.cons.inj e).2⟩
    · obtain ⟨T, e, ev⟩ := t16_n off L.length cap off2 M.length cap2 (cwx flO off L) (cwx flO off2 M) i X a b
      have hne : eqO a b = false := by
        cases h : eqO a b
        · rfl
        · exact absurd (eqO_iff.1 h) he
      exact .inr ⟨1, T, LoopN.lastRet (runLS_step mix e (how true (by rw [hne]; rfl))), ev, fun e => he (List.cons.inj e).1⟩
theorem dsame_s (L M : List Op3) : SemB KO KO Tryd.prog 16 (fun s s' => #[s, s']) L M (bb (decide (L = M))) := by
  refine semB_mk false false (fun _ _ _ => rfl) rfl (fun h1 h2 => ?_) (fun h1 off cap hl hc => ?_) (fun h1 off cap hl hc => ?_) (fun off cap off' cap' hl hc hl' hc' => ?_)
  · subst h1; subst h2
    exact runF_pure mix t16_nn trivial rfl rfl
  · subst h1
    cases M with
    | nil => exact runF_calls mix (t16_nw0 off 0 cap (cwx flO off [])) ⟨rfl, trivial⟩ rfl rfl
    | cons x r =>
      rw [show decide (([] : List Op3) = x :: r) = false from decide_eq_false (by simp)]
      exact runF_calls mix (t16_nw off (x :: r).length cap (cwx flO off (x :: r))) ⟨by simp [bne]; omega, trivial⟩ rfl rfl
  · subst h1
    cases L with
    | nil => exact runF_calls mix (t16_wn0 off 0 cap (cwx flO off [])) ⟨rfl, rfl, trivial⟩ rfl rfl
    | cons x r =>
      rw [show decide (x :: r = ([] : List Op3)) = false from decide_eq_false (by simp)]
      exact runF_calls mix (t16_wn off (x :: r).length cap (cwx flO off (x :: r))) ⟨by simp [bne]; omega, trivial⟩ rfl rfl
  · have hL : L.length ≤ 9223372036854775807 := Nat.le_trans hl (Nat.le_trans hc (by decide))
    by_cases hlen : M.length = L.length
    case neg =>
      rw [show decide (L = M) = false from decide_eq_false (fun e => hlen (by rw [e]))]
      exact runF_calls mix (t16_d off L.length cap off' M.length cap' (cwx flO off L) (cwx flO off' M)) ⟨by simp only [bne_iff_ne, ne_eq]; omega, trivial⟩ rfl rfl
    have s0 := runLS_step mix (t16_p0 off L.length cap off' M.length cap' (cwx flO off L) (cwx flO off' M)) trivial
    obtain ⟨Y, e1⟩ := t16_p1 off L.length cap off' M.length cap' (cwx flO off L) (cwx flO off' M)
    have s1 := runLS_step mix e1 ⟨by rw [hlen]; simp, trivial⟩
    have s2 := runLS_step mix (t16_p2 off L.length cap off' M.length cap' (cwx flO off L) (cwx flO off' M) Y) trivial
    rcases loop16 off cap off' cap' L M hL hlen L.length 0 Y (by omega) with ⟨r, Z, h1, h2⟩ | ⟨r, T, h1, h2, h3⟩
    · obtain ⟨T, e3, e4⟩ := t16_t off L.length cap off' M.length cap' (cwx flO off L) (cwx flO off' M) L.length Z
      rw [show decide (L = M) = true from decide_eq_true h2]
      exact callsV_step (f := 16) (fc := Tryd.f16) rfl b16_eq (s0.seq (s1.seq ((s2.seq ((LoopN.loop h1).block (id := 0))).seq (runLS_step mix e3 trivial)))) rfl e4 rfl (fun _ _ h => h) rfl
    · rw [show decide (L = M) = false from decide_eq_false h3]
      exact callsV_step (f := 16) (fc := Tryd.f16) rfl b16_eq (s0.seq (s1.seq ((s2.seq ((LoopN.loop h1).blockrW (id := 0))).seqrW (y := cB (cB (cB b16)))))) rfl h2 rfl (fun _ _ h => h) rfl
noncomputable def b15 : Code := match Tryd.f15.body with | some c => c | none => .skip
noncomputable def L15 : Code := cK (cK (cB (pcx 2 b15)))
theorem b15_eq : Tryd.f15.body = some (.seq (pcx 0 b15) (.seq (pcx 1 b15) (.seq (.seq (cA (pcx 2 b15)) (.block 0 (.loop L15))) (cB (cB (cB b15)))))) := by kernel_rfl
section
variable (off n' cap off2 m' cap2 : Nat) (c c' : Array Value) (i : Int) (X : Nat → Value) (a b : Int)
def ow15 (v : Bool) : List Prop := [decide (i < (n' : Int)) = true, ixO i n', off ≤ off + i.toNat * 1, c[off + i.toNat * 1]? = some (ii a), ixO i m', off2 ≤ off2 + i.toNat * 1, c'[off2 + i.toNat * 1]? = some (ii b), (!(eqJ a b)) = v]
theorem t15_p0 : runLS Tryd.prog 1000 (pcx 0 b15) (frame0 Tryd.f15 #[slw 1 off n' cap, slw 2 off2 m' cap2]) (H2w off off2 c c') [] [] [] [] = some (.normal, [slw 1 off n' cap, slw 2 off2 m' cap2, ud, ud, bb false] ++ List.replicate 21 ud, H2w off off2 c c', []) := by kernel_rfl
theorem t15_p1 : ∃ Y, runLS Tryd.prog 1000 (pcx 1 b15) ([slw 1 off n' cap, slw 2 off2 m' cap2, ud, ud, bb false] ++ List.replicate 21 ud) (H2w off off2 c c') [f] [] [] [] = some (.normal, (F16 (slw 1 off n' cap) (slw 2 off2 m' cap2) 0 Y).set 5 ud, H2w off off2 c c', [((n' : Int) != (m' : Int)) = false]) := ⟨lt (runLS Tryd.prog 1000 (pcx 1 b15) ([slw 1 off n' cap, slw 2 off2 m' cap2, ud, ud, bb false] ++ List.replicate 21 ud) (H2w off off2 c c') [f] [] [] []), by kernel_rfl⟩
theorem t15_p2 : runLS Tryd.prog 1000 (cA (pcx 2 b15)) ((F16 (slw 1 off n' cap) (slw 2 off2 m' cap2) 0 X).set 5 ud) (H2w off off2 c c') [] [] [] [] = some (.normal, F16 (slw 1 off n' cap) (slw 2 off2 m' cap2) 0 X, H2w off off2 c c', []) := by kernel_rfl
theorem t15_x : ∃ Y, runLS Tryd.prog 1000 L15 (F16 (slw 1 off n' cap) (slw 2 off2 m' cap2) i X) (H2w off off2 c c') [f] [] [] [] = some (.exit 0, F16 (slw 1 off n' cap) (slw 2 off2 m' cap2) i Y, H2w off off2 c c', [decide (i < (n' : Int)) = false]) := ⟨lt (runLS Tryd.prog 1000 L15 (F16 (slw 1 off n' cap) (slw 2 off2 m' cap2) i X) (H2w off off2 c c') [f] [] [] []), by kernel_rfl⟩
theorem t15_r : ∃ Y, runLS Tryd.prog 1000 L15 (F16 (slw 1 off n' cap) (slw 2 off2 m' cap2) i X) (H2w off off2 c c') [t, f] [] [] [[ii a], [ii b]] = some (.normal, F16 (slw 1 off n' cap) (slw 2 off2 m' cap2) (wi (i + 1)) Y, H2w off off2 c c', ow15 off n' off2 m' c c' i a b false) := ⟨lt (runLS Tryd.prog 1000 L15 (F16 (slw 1 off n' cap) (slw 2 off2 m' cap2) i X) (H2w off off2 c c') [t, f] [] [] [[ii a], [ii b]]), by kernel_rfl⟩
theorem t15_n : ∃ T, runLS Tryd.prog 1000 L15 (F16 (slw 1 off n' cap) (slw 2 off2 m' cap2) i X) (H2w off off2 c c') [t, t] [] [] [[ii a], [ii b]] = some (.ret, T, H2w off off2 c c', ow15 off n' off2 m' c c' i a b true) ∧ vresults Tryd.prog Tryd.f15 T (H2w off off2 c c') = some (bb false) := ⟨tmpsOf (runLS Tryd.prog 1000 L15 (F16 (slw 1 off n' cap) (slw 2 off2 m' cap2) i X) (H2w off off2 c c') [t, t] [] [] [[ii a], [ii b]]), by kernel_rfl, by kernel_rfl⟩
theorem t15_t : ∃ T, runLS Tryd.prog 1000 (cB (cB (cB b15))) (F16 (slw 1 off n' cap) (slw 2 off2 m' cap2) i X) (H2w off off2 c c') [] [] [] [] = some (.ret, T, H2w off off2 c c', []) ∧ vresults Tryd.prog Tryd.f15 T (H2w off off2 c c') = some (bb true) := ⟨_, rfl, rfl⟩
theorem t15_d : runF Tryd.prog 1000 [1, 2] 15 #[slw 1 off n' cap, slw 2 off2 m' cap2] (H2w off off2 c c') [t] [] [] [] = some (rt (bb false), H2w off off2 c c', [((n' : Int) != (m' : Int)) = true]) := by kernel_rfl
theorem t15_nn : runF Tryd.prog 1000 [] 15 #[sl0, sl0] [] [] [] [] [] = some (rt (bb true), [], []) := by kernel_rfl
theorem t15_wn : runF Tryd.prog 1000 [1] 15 #[slw 1 off n' cap, sl0] [(1, win off c)] [t] [] [] [] = some (rt (bb false), [(1, win off c)], [((n' : Int) != ((0 : Nat) : Int)) = true]) := by kernel_rfl
theorem t15_wn0 : runF Tryd.prog 1000 [1] 15 #[slw 1 off n' cap, sl0] [(1, win off c)] [f, f] [] [] [] = some (rt (bb true), [(1, win off c)], [((n' : Int) != ((0 : Nat) : Int)) = false, decide (0 < (n' : Int)) = false]) := by kernel_rfl
theorem t15_nw : runF Tryd.prog 1000 [2] 15 #[sl0, slw 2 off n' cap] [(2, win off c)] [t] [] [] [] = some (rt (bb false), [(2, win off c)], [(((0 : Nat) : Int) != (n' : Int)) = true]) := by kernel_rfl
theorem t15_nw0 : runF Tryd.prog 1000 [2] 15 #[sl0, slw 2 off n' cap] [(2, win off c)] [f, n] [] [] [] = some (rt (bb true), [(2, win off c)], [(((0 : Nat) : Int) != (n' : Int)) = false]) := by kernel_rfl
end
theorem loop15 (off cap off2 cap2 : Nat) (L M : List Int) (hL : L.length ≤ 9223372036854775807) (hM : M.length = L.length) : ∀ (j i : Nat) (X : Nat → Value), i + j = L.length →
    (∃ r Y, LoopN Tryd.prog L15 r (F16 (slw 1 off L.length cap) (slw 2 off2 M.length cap2) i X) [] (H2w off off2 (cwx fl1 off L) (cwx fl1 off2 M)) (.exit 0) (F16 (slw 1 off L.length cap) (slw 2 off2 M.length cap2) L.length Y) [] (H2w off off2 (cwx fl1 off L) (cwx fl1 off2 M)) ∧ L.drop i = M.drop i) ∨
    (∃ r T, LoopN Tryd.prog L15 r (F16 (slw 1 off L.length cap) (slw 2 off2 M.length cap2) i X) [] (H2w off off2 (cwx fl1 off L) (cwx fl1 off2 M)) .ret T [] (H2w off off2 (cwx fl1 off L) (cwx fl1 off2 M)) ∧ vresults Tryd.prog Tryd.f15 T (H2w off off2 (cwx fl1 off L) (cwx fl1 off2 M)) = some (bb false) ∧ L.drop i ≠ M.drop i)
  | 0, i, X, hi => by
    have e : i = L.length := by omega
    subst e
    obtain ⟨Y, e⟩ := t15_x off L.length cap off2 M.length cap2 (cwx fl1 off L) (cwx fl1 off2 M) L.length X
    refine .inl ⟨1, Y, LoopN.last (runLS_step mix e ⟨decide_eq_false (by omega), trivial⟩), ?_⟩
    rw [List.drop_length, List.drop_eq_nil_of_le (by omega)]
  | j + 1, i, X, hi => by
    have hlt : i < L.length := by omega
    have hlt2 : i < M.length := by omega
    have hx : L[i]? = some L[i] := List.getElem?_eq_getElem hlt
    have hy : M[i]? = some M[i] := List.getElem?_eq_getElem hlt2
    generalize L[i] = a at hx
    generalize M[i] = b at hy
    rw [drop_eq_cons hx, drop_eq_cons hy]
    have hw := wi_nx hlt hL
    have how : ∀ v, (!(eqJ a b)) = v → AllP (ow15 off L.length off2 M.length (cwx fl1 off L) (cwx fl1 off2 M) i a b v) := fun v hv => ⟨decide_eq_true (by omega), ⟨by omega, by omega⟩, Nat.le_add_right _ _, cwI_at off hx, ⟨by omega, by omega⟩, Nat.le_add_right _ _, cwI_at off2 hy, hv, trivial⟩
    by_cases he : a = b
    · obtain ⟨Y, e⟩ := t15_r off L.length cap off2 M.length cap2 (cwx fl1 off L) (cwx fl1 off2 M) i X a b
      rw [hw] at e
      have s := runLS_step mix e (how false (by rw [eqJ_iff.2 he]; rfl))
      rcases loop15 off cap off2 cap2 L M hL hM j (i + 1) Y (by omega) with ⟨r, Z, h1, h2⟩ | ⟨r, T, h1, h2, h3⟩
      · exact .inl ⟨r + 1, Z, LoopN.round s h1, by rw [he, h2]⟩
      · exact .inr ⟨r + 1, T, LoopN.round s h1, h2, fun e => h3 (List.cons.inj e).2⟩
    · obtain ⟨T, e, ev⟩ := t15_n off L.length cap off2 M.length cap2 (cwx fl1 off L) (cwx fl1 off2 M) i X a b
      have hne : eqJ a b = false := by
        cases h : eqJ a b
        · rfl
        · exact absurd (eqJ_iff.1 h) he
      exact .inr ⟨1, T, LoopN.lastRet (runLS_step mix e (how true (by rw [hne]; rfl))), ev, fun e => he (List.cons.inj e).1⟩
theorem ints_s (L M : List Int) : SemB KI KI Tryd.prog 15 (fun s s' => #[s, s']) L M (bb (decide (L = M))) := by
  refine semB_mk false false (fun _ _ _ => rfl) rfl (fun h1 h2 => ?_) (fun h1 off cap hl hc => ?_) (fun h1 off cap hl hc => ?_) (fun off cap off' cap' hl hc hl' hc' => ?_)
  · subst h1; subst h2
    exact runF_pure mix t15_nn trivial rfl rfl
  · subst h1
    cases M with
    | nil => exact runF_calls mix (t15_nw0 off 0 cap (cwx fl1 off [])) ⟨rfl, trivial⟩ rfl rfl
    | cons x r =>
      rw [show decide (([] : List Int) = x :: r) = false from decide_eq_false (by simp)]
      exact runF_calls mix (t15_nw off (x :: r).length cap (cwx fl1 off (x :: r))) ⟨by simp [bne]; omega, trivial⟩ rfl rfl
  · subst h1
    cases L with
    | nil => exact runF_calls mix (t15_wn0 off 0 cap (cwx fl1 off [])) ⟨rfl, rfl, trivial⟩ rfl rfl
    | cons x r =>
      rw [show decide (x :: r = ([] : List Int)) = false from decide_eq_false (by simp)]
      exact runF_calls mix (t15_wn off (x :: r).length cap (cwx fl1 off (x :: r))) ⟨by simp [bne]; omega, trivial⟩ rfl rfl
  · have hL : L.length ≤ 9223372036854775807 := Nat.le_trans hl (Nat.le_trans hc (by decide))
    by_cases hlen : M.length = L.length
    case neg =>
      rw [show decide (L = M) = false from decide_eq_false (fun e => hlen (by rw [e]))]
      exact runF_calls mix (t15_d off L.length cap off' M.length cap' (cwx fl1 off L) (cwx fl1 off' M)) ⟨by simp only [bne_iff_ne, ne_eq]; omega, trivial⟩ rfl rfl
    have s0 := runLS_step mix (t15_p0 off L.length cap off' M.length cap' (cwx fl1 off L) (cwx fl1 off' M)) trivial
    obtain ⟨Y, e1⟩ := t15_p1 off L.length cap off' M.length cap' (cwx fl1 off L) (cwx fl1 off' M)
    have s1 := runLS_step mix e1 ⟨by rw [hlen]; simp, trivial⟩
    have s2 := runLS_step mix (t15_p2 off L.length cap off' M.length cap' (cwx fl1 off L) (cwx fl1 off' M) Y) trivial
    rcases loop15 off cap off' cap' L M hL hlen L.length 0 Y (by omega) with ⟨r, Z, h1, h2⟩ | ⟨r, T, h1, h2, h3⟩
    · obtain ⟨T, e3, e4⟩ := t15_t off L.length cap off' M.length cap' (cwx fl1 off L) (cwx fl1 off' M) L.length Z
      rw [show decide (L = M) = true from decide_eq_true h2]
      exact callsV_step (f := 15) (fc := Tryd.f15) rfl b15_eq (s0.seq (s1.seq ((s2.seq ((LoopN.loop h1).block (id := 0))).seq (runLS_step mix e3 trivial)))) rfl e4 rfl (fun _ _ h => h) rfl
    · rw [show decide (L = M) = false from decide_eq_false h3]
      exact callsV_step (f := 15) (fc := Tryd.f15) rfl b15_eq (s0.seq (s1.seq ((s2.seq ((LoopN.loop h1).blockrW (id := 0))).seqrW (y := cB (cB (cB b15)))))) rfl h2 rfl (fun _ _ h => h) rfl

end Go.Proofs.YtcjjckokaiobcaaDoor
