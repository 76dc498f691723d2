/- Texts of the seat, joined. -/
import Derived.Test.YtelohlpjgfknoaaZz11
/- Configurations and lists compared, copied, made of rows: what each call answers, wherever the numbers lie. -/
namespace Go.Proofs.Ytelohlpjgfknoaa
open Go Go.RowKit
set_option linter.unusedSimpArgs false
set_option linter.unusedVariables false
set_option maxRecDepth 100000

theorem len_int {a b : Nat} (h : a ≠ b) : ((a : Int) != (b : Int)) = true := bne_iff_ne.2 (fun e => h (Int.ofNat.inj e))
theorem eq_nil_len {M : List Int} (h : M.length = 0) : M = [] := List.length_eq_zero_iff.1 h
theorem ints_s (L M : List Int) : Sem2 Try.prog 13 (fun s s' => #[s, s']) L M (bb (decide (L = M))) := by
  refine sem2_mk (fun _ _ _ => rfl) rfl (fun h h' => ?_) (fun h off cap hl hc => ?_) (fun h off cap hl hc => ?_) (fun off cap off' cap' hl hc hl' hc' => ?_)
  · subst h; subst h'
    exact runF_pure mix eq13_nn trivial rfl rfl
  · subst h
    cases M with
    | nil => exact runF_calls mix (eq13_nw_o off cap _) trivial rfl rfl
    | cons x r =>
      rw [decide_eq_false (show ¬ [] = x :: r by simp)]
      exact runF_calls mix (eq13_nw_x off cap (x :: r).length _) ⟨len_int (show 0 ≠ (x :: r).length by simp), trivial⟩ rfl rfl
  · subst h
    cases L with
    | nil => exact runF_calls mix (eq13_wn_o off cap _) trivial rfl rfl
    | cons x r =>
      rw [decide_eq_false (show ¬ x :: r = [] by simp)]
      exact runF_calls mix (eq13_wn_x off cap (x :: r).length _) ⟨len_int (show (x :: r).length ≠ 0 by simp), trivial⟩ rfl rfl
  · by_cases e : M.length = L.length
    · have := eq13_w off off' cap cap' L M e (Nat.le_trans hl hc)
      rw [e]
      exact this
    · rw [decide_eq_false (fun h => e (by rw [h]))]
      exact runF_calls mix (eq13_ww_x off off' cap cap' L.length M.length _ _) ⟨len_int (fun h => e h.symm), trivial⟩ rfl rfl
theorem equal_s (L M : List Int) : Sem2 Try.prog 34 (fun s s' => #[s, s']) L M (bb (decide (L = M))) := by
  refine sem2_mk (fun _ _ _ => rfl) rfl (fun h h' => ?_) (fun h off cap hl hc => ?_) (fun h off cap hl hc => ?_) (fun off cap off' cap' hl hc hl' hc' => ?_)
  · subst h; subst h'
    exact runF_pure mix eq34_nn trivial rfl rfl
  · subst h
    cases M with
    | nil => exact runF_calls mix (eq34_nw_o off cap _) trivial rfl rfl
    | cons x r =>
      rw [decide_eq_false (show ¬ [] = x :: r by simp)]
      exact runF_calls mix (eq34_nw_x off cap (x :: r).length _) ⟨len_int (show 0 ≠ (x :: r).length by simp), trivial⟩ rfl rfl
  · subst h
    cases L with
    | nil => exact runF_calls mix (eq34_wn_o off cap _) trivial rfl rfl
    | cons x r =>
      rw [decide_eq_false (show ¬ x :: r = [] by simp)]
      exact runF_calls mix (eq34_wn_x off cap (x :: r).length _) ⟨len_int (show (x :: r).length ≠ 0 by simp), trivial⟩ rfl rfl
  · by_cases e : M.length = L.length
    · have := eq34_w off off' cap cap' L M e (Nat.le_trans hl hc)
      rw [e]
      exact this
    · rw [decide_eq_false (fun h => e (by rw [h]))]
      exact runF_calls mix (eq34_ww_x off off' cap cap' L.length M.length _ _) ⟨len_int (fun h => e h.symm), trivial⟩ rfl rfl
/-- Are two configurations the same? -/
def sameB (L M : List Int) (g b t' q m g2 b2 t2 q2 m2 : Int) : Bool := decide (L = M) && (g == g2 && (b == b2 && (t' == t2 && (q == q2 && (m == m2 && true)))))
section
variable (g b t' q m g2 b2 t2 q2 m2 : Int)
theorem ren_2 : ∀ (β : Num) (s s' : Value), renA β #[cv s g b t' q m, cv s' g2 b2 t2 q2 m2] = #[cv (ren β s) g b t' q m, cv (ren β s') g2 b2 t2 q2 m2] := fun _ _ _ => rfl
theorem psame_s (L M : List Int) : Sem2 Try.prog 23 (fun s s' => #[cv s g b t' q m, cv s' g2 b2 t2 q2 m2]) L M (bb (sameB L M g b t' q m g2 b2 t2 q2 m2)) := by
  refine sem2_mk (ren_2 g b t' q m g2 b2 t2 q2 m2) rfl (fun h h' => ?_) (fun h off cap hl hc => ?_) (fun h off cap hl hc => ?_) (fun off cap off' cap' hl hc hl' hc' => ?_)
  · subst h; subst h'
    exact runF_pure mix (psame_nn_1 g b t' q m g2 b2 t2 q2 m2) ⟨runF_pure mix eq34_nn trivial rfl rfl, trivial⟩ rfl rfl
  · subst h
    have w := sem2_calls (equal_s [] M) (fun _ _ _ => rfl) rfl (H := [(2, win off (cwx fl1 off M))]) (s := sl0) (s' := slw 2 off M.length cap) (fun β w hR => ⟨ll_nil, ll_win hR rfl hl hc⟩)
    unfold sameB
    cases e : decide (([] : List Int) = M) <;> rw [e] at w
    · rw [Bool.false_and]; exact runF_calls mix (psame_nw_0 off cap M.length _ g b t' q m g2 b2 t2 q2 m2) ⟨w, trivial⟩ rfl rfl
    · rw [Bool.true_and]; exact runF_calls mix (psame_nw_1 off cap M.length _ g b t' q m g2 b2 t2 q2 m2) ⟨w, trivial⟩ rfl rfl
  · subst h
    have w := sem2_calls (equal_s L []) (fun _ _ _ => rfl) rfl (H := [(1, win off (cwx fl1 off L))]) (s := slw 1 off L.length cap) (s' := sl0) (fun β w hR => ⟨ll_win hR rfl hl hc, ll_nil⟩)
    unfold sameB
    cases e : decide (L = ([] : List Int)) <;> rw [e] at w
    · rw [Bool.false_and]; exact runF_calls mix (psame_wn_0 off cap L.length _ g b t' q m g2 b2 t2 q2 m2) ⟨w, trivial⟩ rfl rfl
    · rw [Bool.true_and]; exact runF_calls mix (psame_wn_1 off cap L.length _ g b t' q m g2 b2 t2 q2 m2) ⟨w, trivial⟩ rfl rfl
  · have w := sem2_calls (equal_s L M) (fun _ _ _ => rfl) rfl (H := [(1, win off (cwx fl1 off L)), (2, win off' (cwx fl1 off' M))]) (s := slw 1 off L.length cap) (s' := slw 2 off' M.length cap') (fun β w hR => ⟨ll_win hR rfl hl hc, ll_win hR rfl hl' hc'⟩)
    unfold sameB
    cases e : decide (L = M) <;> rw [e] at w
    · rw [Bool.false_and]; exact runF_calls mix (psame_ww_0 off off' cap cap' L.length M.length _ _ g b t' q m g2 b2 t2 q2 m2) ⟨w, trivial⟩ rfl rfl
    · rw [Bool.true_and]
      refine callsV_perm (runF_calls mix (psame_ww_1 off off' cap cap' L.length M.length _ _ g b t' q m g2 b2 t2 q2 m2) ⟨w, trivial⟩ rfl rfl) (fun i => ?_)
      simp only [look]
      by_cases e1 : 1 = i <;> by_cases e2 : 2 = i <;> simp [e1, e2]
      omega
theorem dsame_s (L M : List Int) : Sem2 Try.prog 14 (fun s s' => #[cv s g b t' q m, cv s' g2 b2 t2 q2 m2]) L M (bb (sameB L M g b t' q m g2 b2 t2 q2 m2)) := by
  have sT : ∀ (L : List Int), sameB L L g b t' q m g b t' q m = true := fun L => by unfold sameB; simp
  refine sem2_mk (ren_2 g b t' q m g2 b2 t2 q2 m2) rfl (fun h h' => ?_) (fun h off cap hl hc => ?_) (fun h off cap hl hc => ?_) (fun off cap off' cap' hl hc hl' hc' => ?_)
  · subst h; subst h'
    by_cases e0 : g = g2
    case neg =>
      rw [show sameB [] [] g b t' q m g2 b2 t2 q2 m2 = false by unfold sameB; simp [e0]]
      exact runF_pure mix (same_nn_1  g b t' q m g2 b2 t2 q2 m2) ⟨bne_iff_ne.2 e0, trivial⟩ rfl rfl
    subst e0
    by_cases e1 : b = b2
    case neg =>
      rw [show sameB [] [] g b t' q m g b2 t2 q2 m2 = false by unfold sameB; simp [e1]]
      exact runF_pure mix (same_nn_2  g b t' q m b2 t2 q2 m2) ⟨bne_self_eq_false _, bne_iff_ne.2 e1, trivial⟩ rfl rfl
    subst e1
    by_cases e2 : t' = t2
    case neg =>
      rw [show sameB [] [] g b t' q m g b t2 q2 m2 = false by unfold sameB; simp [e2]]
      exact runF_pure mix (same_nn_3  g b t' q m t2 q2 m2) ⟨bne_self_eq_false _, bne_self_eq_false _, bne_iff_ne.2 e2, trivial⟩ rfl rfl
    subst e2
    by_cases e3 : q = q2
    case neg =>
      rw [show sameB [] [] g b t' q m g b t' q2 m2 = false by unfold sameB; simp [e3]]
      exact runF_pure mix (same_nn_4  g b t' q m q2 m2) ⟨bne_self_eq_false _, bne_self_eq_false _, bne_self_eq_false _, bne_iff_ne.2 e3, trivial⟩ rfl rfl
    subst e3
    by_cases e4 : m = m2
    case neg =>
      rw [show sameB [] [] g b t' q m g b t' q m2 = false by unfold sameB; simp [e4]]
      exact runF_pure mix (same_nn_5  g b t' q m m2) ⟨bne_self_eq_false _, bne_self_eq_false _, bne_self_eq_false _, bne_self_eq_false _, bne_iff_ne.2 e4, trivial⟩ rfl rfl
    subst e4
    rw [sT]
    exact runF_pure mix (same_nn_o g b t' q m) ⟨bne_self_eq_false _, bne_self_eq_false _, bne_self_eq_false _, bne_self_eq_false _, bne_self_eq_false _, trivial⟩ rfl rfl
  · subst h
    cases M with
    | cons x r =>
      rw [show sameB [] (x :: r) g b t' q m g2 b2 t2 q2 m2 = false by unfold sameB; simp]
      exact runF_calls mix (same_nw_0 off cap (x :: r).length _ g b t' q m g2 b2 t2 q2 m2) ⟨len_int (show 0 ≠ (x :: r).length by simp), trivial⟩ rfl rfl
    | nil =>
      by_cases e0 : g = g2
      case neg =>
        rw [show sameB [] [] g b t' q m g2 b2 t2 q2 m2 = false by unfold sameB; simp [e0]]
        exact runF_calls mix (same_nw_1 off cap _ g b t' q m g2 b2 t2 q2 m2) ⟨bne_iff_ne.2 e0, trivial⟩ rfl rfl
      subst e0
      by_cases e1 : b = b2
      case neg =>
        rw [show sameB [] [] g b t' q m g b2 t2 q2 m2 = false by unfold sameB; simp [e1]]
        exact runF_calls mix (same_nw_2 off cap _ g b t' q m b2 t2 q2 m2) ⟨bne_self_eq_false _, bne_iff_ne.2 e1, trivial⟩ rfl rfl
      subst e1
      by_cases e2 : t' = t2
      case neg =>
        rw [show sameB [] [] g b t' q m g b t2 q2 m2 = false by unfold sameB; simp [e2]]
        exact runF_calls mix (same_nw_3 off cap _ g b t' q m t2 q2 m2) ⟨bne_self_eq_false _, bne_self_eq_false _, bne_iff_ne.2 e2, trivial⟩ rfl rfl
      subst e2
      by_cases e3 : q = q2
      case neg =>
        rw [show sameB [] [] g b t' q m g b t' q2 m2 = false by unfold sameB; simp [e3]]
        exact runF_calls mix (same_nw_4 off cap _ g b t' q m q2 m2) ⟨bne_self_eq_false _, bne_self_eq_false _, bne_self_eq_false _, bne_iff_ne.2 e3, trivial⟩ rfl rfl
      subst e3
      by_cases e4 : m = m2
      case neg =>
        rw [show sameB [] [] g b t' q m g b t' q m2 = false by unfold sameB; simp [e4]]
        exact runF_calls mix (same_nw_5 off cap _ g b t' q m m2) ⟨bne_self_eq_false _, bne_self_eq_false _, bne_self_eq_false _, bne_self_eq_false _, bne_iff_ne.2 e4, trivial⟩ rfl rfl
      subst e4
      rw [sT]
      exact runF_calls mix (same_nw_o off cap _ g b t' q m) ⟨bne_self_eq_false _, bne_self_eq_false _, bne_self_eq_false _, bne_self_eq_false _, bne_self_eq_false _, trivial⟩ rfl rfl
  · subst h
    cases L with
    | cons x r =>
      rw [show sameB (x :: r) [] g b t' q m g2 b2 t2 q2 m2 = false by unfold sameB; simp]
      exact runF_calls mix (same_wn_0 off cap (x :: r).length _ g b t' q m g2 b2 t2 q2 m2) ⟨len_int (show (x :: r).length ≠ 0 by simp), trivial⟩ rfl rfl
    | nil =>
      by_cases e0 : g = g2
      case neg =>
        rw [show sameB [] [] g b t' q m g2 b2 t2 q2 m2 = false by unfold sameB; simp [e0]]
        exact runF_calls mix (same_wn_1 off cap _ g b t' q m g2 b2 t2 q2 m2) ⟨bne_iff_ne.2 e0, trivial⟩ rfl rfl
      subst e0
      by_cases e1 : b = b2
      case neg =>
        rw [show sameB [] [] g b t' q m g b2 t2 q2 m2 = false by unfold sameB; simp [e1]]
        exact runF_calls mix (same_wn_2 off cap _ g b t' q m b2 t2 q2 m2) ⟨bne_self_eq_false _, bne_iff_ne.2 e1, trivial⟩ rfl rfl
      subst e1
      by_cases e2 : t' = t2
      case neg =>
        rw [show sameB [] [] g b t' q m g b t2 q2 m2 = false by unfold sameB; simp [e2]]
        exact runF_calls mix (same_wn_3 off cap _ g b t' q m t2 q2 m2) ⟨bne_self_eq_false _, bne_self_eq_false _, bne_iff_ne.2 e2, trivial⟩ rfl rfl
      subst e2
      by_cases e3 : q = q2
      case neg =>
        rw [show sameB [] [] g b t' q m g b t' q2 m2 = false by unfold sameB; simp [e3]]
        exact runF_calls mix (same_wn_4 off cap _ g b t' q m q2 m2) ⟨bne_self_eq_false _, bne_self_eq_false _, bne_self_eq_false _, bne_iff_ne.2 e3, trivial⟩ rfl rfl
      subst e3
      by_cases e4 : m = m2
      case neg =>
        rw [show sameB [] [] g b t' q m g b t' q m2 = false by unfold sameB; simp [e4]]
        exact runF_calls mix (same_wn_5 off cap _ g b t' q m m2) ⟨bne_self_eq_false _, bne_self_eq_false _, bne_self_eq_false _, bne_self_eq_false _, bne_iff_ne.2 e4, trivial⟩ rfl rfl
      subst e4
      rw [sT]
      exact runF_calls mix (same_wn_o off cap _ g b t' q m) ⟨bne_self_eq_false _, bne_self_eq_false _, bne_self_eq_false _, bne_self_eq_false _, bne_self_eq_false _, trivial⟩ rfl rfl
  · by_cases e : M.length = L.length
    case neg =>
      rw [show sameB L M g b t' q m g2 b2 t2 q2 m2 = false by unfold sameB; rw [decide_eq_false (fun h => e (by rw [h]))]; rfl]
      exact runF_calls mix (same_ww_0 off off' cap cap' L.length M.length _ _ g b t' q m g2 b2 t2 q2 m2) ⟨len_int (fun h => e h.symm), trivial⟩ rfl rfl
    rw [e]
    by_cases e0 : g = g2
    case neg =>
      rw [show sameB L M g b t' q m g2 b2 t2 q2 m2 = false by unfold sameB; simp [e0]]
      exact runF_calls mix (same_ww_1 off off' cap cap' L.length _ _ g b t' q m g2 b2 t2 q2 m2) ⟨bne_self_eq_false _, bne_iff_ne.2 e0, trivial⟩ rfl rfl
    subst e0
    by_cases e1 : b = b2
    case neg =>
      rw [show sameB L M g b t' q m g b2 t2 q2 m2 = false by unfold sameB; simp [e1]]
      exact runF_calls mix (same_ww_2 off off' cap cap' L.length _ _ g b t' q m b2 t2 q2 m2) ⟨bne_self_eq_false _, bne_self_eq_false _, bne_iff_ne.2 e1, trivial⟩ rfl rfl
    subst e1
    by_cases e2 : t' = t2
    case neg =>
      rw [show sameB L M g b t' q m g b t2 q2 m2 = false by unfold sameB; simp [e2]]
      exact runF_calls mix (same_ww_3 off off' cap cap' L.length _ _ g b t' q m t2 q2 m2) ⟨bne_self_eq_false _, bne_self_eq_false _, bne_self_eq_false _, bne_iff_ne.2 e2, trivial⟩ rfl rfl
    subst e2
    by_cases e3 : q = q2
    case neg =>
      rw [show sameB L M g b t' q m g b t' q2 m2 = false by unfold sameB; simp [e3]]
      exact runF_calls mix (same_ww_4 off off' cap cap' L.length _ _ g b t' q m q2 m2) ⟨bne_self_eq_false _, bne_self_eq_false _, bne_self_eq_false _, bne_self_eq_false _, bne_iff_ne.2 e3, trivial⟩ rfl rfl
    subst e3
    by_cases e4 : m = m2
    case neg =>
      rw [show sameB L M g b t' q m g b t' q m2 = false by unfold sameB; simp [e4]]
      exact runF_calls mix (same_ww_5 off off' cap cap' L.length _ _ g b t' q m m2) ⟨bne_self_eq_false _, bne_self_eq_false _, bne_self_eq_false _, bne_self_eq_false _, bne_self_eq_false _, bne_iff_ne.2 e4, trivial⟩ rfl rfl
    subst e4
    rw [show sameB L M g b t' q m g b t' q m = decide (L = M) by unfold sameB; simp]
    exact eq14_w off off' cap cap' g b t' q m L M e (Nat.le_trans hl hc)
end
/-- A copy. -/
theorem own_nil (g b t' q m : Int) : Sem1 Try.prog 24 (fun s => #[cv s g b t' q m]) [] (cv sl0 g b t' q m) :=
  sem1_mk (ren_cv g b t' q m) rfl (fun _ => runF_pure mix (own_n g b t' q m) trivial rfl rfl) (fun off cap hl hc => runF_calls mix (own_z off cap _ g b t' q m) trivial rfl rfl)
theorem cw_drop (off : Nat) (L : List Int) (k j : Nat) : ((cwx fl1 off L).toList.drop (off + k)).take j = ((L.drop k).take j).flatMap fl1 := by
  show ((List.replicate off ud ++ L.flatMap fl1).drop (off + k)).take j = _
  rw [List.drop_append, List.length_replicate, List.drop_eq_nil_of_le (by simp), List.nil_append, Nat.add_sub_cancel_left, fl1_map, fl1_map, List.map_take, List.map_drop]
theorem own_s (g b t' q m : Int) {L : List Int} (h : L ≠ []) (h6 : L.length ≤ 60) : New1 Try.prog 24 (fun s => #[cv s g b t' q m]) L (fun s => cv s g b t' q m) L := by
  have hp : 0 < L.length := List.length_pos_iff.2 h
  refine new1_ofw (k := 2002) (ren_cv g b t' q m) (fun _ _ => rfl) h (by decide) (fun off cap hl hc => ?_)
  refine runF_calls mix (own_w off L.length cap (cwx fl1 off L) (L.flatMap fl1) g b t' q m) ⟨Nat.le_refl _, ⟨⟨hp, Nat.le_trans h6 (by decide), by omega, by rw [fl1_len, Nat.mul_one]⟩, fl1_plain L, ?_⟩, trivial⟩ rfl rfl
  have := cw_drop off L 0 (L.flatMap fl1).length
  rw [fl1_len] at this ⊢
  rw [Nat.add_zero] at this
  rw [this]
  simp
/-- What a row is of. -/
abbrev cz : Value := cv sl0 0 0 0 0 0
def isRow (R : List Int) : Prop := ∃ L g b t' q m, okL L g b t' q m ∧ R = rowL L g b t' q m
theorem five (l : List Int) (h : l.length = 5) : ∃ a b c d e, l = [a, b, c, d, e] := by
  match l, h with
  | [a, b, c, d, e], _ => exact ⟨a, b, c, d, e, rfl⟩
theorem shape4 (R : List Int) (x : Int) (r : List Int) (e : R = x :: r) (hx : inZ x 1 4 = true) (hl : (R.length : Int) = x + 6) :
    ∃ L g b t' q m, (1 ≤ L.length ∧ L.length ≤ 4) ∧ R = rowL L g b t' q m := by
  have h4 := inZ_iff.1 hx
  subst e
  rw [List.length_cons] at hl
  obtain ⟨a, b, c, d, e, h5⟩ := five (r.drop x.toNat) (by rw [List.length_drop]; omega)
  refine ⟨r.take x.toNat, a, b, c, d, e, ⟨by rw [List.length_take]; omega, by rw [List.length_take]; omega⟩, ?_⟩
  unfold rowL
  rw [← h5, List.take_append_drop, List.length_take, Nat.min_eq_left (by omega)]
  congr 1
  omega
section
variable (g b t' q m : Int)
theorem rowx_no {L : List Int} (h : ¬ isRow (rowL L g b t' q m)) : ¬ okL L g b t' q m := fun hk => h ⟨L, g, b, t', q, m, hk, rfl⟩
theorem of_bad {L : List Int} (h4 : 1 ≤ L.length ∧ L.length ≤ 4) (h : ¬ okL L g b t' q m) : Sem1 Try.prog 11 (fun s => #[s]) (rowL L g b t' q m) (tp [cz, ii 110]) := by
  match L, h, h4 with
  | [a1], h, _ => exact sem1_seen (fun _ _ => rfl) rfl (fun h => (by cases h)) (fun cap hl hc => runF_calls mix (of_1_0 cap a1 g b t' q m) ⟨⟨show 7 ≤ cap from hl, hc⟩, chk_g g b t' q m 15 (chk_p g b t' q m) (L := [a1]) (chk_no h), trivial⟩ rfl rfl)
  | [a1, a2], h, _ => exact sem1_seen (fun _ _ => rfl) rfl (fun h => (by cases h)) (fun cap hl hc => runF_calls mix (of_2_0 cap a1 a2 g b t' q m) ⟨⟨show 8 ≤ cap from hl, hc⟩, chk_g g b t' q m 15 (chk_p g b t' q m) (L := [a1, a2]) (chk_no h), trivial⟩ rfl rfl)
  | [a1, a2, a3], h, _ => exact sem1_seen (fun _ _ => rfl) rfl (fun h => (by cases h)) (fun cap hl hc => runF_calls mix (of_3_0 cap a1 a2 a3 g b t' q m) ⟨⟨show 9 ≤ cap from hl, hc⟩, chk_g g b t' q m 15 (chk_p g b t' q m) (L := [a1, a2, a3]) (chk_no h), trivial⟩ rfl rfl)
  | [a1, a2, a3, a4], h, _ => exact sem1_seen (fun _ _ => rfl) rfl (fun h => (by cases h)) (fun cap hl hc => runF_calls mix (of_4_0 cap a1 a2 a3 a4 g b t' q m) ⟨⟨show 10 ≤ cap from hl, hc⟩, chk_g g b t' q m 15 (chk_p g b t' q m) (L := [a1, a2, a3, a4]) (chk_no h), trivial⟩ rfl rfl)
  | [], _, h => exact absurd h.1 (by decide)
  | _ :: _ :: _ :: _ :: _ :: r, _, h => exact absurd h.2 (by simp)
theorem of_yes {L : List Int} (h : okL L g b t' q m) : New1 Try.prog 11 (fun s => #[s]) (rowL L g b t' q m) (fun s => tp [cv s g b t' q m, ii 0]) L := by
  match L, h, (ok_parts h).1 with
  | [a1], h, _ => exact new1_of (k := 4002) (cc := capU) (fun _ _ => rfl) (fun _ _ => rfl) (by simp [rowL]) (.inl ⟨rfl, rfl⟩) (by decide) (fun cap hl hc => runF_calls mix (of_1_1 cap a1 g b t' q m) ⟨⟨show 7 ≤ cap from hl, hc⟩, chk_g g b t' q m 15 (chk_p g b t' q m) (L := [a1]) (chk_ok h), trivial⟩ rfl rfl)
  | [a1, a2], h, _ => exact new1_of (k := 4002) (cc := capU) (fun _ _ => rfl) (fun _ _ => rfl) (by simp [rowL]) (.inl ⟨rfl, rfl⟩) (by decide) (fun cap hl hc => runF_calls mix (of_2_1 cap a1 a2 g b t' q m) ⟨⟨show 8 ≤ cap from hl, hc⟩, chk_g g b t' q m 15 (chk_p g b t' q m) (L := [a1, a2]) (chk_ok h), trivial⟩ rfl rfl)
  | [a1, a2, a3], h, _ => exact new1_of (k := 4002) (cc := capU) (fun _ _ => rfl) (fun _ _ => rfl) (by simp [rowL]) (.inl ⟨rfl, rfl⟩) (by decide) (fun cap hl hc => runF_calls mix (of_3_1 cap a1 a2 a3 g b t' q m) ⟨⟨show 9 ≤ cap from hl, hc⟩, chk_g g b t' q m 15 (chk_p g b t' q m) (L := [a1, a2, a3]) (chk_ok h), trivial⟩ rfl rfl)
  | [a1, a2, a3, a4], h, _ => exact new1_of (k := 4002) (cc := capU) (fun _ _ => rfl) (fun _ _ => rfl) (by simp [rowL]) (.inl ⟨rfl, rfl⟩) (by decide) (fun cap hl hc => runF_calls mix (of_4_1 cap a1 a2 a3 a4 g b t' q m) ⟨⟨show 10 ≤ cap from hl, hc⟩, chk_g g b t' q m 15 (chk_p g b t' q m) (L := [a1, a2, a3, a4]) (chk_ok h), trivial⟩ rfl rfl)
  | [], _, h => exact absurd h.1 (by decide)
  | _ :: _ :: _ :: _ :: _ :: r, _, h => exact absurd h.2 (by simp)
theorem dof_bad {L : List Int} (h4 : 1 ≤ L.length ∧ L.length ≤ 4) (h : ¬ okL L g b t' q m) : Sem1 Try.prog 12 (fun s => #[s]) (rowL L g b t' q m) (tp [cz, ii 110]) := by
  match L, h, h4 with
  | [a1], h, _ => exact sem1_seen (fun _ _ => rfl) rfl (fun h => (by cases h)) (fun cap hl hc => runF_calls mix (dof_1_0 cap a1 g b t' q m) ⟨⟨show 7 ≤ cap from hl, hc⟩, ⟨show 7 ≤ cap from hl, hc⟩, chk_g g b t' q m 16 (dchk_p g b t' q m) (L := [a1]) (chk_no h), trivial⟩ rfl rfl)
  | [a1, a2], h, _ => exact sem1_seen (fun _ _ => rfl) rfl (fun h => (by cases h)) (fun cap hl hc => runF_calls mix (dof_2_0 cap a1 a2 g b t' q m) ⟨⟨show 8 ≤ cap from hl, hc⟩, ⟨show 8 ≤ cap from hl, hc⟩, chk_g g b t' q m 16 (dchk_p g b t' q m) (L := [a1, a2]) (chk_no h), trivial⟩ rfl rfl)
  | [a1, a2, a3], h, _ => exact sem1_seen (fun _ _ => rfl) rfl (fun h => (by cases h)) (fun cap hl hc => runF_calls mix (dof_3_0 cap a1 a2 a3 g b t' q m) ⟨⟨show 9 ≤ cap from hl, hc⟩, ⟨show 9 ≤ cap from hl, hc⟩, chk_g g b t' q m 16 (dchk_p g b t' q m) (L := [a1, a2, a3]) (chk_no h), trivial⟩ rfl rfl)
  | [a1, a2, a3, a4], h, _ => exact sem1_seen (fun _ _ => rfl) rfl (fun h => (by cases h)) (fun cap hl hc => runF_calls mix (dof_4_0 cap a1 a2 a3 a4 g b t' q m) ⟨⟨show 10 ≤ cap from hl, hc⟩, ⟨show 10 ≤ cap from hl, hc⟩, chk_g g b t' q m 16 (dchk_p g b t' q m) (L := [a1, a2, a3, a4]) (chk_no h), trivial⟩ rfl rfl)
  | [], _, h => exact absurd h.1 (by decide)
  | _ :: _ :: _ :: _ :: _ :: r, _, h => exact absurd h.2 (by simp)
theorem dof_yes {L : List Int} (h : okL L g b t' q m) : New1 Try.prog 12 (fun s => #[s]) (rowL L g b t' q m) (fun s => tp [cv s g b t' q m, ii 0]) L := by
  match L, h, (ok_parts h).1 with
  | [a1], h, _ => exact new1_of (k := 4002) (cc := capU) (fun _ _ => rfl) (fun _ _ => rfl) (by simp [rowL]) (.inl ⟨rfl, rfl⟩) (by decide) (fun cap hl hc => runF_calls mix (dof_1_1 cap a1 g b t' q m) ⟨⟨show 7 ≤ cap from hl, hc⟩, ⟨show 7 ≤ cap from hl, hc⟩, chk_g g b t' q m 16 (dchk_p g b t' q m) (L := [a1]) (chk_ok h), trivial⟩ rfl rfl)
  | [a1, a2], h, _ => exact new1_of (k := 4002) (cc := capU) (fun _ _ => rfl) (fun _ _ => rfl) (by simp [rowL]) (.inl ⟨rfl, rfl⟩) (by decide) (fun cap hl hc => runF_calls mix (dof_2_1 cap a1 a2 g b t' q m) ⟨⟨show 8 ≤ cap from hl, hc⟩, ⟨show 8 ≤ cap from hl, hc⟩, chk_g g b t' q m 16 (dchk_p g b t' q m) (L := [a1, a2]) (chk_ok h), trivial⟩ rfl rfl)
  | [a1, a2, a3], h, _ => exact new1_of (k := 4002) (cc := capU) (fun _ _ => rfl) (fun _ _ => rfl) (by simp [rowL]) (.inl ⟨rfl, rfl⟩) (by decide) (fun cap hl hc => runF_calls mix (dof_3_1 cap a1 a2 a3 g b t' q m) ⟨⟨show 9 ≤ cap from hl, hc⟩, ⟨show 9 ≤ cap from hl, hc⟩, chk_g g b t' q m 16 (dchk_p g b t' q m) (L := [a1, a2, a3]) (chk_ok h), trivial⟩ rfl rfl)
  | [a1, a2, a3, a4], h, _ => exact new1_of (k := 4002) (cc := capU) (fun _ _ => rfl) (fun _ _ => rfl) (by simp [rowL]) (.inl ⟨rfl, rfl⟩) (by decide) (fun cap hl hc => runF_calls mix (dof_4_1 cap a1 a2 a3 a4 g b t' q m) ⟨⟨show 10 ≤ cap from hl, hc⟩, ⟨show 10 ≤ cap from hl, hc⟩, chk_g g b t' q m 16 (dchk_p g b t' q m) (L := [a1, a2, a3, a4]) (chk_ok h), trivial⟩ rfl rfl)
  | [], _, h => exact absurd h.1 (by decide)
  | _ :: _ :: _ :: _ :: _ :: r, _, h => exact absurd h.2 (by simp)
end
theorem cw_0 (off : Nat) (x : Int) (r : List Int) : (cwx fl1 off (x :: r))[off + 0]? = some (ii x) := cw_get off (i := 0) rfl
theorem of_no {R : List Int} (h : ¬ isRow R) : Sem1 Try.prog 11 (fun s => #[s]) R (tp [cz, ii 110]) := by
  match R, h with
  | [], _ =>
    exact sem1_mk (fun _ _ => rfl) rfl (fun _ => runF_pure mix of_n trivial rfl rfl) (fun off cap hl hc => runF_calls mix (of_0 off 0 cap _) ⟨rfl, trivial⟩ rfl rfl)
  | x :: r, h =>
    have hp : 0 ≤ (0 : Int) ∧ (0 : Int) < (((x :: r).length : Nat) : Int) := by rw [List.length_cons]; omega
    have hz : ((((x :: r).length : Nat) : Int) == 0) = false := by rw [List.length_cons]; exact beq_eq_false_iff_ne.2 (by omega)
    cases hx : inZ x 1 4
    · exact sem1_mk (fun _ _ => rfl) rfl (fun h => (by cases h)) (fun off cap hl hc => runF_calls mix (of_1 off (x :: r).length cap _ x) ⟨hz, hp, Nat.le_refl _, cw_0 off x r, may_p hx, trivial⟩ rfl rfl)
    by_cases hl6 : (((x :: r).length : Nat) : Int) = x + 6
    · obtain ⟨L, g, b, t', q, m, h4, e⟩ := shape4 (x :: r) x r rfl hx hl6
      rw [e] at h ⊢
      exact of_bad g b t' q m h4 (rowx_no g b t' q m h)
    · have h4 := inZ_iff.1 hx
      have hw : wi (wi (1 + x) + 5) = x + 6 := by unfold wi; rw [wrapI (z := 1 + x) (by omega), wrapI (by omega)]; omega
      exact sem1_mk (fun _ _ => rfl) rfl (fun h => (by cases h)) (fun off cap hl hc => runF_calls mix (of_2 off (x :: r).length cap _ x) ⟨hz, hp, Nat.le_refl _, cw_0 off x r, may_p hx, hp, Nat.le_refl _, cw_0 off x r, by rw [hw]; exact bne_iff_ne.2 hl6, trivial⟩ rfl rfl)
theorem dof_no {R : List Int} (h : ¬ isRow R) (h6 : R.length ≤ 60) : Sem1 Try.prog 12 (fun s => #[s]) R (tp [cz, ii 110]) := by
  have hw : wi ((R.length : Int) - 6) = (R.length : Int) - 6 := by unfold wi; rw [wrapI (by omega)]
  by_cases h7 : R.length < 7
  · refine sem1_mk (fun _ _ => rfl) rfl (fun _ => runF_pure mix dof_n trivial rfl rfl) (fun off cap hl hc => runF_calls mix (dof_0 off R.length cap _) ⟨?_, trivial⟩ rfl rfl)
    rw [hw]
    exact decide_eq_true (by omega)
  match R, h, h6, hw, h7 with
  | [], _, _, _, h7 => exact absurd (show ([] : List Int).length < 7 by decide) h7
  | x :: r, h, h6, hw, h7 =>
    generalize hR : x :: r = R at *
    have hp : 0 ≤ (0 : Int) ∧ (0 : Int) < (R.length : Int) := by omega
    have h1 : decide (wi ((R.length : Int) - 6) < 1) = false := by rw [hw]; exact decide_eq_false (by omega)
    have c0 : ∀ off, (cwx fl1 off R)[off + 0]? = some (ii x) := fun off => by rw [← hR]; exact cw_0 off x r
    have hne : R ≠ [] := by rw [← hR]; simp
    by_cases hx : x = wi ((R.length : Int) - 6)
    case neg => exact sem1_mk (fun _ _ => rfl) rfl (fun h => absurd h hne) (fun off cap hl hc => runF_calls mix (dof_1 off R.length cap _ x) ⟨h1, hp, Nat.le_refl _, c0 off, bne_iff_ne.2 hx, trivial⟩ rfl rfl)
    rw [hw] at hx
    by_cases h5 : R.length ≤ 10
    · obtain ⟨L, g, b, t', q, m, h4, e⟩ := shape4 R x r hR.symm (inZ_iff.2 (by omega)) (by omega)
      rw [e] at h ⊢
      exact dof_bad g b t' q m h4 (rowx_no g b t' q m h)
    -- too many masses
    have hn : nmr R.length = ((R.length - 5 : Nat) : Int) := by unfold nmr; rw [hw]; unfold wi; rw [wrapI (by omega)]; omega
    have hnt : (nmr R.length).toNat = R.length - 5 := by rw [hn]; omega
    obtain ⟨g, b, t', q, m, e5⟩ := five (R.drop (R.length - 5)) (by rw [List.length_drop]; omega)
    have hML : ((R.drop 1).take (R.length - 6)).length = R.length - 6 := by rw [List.length_take, List.length_drop]; omega
    obtain ⟨a1, a2, N, hN⟩ : ∃ a1 a2 N, (R.drop 1).take (R.length - 6) = a1 :: a2 :: N := by
      match hd : (R.drop 1).take (R.length - 6), hML with
      | [], h => simp at h; omega
      | [_], h => simp at h; omega
      | a1 :: a2 :: N, _ => exact ⟨a1, a2, N, rfl⟩
    rw [hN] at hML
    refine sem1_mk (fun _ _ => rfl) rfl (fun h => absurd h hne) (fun off cap hl hc => ?_)
    have hof : ofr off R.length cap = off + (R.length - 5) := by
      unfold ofr
      rw [hnt, if_neg (by omega), Nat.mul_one]
    have c5 : ∀ (k : Nat) (v : Int), ([g, b, t', q, m] : List Int)[k]? = some v → (cwx fl1 off R)[ofr off R.length cap + k]? = some (ii v) := fun k v hk => by
      have hk' : R[R.length - 5 + k]? = some v := by rw [← hk, ← e5, List.getElem?_drop]
      have := cw_get off hk'
      rw [hof, Nat.add_assoc]
      rw [Int.toNat_natCast, Nat.mul_one] at this
      exact this
    have hno : ¬ okL (a1 :: a2 :: N) g b t' q m := fun hk => by
      have := (ok_parts hk).1.2
      omega
    have w := sem1_calls (dchk_p g b t' q m 110 (a1 :: a2 :: N) (chk_no hno)) (ren_cv g b t' q m) rfl (H := [(4002, .chan 1 ⟨ii a1 :: ii a2 :: N.flatMap fl1⟩ false 3 0 false)]) (s := slw 4002 0 (a1 :: a2 :: N).length capU) (fun β w hR => ll_opq hR rfl rfl)
    have e6 : (nmr R.length).toNat - 1 = (a1 :: a2 :: N).length := by rw [hnt, hML]; omega
    refine runF_calls mix (dof_big off R.length cap (cwx fl1 off R) (N.flatMap fl1) x a1 a2 g b t' q m) ⟨h1, hp, Nat.le_refl _, c0 off, ?_, ?_, ?_, Nat.le_add_right _ _, ⟨⟨?_, ?_, ?_, ?_⟩, fl1_plain N, ?_⟩, ?_, ?_, c5 0 g rfl, ?_, ?_, c5 1 b rfl, ?_, ?_, c5 2 t' rfl, ?_, ?_, c5 3 q rfl, ?_, ?_, c5 4 m rfl, ?_, trivial⟩ rfl rfl
    · rw [hw, hx]; exact bne_self_eq_false _
    · rw [hn]; omega
    · rw [hn]; omega
    · rw [hnt]; omega
    · rw [hnt]; exact Nat.le_trans (show R.length - 5 - 1 ≤ 60 by omega) (by decide)
    · rw [hnt]; omega
    · rw [hnt]
      simp only [List.length_cons, fl1_len] at hML ⊢
      omega
    · have := cw_drop off R 1 (ii a1 :: ii a2 :: N.flatMap fl1).length
      have hl2 : (ii a1 :: ii a2 :: N.flatMap fl1).length = R.length - 6 := by
        simp only [List.length_cons, fl1_len] at hML ⊢
        omega
      rw [this, hl2, hN]
      rfl
    all_goals first
      | (rw [hnt]; omega)
      | (rw [hof]; omega)
      | (rw [e6]; exact w)
theorem row_inj {L M : List Int} {g b t' q m g2 b2 t2 q2 m2 : Int} (h : rowL L g b t' q m = rowL M g2 b2 t2 q2 m2) : L = M ∧ g = g2 ∧ b = b2 ∧ t' = t2 ∧ q = q2 ∧ m = m2 := by
  unfold rowL at h
  obtain ⟨h1, h2⟩ := List.cons.inj h
  obtain ⟨h3, h4⟩ := List.append_inj h2 (Int.ofNat.inj h1)
  simp only [List.cons.injEq, and_true] at h4
  exact ⟨h3, h4⟩
end Go.Proofs.Ytelohlpjgfknoaa

/- Answers where no block is handed, and of what is the same. -/
namespace Go.Proofs.Ytelohlpjgfknoaa
open Go Go.RowKit
set_option linter.unusedSimpArgs false
set_option linter.unusedVariables false
set_option maxRecDepth 100000

section
variable {P : Program} {f : Nat}
theorem out_plain {e : Ending} {v : Value} (hv : wfV noB v = true) (h : e = .returned v) : e = (rt v).out idN := by
  subst h
  simp only [Res.out, ren_plain idN hv]
theorem sem1_pure {args : Value → Array Value} {v : Value} (h : Sem1 P f args [] v) (hv : wfV noB v = true) : PureX P f (args sl0) (rt v) := fun w =>
  (h w sl0 (.inl ⟨rfl, rfl⟩)).mono fun e w' hh => ⟨out_plain hv hh.1, hh.2⟩
theorem sem2_pure {args : Value → Value → Array Value} {v : Value} (h : Sem2 P f args [] [] v) (hv : wfV noB v = true) : PureX P f (args sl0 sl0) (rt v) := fun w =>
  (h w sl0 sl0 (.inl ⟨rfl, rfl⟩) (.inl ⟨rfl, rfl⟩)).mono fun e w' hh => ⟨out_plain hv hh.1, hh.2⟩
/-- A law that holds, of blocks that are only read. -/
theorem win_ret {args args' : Array Value} {H H' : Hp} {β : Num} {w : World} {v : Value} (hc : CallsV P (.func f) args H (rt v) H') (hv : wfV noB v = true) (ha : renA β args = args') (h : ∀ i o, look H i = some o → Lie β w i o) :
    Calls P f args' w fun e w' => e = .returned v ∧ Below w.heap.size w w' := by
  refine (calls_wins hc ha h).mono ?_
  rintro e w' ⟨β', _, rfl, _, hb⟩
  exact ⟨by simp only [Res.out, ren_plain β' hv], hb⟩
end
theorem ints_eq (L : List Int) : Sem2 Try.prog 13 (fun s s' => #[s, s']) L L (bb true) := by
  have := ints_s L L
  rwa [decide_eq_true rfl] at this
theorem same_eq (L : List Int) (g b t' q m : Int) : sameB L L g b t' q m g b t' q m = true := by unfold sameB; simp
theorem dsame_eq (L : List Int) (g b t' q m : Int) : Sem2 Try.prog 14 (fun s s' => #[cv s g b t' q m, cv s' g b t' q m]) L L (bb true) := by
  have := dsame_s g b t' q m g b t' q m L L
  rwa [same_eq] at this
theorem why_ok (g b t' q m : Int) {L : List Int} (h : okL L g b t' q m) : Sem1 Try.prog 17 (fun s => #[cv s g b t' q m]) L (str []) := by
  have := why_s g b t' q m L
  unfold okL at h
  rwa [h] at this
theorem dwhy_ok (g b t' q m : Int) {L : List Int} (h : okL L g b t' q m) : Sem1 Try.prog 18 (fun s => #[cv s g b t' q m]) L (str []) := by
  have := dwhy_s g b t' q m L
  unfold okL at h
  rwa [h] at this
theorem not_row_nil : ¬ isRow [] := by
  rintro ⟨L, g, b, t', q, m, -, h⟩
  unfold rowL at h
  cases h
theorem str_self (s : List UInt8) : (!((⟨⟨s⟩⟩ : ByteArray).toList == (⟨⟨s⟩⟩ : ByteArray).toList)) = false := by rw [beq_self_eq_true]; rfl
section
variable (g b t' q m g2 b2 t2 q2 m2 : Int)
theorem n_9 : PureX Try.prog 9 #[cv sl0 g b t' q m] (rt (tp [sl0, ii 110])) := sem1_pure (args := fun s => #[cv s g b t' q m]) (row_no g b t' q m ok_nil) rfl
theorem n_10 : PureX Try.prog 10 #[cv sl0 g b t' q m] (rt (tp [sl0, ii 110])) := sem1_pure (args := fun s => #[cv s g b t' q m]) (drow_no g b t' q m ok_nil) rfl
theorem n_11 : PureX Try.prog 11 #[sl0] (rt (tp [cz, ii 110])) := sem1_pure (args := fun s => #[s]) (of_no not_row_nil) rfl
theorem n_12 : PureX Try.prog 12 #[sl0] (rt (tp [cz, ii 110])) := sem1_pure (args := fun s => #[s]) (dof_no not_row_nil (by decide)) rfl
theorem n_13 : PureX Try.prog 13 #[sl0, sl0] (rt (bb true)) := sem2_pure (args := fun s s' => #[s, s']) (ints_eq []) rfl
theorem n_14 : PureX Try.prog 14 #[cv sl0 g b t' q m, cv sl0 g b t' q m] (rt (bb true)) := sem2_pure (args := fun s s' => #[cv s g b t' q m, cv s' g b t' q m]) (dsame_eq [] g b t' q m) rfl
theorem n_15 : PureX Try.prog 15 #[cv sl0 g b t' q m] (rt (ii 110)) := chk_nil15 g b t' q m
theorem n_16 : PureX Try.prog 16 #[cv sl0 g b t' q m] (rt (ii 110)) := chk_nil16 g b t' q m
theorem n_17 : PureX Try.prog 17 #[cv sl0 g b t' q m] (rt (str nBodies)) := runF_pure mix (why_n g b t' q m) ⟨may_p rfl, trivial⟩ rfl rfl
theorem n_18 : PureX Try.prog 18 #[cv sl0 g b t' q m] (rt (str nBodies)) := runF_pure mix (dwhy_n g b t' q m) ⟨w32 rfl, trivial⟩ rfl rfl
theorem n_19 : PureX Try.prog 19 #[cv sl0 g b t' q m] (rt (ii 0)) := sem1_pure (args := fun s => #[cv s g b t' q m]) (tot_no g b t' q m ok_nil) rfl
theorem n_20 : PureX Try.prog 20 #[cv sl0 g b t' q m] (rt (ii 0)) := sem1_pure (args := fun s => #[cv s g b t' q m]) (dtot_no g b t' q m ok_nil) rfl
theorem n_21 : PureX Try.prog 21 #[cv sl0 g b t' q m] (rt (ii 0)) := sem1_pure (args := fun s => #[cv s g b t' q m]) (pairs_no g b t' q m ok_nil) rfl
theorem n_22 : PureX Try.prog 22 #[cv sl0 g b t' q m] (rt (ii 0)) := sem1_pure (args := fun s => #[cv s g b t' q m]) (dpairs_no g b t' q m ok_nil) rfl
theorem n_23 : PureX Try.prog 23 #[cv sl0 g b t' q m, cv sl0 g2 b2 t2 q2 m2] (rt (bb (sameB [] [] g b t' q m g2 b2 t2 q2 m2))) := sem2_pure (args := fun s s' => #[cv s g b t' q m, cv s' g2 b2 t2 q2 m2]) (psame_s g b t' q m g2 b2 t2 q2 m2 [] []) rfl
theorem n_14b : PureX Try.prog 14 #[cv sl0 g b t' q m, cv sl0 g2 b2 t2 q2 m2] (rt (bb (sameB [] [] g b t' q m g2 b2 t2 q2 m2))) := sem2_pure (args := fun s s' => #[cv s g b t' q m, cv s' g2 b2 t2 q2 m2]) (dsame_s g b t' q m g2 b2 t2 q2 m2 [] []) rfl
theorem n_24 : PureX Try.prog 24 #[cv sl0 g b t' q m] (rt (cv sl0 g b t' q m)) := sem1_pure (args := fun s => #[cv s g b t' q m]) (own_nil g b t' q m) rfl
end
end Go.Proofs.Ytelohlpjgfknoaa
