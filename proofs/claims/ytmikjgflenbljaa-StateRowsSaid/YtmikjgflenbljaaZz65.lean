/- Texts of the seat, joined. -/
import Derived.Test.YtmikjgflenbljaaZz64
import Derived.Test.YtmikjgflenbljaaZz28
import Derived.Test.YtmikjgflenbljaaZz30
/- Lists of numbers that are only read, wherever they lie; what Of tells of one that is no row. -/
namespace Go.Proofs.Ytmikjgflenbljaa
open Go Go.RowKit
set_option linter.unusedSimpArgs false
set_option linter.unusedVariables false
set_option maxRecDepth 100000
attribute [local irreducible] shf

/-- A block that is only read, and lies. -/
def Lie (β : Num) (w : World) (i : Nat) (o : Obj) : Prop := (winO o = true ∧ isLive o = true ∧ ∀ p, wfO p o = true) ∧ LiesO β (β i).2 o w.heap[(β i).1]?
theorem calls_wins {P : Program} {f : Nat} {args args' : Array Value} {H H' : Hp} {v : Value} {β : Num} {w : World} (hc : CallsV P (.func f) args H (rt v) H') (hv : wfV noB v = true) (ha : renA β args = args')
    (h : ∀ i o, look H i = some o → Lie β w i o) : Calls P f args' w fun e w' => e = .returned v ∧ Below w.heap.size w w' := by
  have hwb : ∀ i, liveB H i = true → winB H i = true := fun i hi => by
    obtain ⟨o, ho, hv⟩ := liveB_iff.1 hi
    rw [winB_look ho]; exact (h i o ho).1.1
  have hR : Rel (rng β H) w β H w := by
    refine ⟨fun i o ho => (h i o ho).2, fun i j hi hj hw _ => absurd (hwb i hi) (by rw [hw]; decide), fun i hi => .inl (rng_own.2 ⟨i, hi, rfl⟩), fun i hi => ⟨fun _ => ⟨?_, rng_win.2 ⟨i, hi, hwb i hi, rfl⟩⟩, fun _ => hwb i hi⟩, fun i o ho => (h i o ho).1.2.2 _, Kp.refl _ _⟩
    obtain ⟨o, ho, hv⟩ := liveB_iff.1 hi
    obtain ⟨y, hy⟩ := liesO_some hv (h i o ho).2
    exact (Array.getElem?_eq_some_iff.1 hy).1
  have hh := hc β w hR
  rw [ha] at hh
  refine hh.mono ?_
  rintro e w' ⟨β', _, rfl, hR'⟩
  refine ⟨by simp only [Res.out, ren_plain β' hv], hR'.kp.below (Nat.le_refl _) (fun k h1 h2 => ?_)⟩
  obtain ⟨i, hi, e⟩ := rng_own.1 h1
  exact absurd (rng_win.2 ⟨i, hi, hwb i hi, e⟩) h2
theorem lie_1 {β : Num} {w : World} {i : Nat} {o : Obj} (h : Lie β w i o) : ∀ j x, look [(i, o)] j = some x → Lie β w j x := by
  intro j x hx
  simp only [look] at hx
  split at hx
  · rename_i e
    simp only [Option.some.injEq] at hx
    rw [← hx, ← e]
    exact h
  · cases hx
theorem lie_2 {β : Num} {w : World} {i k : Nat} {o y : Obj} (h : Lie β w i o) (g : Lie β w k y) : ∀ j x, look [(i, o), (k, y)] j = some x → Lie β w j x := by
  intro j x hx
  by_cases e : i = j
  · simp only [look, if_pos e, Option.some.injEq] at hx
    rw [← hx, ← e]
    exact h
  · simp only [look, if_neg e] at hx
    exact lie_1 g j x (by simpa only [look] using hx)
theorem lie_win {β : Num} {w : World} {i B off : Nat} {c : Array Value} (e : β i = (B, 0)) (hc : wfA noB c = true) (hw : WinAt off c w.heap[B]?) : Lie β w i (win off c) := by
  refine ⟨⟨rfl, rfl, fun _ => rfl⟩, ?_⟩
  rw [e]
  exact ⟨fun h => (by cases h), fun _ => ⟨Nat.zero_le _, hw⟩, hc⟩
theorem shf_at (B off : Nat) : shf (B, capU + off) = off := by rw [shf_eq]; exact Nat.add_sub_cancel_left _ _
theorem lie_seen {β : Num} {w : World} {i B off : Nat} {c : Array Value} {T : TypeId} (e : β i = (B, capU + off)) (hc : wfA noB c = true)
    (hw : ∃ (cur : Array Value) (T : TypeId) (fr : Nat × Nat), w.heap[B]? = some (.cells cur T fr) ∧ ∀ j v, c[j]? = some v → cur[j + off]? = some v) : Lie β w i (.cells c T (2, 0)) := by
  refine ⟨⟨rfl, rfl, fun p => ?_⟩, ?_⟩
  · simp only [wfO, Bool.and_eq_true]
    exact ⟨wfA_mono (p := noB) (fun _ h => (by cases h)) _ hc, by decide⟩
  · rw [e]
    refine ⟨fun h => (by cases h), fun h => (by cases h), fun _ _ => ?_⟩
    obtain ⟨cur, T', fr, h1, h2⟩ := hw
    refine ⟨cur, T', fr, h1, fun j v hj => ?_⟩
    rw [renA_plain _ hc] at hj
    have e2 : (B, capU + off).2 - capU = off := (shf_eq _).symm.trans (shf_at B off)
    rw [e2]
    exact h2 j v hj
theorem ren_win {β : Num} {i B off n' cap : Nat} (e : β i = (B, 0)) (hc : cap ≤ maxLen) : ren β (slw i off n' cap) = slw B off n' cap := by
  simp only [ren, renP, e, shf_zero, Nat.add_zero, capR_ne (x := (B, 0)) (cap_ne hc)]
theorem ren_seen {β : Num} {i B off n' cap : Nat} (e : β i = (B, capU + off)) (hc : cap ≤ maxLen) : ren β (slw i 0 n' cap) = slw B off n' cap := by
  simp only [ren, renP, e, shf_at, Nat.zero_add, capR_ne (x := (B, capU + off)) (cap_ne hc)]
theorem cwx_at {α : Type} {fl : α → List Value} {off j : Nat} {L : List α} (h : off ≤ j) : (cwx fl off L)[j]? = (L.flatMap fl)[j - off]? := by
  show (Array.mk (List.replicate off ud ++ L.flatMap fl))[j]? = _
  simp only [List.getElem?_toArray]
  rw [List.getElem?_append_right (by simpa using h), List.length_replicate]
theorem seen_of_win {α : Type} {fl : α → List Value} {off : Nat} {L : List α} {x : Option Obj} (h : WinAt off (cwx fl off L) x) :
    ∃ (cur : Array Value) (T : TypeId) (fr : Nat × Nat), x = some (.cells cur T fr) ∧ ∀ j v, (Array.mk (L.flatMap fl))[j]? = some v → cur[j + off]? = some v := by
  obtain ⟨cur, T, fr, h1, h2⟩ := h
  refine ⟨cur, T, fr, h1, fun j v hj => h2 _ v (Nat.le_add_left _ _) ?_⟩
  rw [cwx_at (Nat.le_add_left _ _), Nat.add_sub_cancel]
  simpa using hj
theorem fl1_plain (N : List Int) : wfL noB (N.flatMap fl1) = true := by
  induction N with
  | nil => rfl
  | cons x r ih => exact ih
theorem cwx_plain (off : Nat) (N : List Int) : wfA noB (cwx fl1 off N) = true := by
  show wfL noB (List.replicate off ud ++ N.flatMap fl1) = true
  rw [wfL_all]
  intro v h
  rcases List.mem_append.1 h with h | h
  · rw [(List.mem_replicate.1 h).2]; rfl
  · exact (wfL_all _ _).1 (fl1_plain N) v h
/-- The answer, wherever the list of numbers lies. -/
def AtI (P : Program) (f : Nat) (N : List Int) (v : Value) : Prop :=
  ∀ (B off cap : Nat) (w : World), N.length ≤ cap → cap ≤ maxLen → WinAt off (cwx fl1 off N) w.heap[B]? →
    Calls P f #[slw B off N.length cap] w fun e w' => e = .returned v ∧ Below w.heap.size w w'
section
variable {P : Program} {f : Nat} {N : List Int} {v : Value}
theorem ati_win (hv : wfV noB v = true) (h : ∀ off cap, CallsV P (.func f) #[slw 2 off N.length cap] [(2, win off (cwx fl1 off N))] (rt v) [(2, win off (cwx fl1 off N))]) : AtI P f N v := by
  intro B off cap w hl hc hw
  refine calls_wins (β := fun _ => (B, 0)) (h off cap) hv ?_ (lie_1 (lie_win rfl (cwx_plain _ _) hw))
  show #[ren _ _] = _
  rw [ren_win (β := fun _ => (B, 0)) (i := 2) rfl hc]
theorem ati_seen (hv : wfV noB v = true) (h : ∀ cap, N.length ≤ cap → cap ≤ maxLen → CallsV P (.func f) #[slw 2 0 N.length cap] [(2, .cells ⟨N.flatMap fl1⟩ 3 (2, 0))] (rt v) [(2, .cells ⟨N.flatMap fl1⟩ 3 (2, 0))]) : AtI P f N v := by
  intro B off cap w hl hc hw
  refine calls_wins (β := fun _ => (B, capU + off)) (h cap hl hc) hv ?_ (lie_1 (lie_seen rfl (fl1_plain _) (seen_of_win hw)))
  show #[ren _ _] = _
  rw [ren_seen (β := fun _ => (B, capU + off)) (i := 2) rfl hc]
theorem ati_chan (h : AtI P f N v) (hv : wfV noB v = true) {H : Hp} {k off cap : Nat} (hk : look H k = some (win off (cwx fl1 off N))) (hl : N.length ≤ cap) (hc : cap ≤ maxLen) :
    CallsV P (.func f) #[slw k off N.length cap] H (rt v) H := by
  intro β w hR
  obtain ⟨h1, h2⟩ := (hR.lies k _ hk).2.1 rfl
  have e : renA β #[slw k off N.length cap] = #[slw (β k).1 off N.length cap] := by
    show #[ren _ _] = _
    simp only [ren, renP, shf0 h1, Nat.add_zero, capR_ne (x := β k) (cap_ne hc)]
  rw [e]
  refine (h (β k).1 off cap w hl hc h2).mono ?_
  rintro e w' ⟨rfl, hb⟩
  exact ⟨β, fun _ _ => rfl, by simp only [Res.out, ren_plain β hv], hR.below hb⟩
end
/-- Six numbers of each body. -/
def fi6 (b : Bd) : List Int := [b.1.1, b.1.2.1, b.1.2.2, b.2.1, b.2.2.1, b.2.2.2]
theorem sixes : ∀ (k : Nat) (r : List Int), r.length = 6 * k → ∃ L : List Bd, L.length = k ∧ r = L.flatMap fi6
  | 0, r, h => ⟨[], rfl, by simpa using h⟩
  | k + 1, r, h => by
    match r, h with
    | a :: b :: c :: d :: e :: g :: r, h =>
      obtain ⟨L, h1, h2⟩ := sixes k r (by simp only [List.length_cons] at h; omega)
      exact ⟨((a, b, c), (d, e, g)) :: L, by rw [List.length_cons, h1], by rw [h2]; rfl⟩
    | [], h => simp at h
    | [_], h => simp at h; omega
    | [_, _], h => simp at h; omega
    | [_, _, _], h => simp at h; omega
    | [_, _, _, _], h => simp at h; omega
    | [_, _, _, _, _], h => simp at h; omega
/-- Is it a row of a state that may be? -/
def RowQ (N : List Int) : Prop := ∃ (x0 : Int) (L : List Bd), N = x0 :: (L.length : Int) :: L.flatMap fi6 ∧ rightV x0 L = true
theorem nof_v (b : Bd) : PureX Try.prog 30 #[bv b] (rt (bv b)) := runF_pure mix (nof_raw b) trivial rfl rfl
theorem long_1 : PureX Try.prog 19 #[ii 1] (rt (ii 8)) := by
  have h := long_v 1
  rw [show wi (2 + wi (6 * 1)) = 8 from by decide] at h
  exact h
theorem may_1 : PureX Try.prog 22 #[ii 1] (rt (bb true)) := may_v 1
theorem long_2 : PureX Try.prog 19 #[ii 2] (rt (ii 14)) := by
  have h := long_v 2
  rw [show wi (2 + wi (6 * 2)) = 14 from by decide] at h
  exact h
theorem may_2 : PureX Try.prog 22 #[ii 2] (rt (bb true)) := may_v 2
theorem long_3 : PureX Try.prog 19 #[ii 3] (rt (ii 20)) := by
  have h := long_v 3
  rw [show wi (2 + wi (6 * 3)) = 20 from by decide] at h
  exact h
theorem may_3 : PureX Try.prog 22 #[ii 3] (rt (bb true)) := may_v 3
theorem long_4 : PureX Try.prog 19 #[ii 4] (rt (ii 26)) := by
  have h := long_v 4
  rw [show wi (2 + wi (6 * 4)) = 26 from by decide] at h
  exact h
theorem may_4 : PureX Try.prog 22 #[ii 4] (rt (bb true)) := may_v 4
abbrev errO : Value := tp [sv 0 sl0, ii 2]
theorem oferr_1 (x0 : Int) (a : Bd) (cap : Nat) (g1 : 8 ≤ cap) (hc2 : cap ≤ maxLen) (hf : rightV x0 [a] = false) : CallsV Try.prog (.func 10) #[slw 2 0 8 cap] [(2, wrob x0 1 [a])] (rt errO) [(2, wrob x0 1 [a])] := by
  have g : 6 ≤ cap - 2 ∧ cap - 2 ≤ maxLen := ⟨by omega, by omega⟩
  have s6 : 6 ≤ 6 ∧ 6 ≤ maxLen := ⟨by decide, by decide⟩
  have r := at_own (L := [a]) (right_at x0 [a]) (ren_sv x0) rfl (H := [(6012, gob [a])]) (k := 6012) rfl
  rw [hf] at r
  exact runF_calls mix (oflx_1 x0 cap a) ⟨may_1, long_1, ⟨g1, hc2⟩, g, g, s6, s6, r, trivial⟩ rfl rfl
theorem oferr_2 (x0 : Int) (a b : Bd) (cap : Nat) (g1 : 14 ≤ cap) (hc2 : cap ≤ maxLen) (hf : rightV x0 [a, b] = false) : CallsV Try.prog (.func 10) #[slw 2 0 14 cap] [(2, wrob x0 2 [a, b])] (rt errO) [(2, wrob x0 2 [a, b])] := by
  have g : 12 ≤ cap - 2 ∧ cap - 2 ≤ maxLen := ⟨by omega, by omega⟩
  have s6 : 6 ≤ 6 ∧ 6 ≤ maxLen := ⟨by decide, by decide⟩
  have r := at_own (L := [a, b]) (right_at x0 [a, b]) (ren_sv x0) rfl (H := [(6015, gob [a, b])]) (k := 6015) rfl
  rw [hf] at r
  exact runF_calls mix (oflx_2 x0 cap a b) ⟨may_2, long_2, ⟨g1, hc2⟩, g, g, s6, s6, g, g, s6, s6, r, trivial⟩ rfl rfl
theorem oferr_3 (x0 : Int) (a b d : Bd) (cap : Nat) (g1 : 20 ≤ cap) (hc2 : cap ≤ maxLen) (hf : rightV x0 [a, b, d] = false) : CallsV Try.prog (.func 10) #[slw 2 0 20 cap] [(2, wrob x0 3 [a, b, d])] (rt errO) [(2, wrob x0 3 [a, b, d])] := by
  have g : 18 ≤ cap - 2 ∧ cap - 2 ≤ maxLen := ⟨by omega, by omega⟩
  have s6 : 6 ≤ 6 ∧ 6 ≤ maxLen := ⟨by decide, by decide⟩
  have r := at_own (L := [a, b, d]) (right_at x0 [a, b, d]) (ren_sv x0) rfl (H := [(6018, gob [a, b, d])]) (k := 6018) rfl
  rw [hf] at r
  exact runF_calls mix (oflx_3 x0 cap a b d) ⟨may_3, long_3, ⟨g1, hc2⟩, g, g, s6, s6, g, g, s6, s6, g, g, s6, s6, r, trivial⟩ rfl rfl
theorem oferr_4 (x0 : Int) (a b d e : Bd) (cap : Nat) (g1 : 26 ≤ cap) (hc2 : cap ≤ maxLen) (hf : rightV x0 [a, b, d, e] = false) : CallsV Try.prog (.func 10) #[slw 2 0 26 cap] [(2, wrob x0 4 [a, b, d, e])] (rt errO) [(2, wrob x0 4 [a, b, d, e])] := by
  have g : 24 ≤ cap - 2 ∧ cap - 2 ≤ maxLen := ⟨by omega, by omega⟩
  have s6 : 6 ≤ 6 ∧ 6 ≤ maxLen := ⟨by decide, by decide⟩
  have r := at_own (L := [a, b, d, e]) (right_at x0 [a, b, d, e]) (ren_sv x0) rfl (H := [(6021, gob [a, b, d, e])]) (k := 6021) rfl
  rw [hf] at r
  exact runF_calls mix (oflx_4 x0 cap a b d e) ⟨may_4, long_4, ⟨g1, hc2⟩, g, g, s6, s6, g, g, s6, s6, g, g, s6, s6, g, g, s6, s6, r, trivial⟩ rfl rfl
theorem of_err4 {x0 : Int} : ∀ (L : List Bd), 1 ≤ (L.length : Int) ∧ (L.length : Int) ≤ 4 → rightV x0 L = false → AtI Try.prog 10 (x0 :: (L.length : Int) :: L.flatMap fi6) errO
  | [a], _, hf => ati_seen rfl (fun cap hc1 hc2 => oferr_1 x0 a cap hc1 hc2 hf)
  | [a, b], _, hf => ati_seen rfl (fun cap hc1 hc2 => oferr_2 x0 a b cap hc1 hc2 hf)
  | [a, b, d], _, hf => ati_seen rfl (fun cap hc1 hc2 => oferr_3 x0 a b d cap hc1 hc2 hf)
  | [a, b, d, e], _, hf => ati_seen rfl (fun cap hc1 hc2 => oferr_4 x0 a b d e cap hc1 hc2 hf)
  | [], hp, _ => absurd hp.1 (by decide)
  | _ :: _ :: _ :: _ :: _ :: r', hp, _ => absurd hp.2 (by simp only [List.length_cons]; omega)
theorem of_err {N : List Int} (h : ¬ RowQ N) : AtI Try.prog 10 N errO := by
  by_cases h0 : (N.length : Int) < 2
  · exact ati_win rfl (fun off cap => runF_calls mix (ofx_a off N.length cap _) ⟨decide_eq_true h0, trivial⟩ rfl rfl)
  obtain ⟨x0, k, r, rfl⟩ : ∃ x0 k r, N = x0 :: k :: r := by
    match N, h0 with
    | [], h0 => exact absurd (by decide) h0
    | [_], h0 => exact absurd (by simp) h0
    | x0 :: k :: r, _ => exact ⟨x0, k, r, rfl⟩
  have hat : ∀ off, (cwx fl1 off (x0 :: k :: r))[off + 1]? = some (ii k) := fun off => by
    rw [cwx_at (by omega), Nat.add_sub_cancel_left]
    rfl
  have h1 : (0 : Int) ≤ 1 ∧ (1 : Int) < (((x0 :: k :: r).length : Nat) : Int) := ⟨by decide, by simp only [List.length_cons] at h0 ⊢; omega⟩
  have hm := may_v k
  cases hp : decide (1 ≤ k) && decide (k ≤ 4)
  · rw [hp] at hm
    exact ati_win rfl (fun off cap => runF_calls mix (ofx_b off (x0 :: k :: r).length cap _ k) ⟨decide_eq_false h0, h1, Nat.le_succ _, hat off, hm, trivial⟩ rfl rfl)
  · rw [hp] at hm
    have hl := long_v k
    cases hq : (((x0 :: k :: r).length : Nat) : Int) != wi (2 + wi (6 * k))
    · rw [Bool.and_eq_true, decide_eq_true_eq, decide_eq_true_eq] at hp
      have hq' : (((x0 :: k :: r).length : Nat) : Int) = wi (2 + wi (6 * k)) := by simpa using hq
      have hw : wi (2 + wi (6 * k)) = 2 + 6 * k := by unfold wi; rw [wrapI (z := 6 * k) (by omega), wrapI (by omega)]
      rw [hw, List.length_cons, List.length_cons] at hq'
      obtain ⟨j, rfl⟩ := Int.eq_ofNat_of_zero_le (show 0 ≤ k by omega)
      obtain ⟨L, hL, rfl⟩ := sixes j r (by omega)
      subst hL
      have hf : rightV x0 L = false := by
        cases hf : rightV x0 L
        · rfl
        · exact absurd ⟨x0, L, rfl, hf⟩ h
      exact of_err4 L hp hf
    · exact ati_win rfl (fun off cap => runF_calls mix (ofx_c off (x0 :: k :: r).length cap _ k (wi (2 + wi (6 * k)))) ⟨decide_eq_false h0, h1, Nat.le_succ _, hat off, hm, h1, Nat.le_succ _, hat off, hl, hq, trivial⟩ rfl rfl)
end Go.Proofs.Ytmikjgflenbljaa
