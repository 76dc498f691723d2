/- Texts of the seat, joined. -/
import Derived.Test.YtcjjckokaiobcaaDoorZz4
/- Lists of numbers, wherever they lie: what a call answers of them, and what it makes of them. -/
namespace Go.Proofs.YtcjjckokaiobcaaDoor
open Go Go.RowKit
set_option linter.unusedSimpArgs false
set_option linter.unusedVariables false
attribute [local irreducible] shf

theorem cap_ne {cap : Nat} (h : cap ≤ maxLen) : cap ≠ capU := fun e => absurd (e ▸ h) (by decide)
theorem shf_at (B off : Nat) : shf (B, capU + off) = off := by rw [shf_eq]; exact Nat.add_sub_cancel_left _ _
/-- Where blocks that are only read lie. -/
def Lie (β : Num) (w : World) (i : Nat) (o : Obj) : Prop :=
  (winO o = true ∧ isLive o = true ∧ ∀ p : Nat → Bool, wfO p o = true) ∧ LiesO β (β i).2 o w.heap[(β i).1]?
/-- A call that reads windows alone, in the world. -/
theorem calls_wins {P : Program} {f : Nat} {args args' : Array Value} {H H' : Hp} {r : Res} {β : Num} {w : World} (hg : GL w) (hc : CallsV P (.func f) args H r H') (ha : renA β args = args')
    (h : ∀ i o, look H i = some o → Lie β w i o) : Calls P f args' w fun e w' => ∃ β', (∀ i, domB H i = true → β' i = β i) ∧ e = r.out β' ∧ Rel (rng β H) w β' H' w' ∧ Below w.heap.size w w' := by
  have hwb : ∀ i, liveB H i = true → winB H i = true := fun i hi => by
    obtain ⟨o, ho, hv⟩ := liveB_iff.1 hi
    rw [winB_look ho]; exact (h i o ho).1.1
  have hR : Rel (rng β H) w β H w := by
    refine ⟨fun i o ho => (h i o ho).2, fun i j hi hj hw _ => absurd (hwb i hi) (by rw [hw]; decide), fun i hi => .inl (rng_own.2 ⟨i, hi, rfl⟩), fun i hi => ⟨fun _ => ⟨?_, rng_win.2 ⟨i, hi, hwb i hi, rfl⟩⟩, fun _ => hwb i hi⟩, fun i o ho => (h i o ho).1.2.2 _, Kp.refl _ _ ⟨hg, fun g _ hA => by
      obtain ⟨i, hi, e⟩ := rng_own.1 hA
      exact rng_win.2 ⟨i, hi, hwb i hi, e⟩⟩⟩
    obtain ⟨o, ho, hv⟩ := liveB_iff.1 hi
    obtain ⟨y, hy⟩ := liesO_some hv (h i o ho).2
    exact (Array.getElem?_eq_some_iff.1 hy).1
  have hh := hc β w hR
  rw [ha] at hh
  refine hh.mono ?_
  rintro e w' ⟨β', hb, rfl, hR'⟩
  refine ⟨β', hb, rfl, hR', hR'.kp.below (Nat.le_refl _) (fun k h1 h2 => ?_)⟩
  obtain ⟨i, hi, e⟩ := rng_own.1 h1
  exact absurd (rng_win.2 ⟨i, hi, hwb i hi, e⟩) h2
theorem lie_1 {β : Num} {w : World} {i : Nat} {o : Obj} (h : Lie β w i o) : ∀ j x, look [(i, o)] j = some x → Lie β w j x := by
  intro j x hx
  simp only [look] at hx
  split at hx
  · rename_i e
    simp only [Option.some.injEq] at hx
    rw [← hx, ← e]
    exact h
  · cases hx
theorem lie_2 {β : Num} {w : World} {i k : Nat} {o y : Obj} (h : Lie β w i o) (g : Lie β w k y) : ∀ j x, look [(i, o), (k, y)] j = some x → Lie β w j x := by
  intro j x hx
  by_cases e : i = j
  · simp only [look, if_pos e, Option.some.injEq] at hx
    rw [← hx, ← e]
    exact h
  · simp only [look, if_neg e] at hx
    exact lie_1 g j x (by simpa only [look] using hx)
theorem lie_3 {β : Num} {w : World} {i k m : Nat} {o y z : Obj} (h : Lie β w i o) (g : Lie β w k y) (q : Lie β w m z) : ∀ j x, look [(i, o), (k, y), (m, z)] j = some x → Lie β w j x := by
  intro j x hx
  by_cases e : i = j
  · simp only [look, if_pos e, Option.some.injEq] at hx
    rw [← hx, ← e]
    exact h
  · simp only [look, if_neg e] at hx
    exact lie_2 g q j x (by simpa only [look] using hx)
theorem lie_win {β : Num} {w : World} {i B off : Nat} {c : Array Value} (e : β i = (B, 0)) (hc : wfA noB c = true) (hw : WinAt off c w.heap[B]?) : Lie β w i (win off c) := by
  refine ⟨⟨rfl, rfl, fun _ => rfl⟩, ?_⟩
  rw [e]
  exact ⟨fun h => (by cases h), fun _ => ⟨Nat.zero_le _, hw⟩, hc⟩
theorem lie_seen {β : Num} {w : World} {i B off : Nat} {c : Array Value} {T : TypeId} (e : β i = (B, capU + off)) (hc : wfA noB c = true)
    (hw : ∃ (cur : Array Value) (T : TypeId) (fr : Nat × Nat), w.heap[B]? = some (.cells cur T fr) ∧ ∀ j v, c[j]? = some v → cur[j + off]? = some v) : Lie β w i (.cells c T (2, 0)) := by
  refine ⟨⟨rfl, rfl, fun p => ?_⟩, ?_⟩
  · simp only [wfO, Bool.and_eq_true]
    exact ⟨wfA_mono (p := noB) (fun _ h => (by cases h)) _ hc, by decide⟩
  · rw [e]
    refine ⟨fun h => (by cases h), fun h => (by cases h), fun _ _ => ?_⟩
    obtain ⟨cur, T', fr, h1, h2⟩ := hw
    refine ⟨cur, T', fr, h1, fun j v hj => ?_⟩
    rw [renA_plain _ hc] at hj
    have e2 : (B, capU + off).2 - capU = off := (shf_eq _).symm.trans (shf_at B off)
    rw [e2]
    exact h2 j v hj
theorem ren_win {β : Num} {i B off n' cap : Nat} (e : β i = (B, 0)) (hc : cap ≤ maxLen) : ren β (slw i off n' cap) = slw B off n' cap := by
  simp only [ren, renP, e, shf_zero, Nat.add_zero, capR_ne (x := (B, 0)) (cap_ne hc)]
theorem ren_seen {β : Num} {i B off n' cap : Nat} (e : β i = (B, capU + off)) (hc : cap ≤ maxLen) : ren β (slw i 0 n' cap) = slw B off n' cap := by
  simp only [ren, renP, e, shf_at, Nat.zero_add, capR_ne (x := (B, capU + off)) (cap_ne hc)]
theorem cwx_at {α : Type} {fl : α → List Value} {off j : Nat} {L : List α} (h : off ≤ j) : (cwx fl off L)[j]? = (L.flatMap fl)[j - off]? := by
  show (Array.mk (List.replicate off ud ++ L.flatMap fl))[j]? = _
  simp only [List.getElem?_toArray]
  rw [List.getElem?_append_right (by simpa using h), List.length_replicate]
theorem seen_of_win {α : Type} {fl : α → List Value} {off : Nat} {L : List α} {x : Option Obj} (h : WinAt off (cwx fl off L) x) :
    ∃ (cur : Array Value) (T : TypeId) (fr : Nat × Nat), x = some (.cells cur T fr) ∧ ∀ j v, (Array.mk (L.flatMap fl))[j]? = some v → cur[j + off]? = some v := by
  obtain ⟨cur, T, fr, h1, h2⟩ := h
  refine ⟨cur, T, fr, h1, fun j v hj => h2 _ v (Nat.le_add_left _ _) ?_⟩
  rw [cwx_at (Nat.le_add_left _ _), Nat.add_sub_cancel]
  simpa using hj
theorem fl1_plain (N : List Int) : wfL noB (N.flatMap fl1) = true := by
  induction N with
  | nil => rfl
  | cons x r ih => exact ih
theorem fl1_map (N : List Int) : N.flatMap fl1 = N.map ii := by
  induction N with
  | nil => rfl
  | cons x r ih => rw [List.flatMap_cons, ih]; rfl
theorem fl1_len (N : List Int) : (N.flatMap fl1).length = N.length := by rw [fl1_map, List.length_map]
theorem cwx_plain (off : Nat) (N : List Int) : wfA noB (cwx fl1 off N) = true := by
  show wfL noB (List.replicate off ud ++ N.flatMap fl1) = true
  rw [wfL_all]
  intro v h
  rcases List.mem_append.1 h with h | h
  · rw [(List.mem_replicate.1 h).2]; rfl
  · exact (wfL_all _ _).1 (fl1_plain N) v h

/-- A list of numbers lies in the world. -/
def LieL (w : World) (v : Value) (L : List Int) : Prop :=
  (v = sl0 ∧ L = []) ∨ ∃ B off cap, v = slw B off L.length cap ∧ L.length ≤ cap ∧ cap ≤ maxLen ∧ WinAt off (cwx fl1 off L) w.heap[B]?
theorem LieL.below {w w' : World} {v : Value} {L : List Int} (h : LieL w v L) (hb : Below w.heap.size w w') : LieL w' v L := by
  rcases h with h | ⟨B, off, cap, e, h1, h2, h3⟩
  · exact .inl h
  · refine .inr ⟨B, off, cap, e, h1, h2, ?_⟩
    obtain ⟨cur, T, fr, h4, h5⟩ := h3
    rw [hb.block B (Array.getElem?_eq_some_iff.1 h4).1]
    exact ⟨cur, T, fr, h4, h5⟩
section
variable {A : Nat → Prop} {w0 : World} {β : Num} {H : Hp} {w : World} {L : List Int} {k off cap : Nat}
theorem ll_nil : LieL w (ren β sl0) [] := .inl ⟨rfl, rfl⟩
theorem ll_win (hR : Rel A w0 β H w) (hk : look H k = some (win off (cwx fl1 off L))) (hl : L.length ≤ cap) (hc : cap ≤ maxLen) : LieL w (ren β (slw k off L.length cap)) L := by
  obtain ⟨h1, h2⟩ := (hR.lies k _ hk).2.1 rfl
  exact .inr ⟨(β k).1, off, cap, by simp only [ren, renP, shf0 h1, Nat.add_zero, capR_ne (x := β k) (cap_ne hc)], hl, hc, h2⟩
theorem ll_seen (hR : Rel A w0 β H w) (hk : look H k = some (wib L)) (hl : L.length ≤ cap) (hc : cap ≤ maxLen) : LieL w (ren β (slw k 0 L.length cap)) L := by
  obtain ⟨cur, T, fr, h1, h2⟩ := (hR.lies k _ hk).2.2 (by simp) (by simp)
  refine .inr ⟨(β k).1, shf (β k), cap, by simp only [ren, renP, Nat.zero_add, capR_ne (x := β k) (cap_ne hc)], hl, hc, cur, T, fr, h1, fun j v hj hv => ?_⟩
  rw [cwx_at hj] at hv
  have := h2 (j - shf (β k)) v (by rw [renA_plain _ (show wfA noB ⟨L.flatMap fl1⟩ = true from fl1_plain L)]; simpa using hv)
  rw [← shf_eq, Nat.sub_add_cancel hj] at this
  exact this
theorem ll_open {cap' : Nat} {T : TypeId} {x : Option Obj} (h : OpenAt cap' 1 T ⟨L.flatMap fl1⟩ x) : L.length ≤ cap' ∧ cap' ≤ maxLen ∧ WinAt 0 (cwx fl1 0 L) x := by
  obtain ⟨cur, h1, h2, h3, h4, h5⟩ := h
  have hsz : (Array.mk (L.flatMap fl1)).size = L.length := by simp only [List.size_toArray]; exact fl1_len L
  rw [hsz] at h4 h5
  have h5 : cur.toList.take L.length = L.flatMap fl1 := h5
  refine ⟨by omega, h2, cur, _, _, h1, fun j v hj hv => ?_⟩
  rw [cwx_at hj, Nat.sub_zero, ← h5, List.getElem?_take] at hv
  split at hv
  · simpa using hv
  · cases hv
theorem ll_opq (hR : Rel A w0 β H w) {T u2 : Nat} {u3 : Bool} {c : Array Value} (hk : look H k = some (.chan 1 c false T u2 u3)) (hc : c = ⟨L.flatMap fl1⟩) : LieL w (ren β (slw k 0 L.length capU)) L := by
  subst hc
  obtain ⟨h1, h2, h3⟩ := ll_open ((hR.lies k _ hk).1 rfl)
  exact .inr ⟨(β k).1, 0, (β k).2, by simp only [ren, renP, shf0 (le_capU h2), Nat.add_zero, capR, if_true], h1, h2, h3⟩
theorem ll_grow (hR : Rel A w0 β H w) (hk : look H k = some (gib L)) : LieL w (ren β (slw k 0 L.length capU)) L := by
  have h := (hR.lies k _ hk).2.1 rfl
  rw [renA_plain _ (show wfA noB ⟨L.flatMap fl1⟩ = true from fl1_plain L)] at h
  obtain ⟨h1, h2, h3⟩ := ll_open h
  exact .inr ⟨(β k).1, 0, (β k).2, by simp only [ren, renP, shf0 (le_capU h2), Nat.add_zero, capR, if_true], h1, h2, h3⟩
theorem ll_cells (hR : Rel A w0 β H w) {T : TypeId} {M : List Int} (hk : look H k = some (.cells ⟨M.flatMap fl1⟩ T (0, 0))) (hM : M.take L.length = L) (hl : L.length ≤ cap) (hc : cap ≤ maxLen) : LieL w (ren β (slw k 0 L.length cap)) L := by
  obtain ⟨h1, h2⟩ := (hR.lies k _ hk).1 rfl
  rw [renA_plain _ (show wfA noB ⟨M.flatMap fl1⟩ = true from fl1_plain M)] at h2
  refine .inr ⟨(β k).1, 0, cap, by simp only [ren, renP, shf0 h1, Nat.add_zero, capR_ne (x := β k) (cap_ne hc)], hl, hc, _, _, _, h2, fun j v hj hv => ?_⟩
  rw [cwx_at hj, Nat.sub_zero, fl1_map, ← hM, List.map_take, List.getElem?_take] at hv
  split at hv
  · rw [← fl1_map] at hv; simpa using hv
  · cases hv
end

/-- The answer, wherever the list lies. -/
def Sem1 (P : Program) (f : Nat) (args : Value → Array Value) (L : List Int) (v : Value) : Prop :=
  ∀ w s, GL w → LieL w s L → Calls P f (args s) w fun e w' => e = .returned v ∧ Below w.heap.size w w'
def Sem2 (P : Program) (f : Nat) (args : Value → Value → Array Value) (L M : List Int) (v : Value) : Prop :=
  ∀ w s s', GL w → LieL w s L → LieL w s' M → Calls P f (args s s') w fun e w' => e = .returned v ∧ Below w.heap.size w w'
/-- A new list in the answer. -/
def New1 (P : Program) (f : Nat) (args : Value → Array Value) (L : List Int) (mk : Value → Value) (R : List Int) : Prop :=
  ∀ w s, GL w → LieL w s L → Calls P f (args s) w fun e w' => ∃ B cap, e = .returned (mk (slw B 0 R.length cap)) ∧ w.heap.size ≤ B ∧ OpenAt cap 1 3 ⟨R.flatMap fl1⟩ w'.heap[B]? ∧ Below w.heap.size w w'
section
variable {P : Program} {f : Nat} {args : Value → Array Value} {L : List Int} {v : Value}
theorem pure_calls {f : Nat} {args args' : Array Value} {v : Value} (h : PureX P f args (rt v)) (hv : wfV noB v = true) (w : World) (hg : GL w) : Calls P f args w fun e w' => e = .returned v ∧ Below w.heap.size w w' := by
  refine (h w hg).mono ?_
  rintro e w' ⟨rfl, hb⟩
  exact ⟨by simp only [Res.out, ren_plain idN hv], hb⟩
theorem sem1_mk (ha : ∀ β s, renA β (args s) = args (ren β s)) (hv : wfV noB v = true) (hnil : L = [] → PureX P f (args sl0) (rt v))
    (hwin : ∀ off cap, L.length ≤ cap → cap ≤ maxLen → CallsV P (.func f) (args (slw 1 off L.length cap)) [(1, win off (cwx fl1 off L))] (rt v) [(1, win off (cwx fl1 off L))]) : Sem1 P f args L v := by
  intro w s hg hs
  rcases hs with ⟨rfl, hL⟩ | ⟨B, off, cap, rfl, h1, h2, h3⟩
  · exact pure_calls (args' := #[]) (hnil hL) hv w hg
  · have := calls_wins (β := fun _ => (B, 0)) hg (hwin off cap h1 h2) (by rw [ha, ren_win (β := fun _ => (B, 0)) (i := 1) rfl h2]) (lie_1 (lie_win rfl (cwx_plain _ _) h3))
    refine this.mono ?_
    rintro e w' ⟨β', _, rfl, _, hb⟩
    exact ⟨by simp only [Res.out, ren_plain β' hv], hb⟩
theorem sem1_seen (ha : ∀ β s, renA β (args s) = args (ren β s)) (hv : wfV noB v = true) (hnil : L = [] → PureX P f (args sl0) (rt v))
    (h : ∀ cap, L.length ≤ cap → cap ≤ maxLen → CallsV P (.func f) (args (slw 1 0 L.length cap)) [(1, wib L)] (rt v) [(1, wib L)]) : Sem1 P f args L v := by
  intro w s hg hs
  rcases hs with ⟨rfl, hL⟩ | ⟨B, off, cap, rfl, h1, h2, h3⟩
  · exact pure_calls (args' := #[]) (hnil hL) hv w hg
  · have := calls_wins (β := fun _ => (B, capU + off)) hg (h cap h1 h2) (by rw [ha, ren_seen (β := fun _ => (B, capU + off)) (i := 1) rfl h2]) (lie_1 (lie_seen rfl (fl1_plain L) (seen_of_win h3)))
    refine this.mono ?_
    rintro e w' ⟨β', _, rfl, _, hb⟩
    exact ⟨by simp only [Res.out, ren_plain β' hv], hb⟩
theorem sem1_calls (h : Sem1 P f args L v) (ha : ∀ β s, renA β (args s) = args (ren β s)) (hv : wfV noB v = true) {H : Hp} {s : Value}
    (hs : ∀ β w, Rel (rng β H) w β H w → LieL w (ren β s) L) : CallsV P (.func f) (args s) H (rt v) H := by
  intro β w hR
  simp only [ha]
  refine (h w _ hR.kp.glw (hs β w hR)).mono ?_
  rintro e w' ⟨rfl, hb⟩
  exact ⟨β, fun _ _ => rfl, by simp only [Res.out, ren_plain β hv], hR.below hb⟩
/-- Two lists. -/
theorem sem2_mk {args : Value → Value → Array Value} {M : List Int} (ha : ∀ β s s', renA β (args s s') = args (ren β s) (ren β s')) (hv : wfV noB v = true) (hnn : L = [] → M = [] → PureX P f (args sl0 sl0) (rt v))
    (hnw : L = [] → ∀ off cap, M.length ≤ cap → cap ≤ maxLen → CallsV P (.func f) (args sl0 (slw 2 off M.length cap)) [(2, win off (cwx fl1 off M))] (rt v) [(2, win off (cwx fl1 off M))])
    (hwn : M = [] → ∀ off cap, L.length ≤ cap → cap ≤ maxLen → CallsV P (.func f) (args (slw 1 off L.length cap) sl0) [(1, win off (cwx fl1 off L))] (rt v) [(1, win off (cwx fl1 off L))])
    (hww : ∀ off cap off' cap', L.length ≤ cap → cap ≤ maxLen → M.length ≤ cap' → cap' ≤ maxLen → CallsV P (.func f) (args (slw 1 off L.length cap) (slw 2 off' M.length cap')) [(1, win off (cwx fl1 off L)), (2, win off' (cwx fl1 off' M))] (rt v) [(1, win off (cwx fl1 off L)), (2, win off' (cwx fl1 off' M))]) :
    Sem2 P f args L M v := by
  intro w s s' hg hs hs'
  rcases hs with ⟨rfl, hL⟩ | ⟨B, off, cap, rfl, h1, h2, h3⟩ <;> rcases hs' with ⟨rfl, hM⟩ | ⟨B', off', cap', rfl, g1, g2, g3⟩
  · exact pure_calls (args' := #[]) (hnn hL hM) hv w hg
  · have := calls_wins (β := fun _ => (B', 0)) hg (hnw hL off' cap' g1 g2) (by rw [ha, ren_win (β := fun _ => (B', 0)) (i := 2) rfl g2]) (lie_1 (lie_win rfl (cwx_plain _ _) g3))
    refine this.mono ?_
    rintro e w' ⟨β', _, rfl, _, hb⟩
    exact ⟨by simp only [Res.out, ren_plain β' hv], hb⟩
  · have := calls_wins (β := fun _ => (B, 0)) hg (hwn hM off cap h1 h2) (by rw [ha, ren_win (β := fun _ => (B, 0)) (i := 1) rfl h2]) (lie_1 (lie_win rfl (cwx_plain _ _) h3))
    refine this.mono ?_
    rintro e w' ⟨β', _, rfl, _, hb⟩
    exact ⟨by simp only [Res.out, ren_plain β' hv], hb⟩
  · have := calls_wins (β := fun i => if i = 1 then (B, 0) else (B', 0)) hg (hww off cap off' cap' h1 h2 g1 g2) (by rw [ha, ren_win (β := fun i => if i = 1 then (B, 0) else (B', 0)) (i := 1) rfl h2, ren_win (β := fun i => if i = 1 then (B, 0) else (B', 0)) (i := 2) rfl g2]) (lie_2 (lie_win rfl (cwx_plain _ _) h3) (lie_win rfl (cwx_plain _ _) g3))
    refine this.mono ?_
    rintro e w' ⟨β', _, rfl, _, hb⟩
    exact ⟨by simp only [Res.out, ren_plain β' hv], hb⟩
theorem sem2_calls {args : Value → Value → Array Value} {M : List Int} (h : Sem2 P f args L M v) (ha : ∀ β s s', renA β (args s s') = args (ren β s) (ren β s')) (hv : wfV noB v = true) {H : Hp} {s s' : Value}
    (hs : ∀ β w, Rel (rng β H) w β H w → LieL w (ren β s) L ∧ LieL w (ren β s') M) : CallsV P (.func f) (args s s') H (rt v) H := by
  intro β w hR
  simp only [ha]
  refine (h w _ _ hR.kp.glw (hs β w hR).1 (hs β w hR).2).mono ?_
  rintro e w' ⟨rfl, hb⟩
  exact ⟨β, fun _ _ => rfl, by simp only [Res.out, ren_plain β hv], hR.below hb⟩
/-- A new block, of a call that left all else. -/
theorem Rel.fresh {A : Nat → Prop} {w0 : World} {β : Num} {H : Hp} {w w' : World} (h : Rel A w0 β H w) (hb : Below w.heap.size w w') {n : Nat} (hn : domB H n = false) {o : Obj} {B cap : Nat} (ho : wfO (domB H) o = true) (hB : w.heap.size ≤ B) (hx : LiesO β cap o w'.heap[B]?) (hno : winO o = false) :
    Rel A w0 (upd1 β n (B, cap)) (hput H n o) w' := by
  have hag : ∀ i, domB H i = true → upd1 β n (B, cap) i = β i := fun i hi => upd1_ne (fun e => by rw [e, hn] at hi; cases hi)
  have hdom : ∀ i, liveB (hput H n o) i = true → i = n ∨ liveB H i = true := fun i hi => by
    rw [liveB_hput] at hi
    by_cases e : i = n
    · exact .inl e
    · rw [if_neg e] at hi; exact .inr hi
  have h' := h.below hb
  refine ⟨fun i x hx' => ?_, fun i j hi hj hwi e => ?_, fun i hi => ?_, fun i hi => ?_, fun i x hx' => ?_, h'.kp⟩
  · rw [look_hput] at hx'
    by_cases hi : i = n
    · subst hi
      rw [if_pos rfl] at hx'
      simp only [Option.some.injEq] at hx'
      subst hx'
      rw [upd1_self]
      exact liesO_congr (fun j hj => (hag j hj).symm) ho hx
    · rw [if_neg hi] at hx'
      rw [hag i (domB_of hx')]
      exact liesO_congr (fun j hj => (hag j hj).symm) (h.wf i x hx') (h'.lies i x hx')
  · rcases hdom i hi with hi' | hi' <;> rcases hdom j hj with hj' | hj'
    · rw [hi', hj']
    · rw [hi', upd1_self, hag j (liveB_dom hj')] at e
      have := h.lt hj'
      simp only at e
      omega
    · rw [hj', upd1_self, hag i (liveB_dom hi')] at e
      have := h.lt hi'
      simp only at e
      omega
    · rw [hag i (liveB_dom hi'), hag j (liveB_dom hj')] at e
      rw [winB_hput, if_neg (fun e2 => by rw [e2] at hi'; rw [liveB_dom hi'] at hn; cases hn)] at hwi
      exact h.inj i j hi' hj' hwi e
  · rcases hdom i hi with hi' | hi'
    · rw [hi', upd1_self]; exact .inr (Nat.le_trans h.kp.size hB)
    · rw [hag i (liveB_dom hi')]; exact h.own i hi'
  · by_cases hin : i = n
    · subst hin
      rw [winB_hput, if_pos rfl, hno, upd1_self]
      have := h.kp.size
      exact ⟨fun hh => (by cases hh), fun hh => absurd hh.1 (by show ¬ B < _; omega)⟩
    · rcases hdom i hi with hi' | hi'
      · exact absurd hi' hin
      · rw [winB_hput, if_neg hin, hag i (liveB_dom hi')]; exact h.win i hi'
  · rw [look_hput] at hx'
    refine wfO_mono (p := domB H) (fun j hj => by rw [domB_hput, hj, Bool.or_true]) ?_
    by_cases hi : i = n
    · rw [if_pos hi] at hx'
      simp only [Option.some.injEq] at hx'
      subst hx'
      exact ho
    · rw [if_neg hi] at hx'
      exact h.wf i x hx'
theorem look_cons_hput {H : Hp} {k : Nat} {o : Obj} (hk : domB H k = false) (i : Nat) : look ((k, o) :: H) i = look (hput H k o) i := by
  rw [look_hput]
  simp only [look]
  by_cases h : k = i
  · rw [if_pos h, if_pos h.symm]
  · rw [if_neg h, if_neg (fun e => h e.symm)]
theorem new1_calls {mk : Value → Value} {R : List Int} (h : New1 P f args L mk R) (ha : ∀ β s, renA β (args s) = args (ren β s)) (hm : ∀ β s, ren β (mk s) = mk (ren β s)) {H : Hp} {s : Value} {k : Nat} (hk : domB H k = false)
    (hs : ∀ β w, Rel (rng β H) w β H w → LieL w (ren β s) L) : CallsV P (.func f) (args s) H (rt (mk (slw k 0 R.length capU))) ((k, .chan 1 ⟨R.flatMap fl1⟩ false 3 0 false) :: H) := by
  intro β w hR
  simp only [ha]
  refine (h w _ hR.kp.glw (hs β w hR)).mono ?_
  rintro e w' ⟨B, cap, rfl, hB, ho, hb⟩
  have hcm : cap ≤ maxLen := by obtain ⟨_, _, h2, _⟩ := ho; exact h2
  have hF := hR.fresh hb hk (o := .chan 1 ⟨R.flatMap fl1⟩ false 3 0 false) (cap := cap) rfl hB ⟨fun _ => ho, fun h => (by cases h), fl1_plain R⟩ rfl
  have hag : ∀ i, domB H i = true → upd1 β k (B, cap) i = β i := fun i hi => upd1_ne (fun e => by rw [e, hk] at hi; cases hi)
  refine ⟨upd1 β k (B, cap), hag, ?_, hF.congr (fun _ _ => rfl) (look_cons_hput hk)⟩
  simp only [Res.out, hm, ren, renP, upd1_self, capR, if_true, shf0 (x := (B, cap)) (le_capU hcm), Nat.add_zero]
/-- .. out of a run of letters. -/
theorem new1_of {mk : Value → Value} {R : List Int} {k cc : Nat} {o : Obj} (ha : ∀ β s, renA β (args s) = args (ren β s)) (hm : ∀ β s, ren β (mk s) = mk (ren β s)) (hL : L ≠ [])
    (ho : (o = gib R ∧ cc = capU) ∨ (o = .cells ⟨R.flatMap fl1⟩ 3 (0, 0) ∧ cc = R.length ∧ R.length ≤ maxLen)) (hk : k ≠ 1)
    (h : ∀ cap, L.length ≤ cap → cap ≤ maxLen → CallsV P (.func f) (args (slw 1 0 L.length cap)) [(1, wib L)] (rt (mk (slw k 0 R.length cc))) [(k, o), (1, wib L)]) : New1 P f args L mk R := by
  intro w s hg hs
  rcases hs with ⟨rfl, e⟩ | ⟨B, off, cap, rfl, h1, h2, h3⟩
  · exact absurd e hL
  have := calls_wins (β := fun _ => (B, capU + off)) hg (h cap h1 h2) (by rw [ha, ren_seen (β := fun _ => (B, capU + off)) (i := 1) rfl h2]) (lie_1 (lie_seen rfl (fl1_plain L) (seen_of_win h3)))
  refine this.mono ?_
  rintro e w' ⟨β', hb', rfl, hR, hb⟩
  have lk1 : look [(k, o), (1, wib L)] 1 = some (wib L) := by simp [look, hk]
  have lkk : look [(k, o), (1, wib L)] k = some o := by simp [look]
  have hno : winO o = false ∧ isLive o = true := by rcases ho with ⟨rfl, _⟩ | ⟨rfl, _⟩ <;> exact ⟨rfl, rfl⟩
  have hge : w.heap.size ≤ (β' k).1 := by
    rcases hR.own k (liveB_of lkk hno.2) with h4 | h4
    · exfalso
      obtain ⟨j, hj, e⟩ := rng_own.1 h4
      have hj1 : j = 1 := by
        unfold liveB at hj
        simp only [look] at hj
        split at hj
        · rename_i o' ho'
          split at ho'
          · rename_i e1; exact e1.symm
          · cases ho'
        · cases hj
      subst hj1
      have e2 : (β' k).1 = (β' 1).1 := by rw [hb' 1 rfl]; exact e.symm
      exact hk (hR.inj k 1 (liveB_of lkk hno.2) (liveB_of lk1 rfl) (winB_of lkk hno.1) e2)
    · exact h4
  have hl := hR.lies k o lkk
  have hpl : renA β' ⟨R.flatMap fl1⟩ = ⟨R.flatMap fl1⟩ := renA_plain _ (show wfA noB ⟨R.flatMap fl1⟩ = true from fl1_plain R)
  rcases ho with ⟨rfl, rfl⟩ | ⟨rfl, rfl, hmax⟩
  · have h5 := hl.2.1 rfl
    rw [hpl] at h5
    have hcm : (β' k).2 ≤ maxLen := by obtain ⟨_, _, h2, _⟩ := h5; exact h2
    exact ⟨(β' k).1, (β' k).2, by simp only [Res.out, hm, ren, renP, capR, if_true, shf0 (le_capU hcm), Nat.add_zero], hge, h5, hb⟩
  · obtain ⟨h6, h5⟩ := hl.1 rfl
    rw [hpl] at h5
    refine ⟨(β' k).1, R.length, by simp only [Res.out, hm, ren, renP, shf0 h6, Nat.add_zero, capR_ne (x := β' k) (cap_ne hmax)], hge, ⟨_, h5, hmax, ?_, Nat.le_refl _, ?_⟩, hb⟩
    · simp only [List.size_toArray, fl1_len, Nat.mul_one]
    · rw [← Array.length_toList]; exact List.take_length
/-- .. out of a run over a window that is not looked into. -/
theorem new1_ofw {mk : Value → Value} {R : List Int} {k : Nat} (ha : ∀ β s, renA β (args s) = args (ren β s)) (hm : ∀ β s, ren β (mk s) = mk (ren β s)) (hL : L ≠ [])
    (hk : k ≠ 1)
    (h : ∀ off cap, L.length ≤ cap → cap ≤ maxLen → CallsV P (.func f) (args (slw 1 off L.length cap)) [(1, win off (cwx fl1 off L))] (rt (mk (slw k 0 R.length capU))) [(k, .chan 1 ⟨R.flatMap fl1⟩ false 3 0 false), (1, win off (cwx fl1 off L))]) : New1 P f args L mk R := by
  intro w s hg hs
  rcases hs with ⟨rfl, e⟩ | ⟨B, off, cap, rfl, h1, h2, h3⟩
  · exact absurd e hL
  have := calls_wins (β := fun _ => (B, 0)) hg (h off cap h1 h2) (by rw [ha, ren_win (β := fun _ => (B, 0)) (i := 1) rfl h2]) (lie_1 (lie_win rfl (cwx_plain _ _) h3))
  refine this.mono ?_
  rintro e w' ⟨β', hb', rfl, hR, hb⟩
  have lk1 : look [(k, .chan 1 ⟨R.flatMap fl1⟩ false 3 0 false), (1, win off (cwx fl1 off L))] 1 = some (win off (cwx fl1 off L)) := by simp [look, hk]
  have lkk : look [(k, .chan 1 ⟨R.flatMap fl1⟩ false 3 0 false), (1, win off (cwx fl1 off L))] k = some (.chan 1 ⟨R.flatMap fl1⟩ false 3 0 false) := by simp [look]
  have hno : winO (.chan 1 ⟨R.flatMap fl1⟩ false 3 0 false) = false ∧ isLive (.chan 1 ⟨R.flatMap fl1⟩ false 3 0 false) = true := ⟨rfl, rfl⟩
  have hge : w.heap.size ≤ (β' k).1 := by
    rcases hR.own k (liveB_of lkk hno.2) with h4 | h4
    · exfalso
      obtain ⟨j, hj, e⟩ := rng_own.1 h4
      have hj1 : j = 1 := by
        unfold liveB at hj
        simp only [look] at hj
        split at hj
        · rename_i o' ho'
          split at ho'
          · rename_i e1; exact e1.symm
          · cases ho'
        · cases hj
      subst hj1
      have e2 : (β' k).1 = (β' 1).1 := by rw [hb' 1 rfl]; exact e.symm
      exact hk (hR.inj k 1 (liveB_of lkk hno.2) (liveB_of lk1 rfl) (winB_of lkk hno.1) e2)
    · exact h4
  have h5 := (hR.lies k _ lkk).1 rfl
  have hcm : (β' k).2 ≤ maxLen := by obtain ⟨_, _, h2, _⟩ := h5; exact h2
  exact ⟨(β' k).1, (β' k).2, by simp only [Res.out, hm, ren, renP, capR, if_true, shf0 (le_capU hcm), Nat.add_zero], hge, h5, hb⟩
/-- The same blocks in another order. -/
theorem callsV_perm {f : Nat} {args : Array Value} {H H' G : Hp} {r : Res} (h : CallsV P (.func f) args H r H') (hl : ∀ i, look G i = look H' i) : CallsV P (.func f) args H r G := by
  intro β w hR
  refine (h β w hR).mono ?_
  rintro e w' ⟨β', hb, rfl, hR'⟩
  exact ⟨β', hb, rfl, hR'.congr (fun _ _ => rfl) hl⟩
end
end Go.Proofs.YtcjjckokaiobcaaDoor

/- Lists of whatever plain elements, wherever they lie: what a call answers of one, or of two, and what it makes of them. -/
namespace Go.Proofs.YtcjjckokaiobcaaDoor
open Go Go.RowKit
set_option linter.unusedSimpArgs false
set_option linter.unusedVariables false
attribute [local irreducible] shf

/-- A kind of elements: their cells, how many, their type. -/
structure Kd (α : Type) where
  fl : α → List Value
  σ : Nat
  T : TypeId
  pos : 0 < σ
  len : ∀ x, (fl x).length = σ
  pl : ∀ x, wfL noB (fl x) = true
variable {α α2 α3 : Type}
theorem Kd.size (K : Kd α) (L : List α) : (L.flatMap K.fl).length = L.length * K.σ := by
  induction L with
  | nil => simp
  | cons x r ih => rw [List.flatMap_cons, List.length_append, ih, K.len, List.length_cons, Nat.add_mul]; omega
theorem Kd.plain (K : Kd α) (L : List α) : wfL noB (L.flatMap K.fl) = true := by
  rw [wfL_all]
  intro v hv
  obtain ⟨x, -, hx⟩ := List.mem_flatMap.1 hv
  exact (wfL_all _ _).1 (K.pl x) v hx
theorem Kd.cplain (K : Kd α) (off : Nat) (L : List α) : wfA noB (cwx K.fl off L) = true := by
  show wfL noB (List.replicate off ud ++ L.flatMap K.fl) = true
  rw [wfL_all]
  intro v h
  rcases List.mem_append.1 h with h | h
  · rw [(List.mem_replicate.1 h).2]; rfl
  · exact (wfL_all _ _).1 (K.plain L) v h
/-- As a block of ours that may grow; as one that is not looked into; as a window whose cells are told. -/
def Kd.own (K : Kd α) (L : List α) : Obj := .cells ⟨L.flatMap K.fl⟩ K.T (1, K.σ)
def Kd.opq (K : Kd α) (L : List α) : Obj := .chan K.σ ⟨L.flatMap K.fl⟩ false K.T 0 false
def Kd.seen (K : Kd α) (L : List α) : Obj := .cells ⟨L.flatMap K.fl⟩ K.T (2, 0)
def Kd.win (K : Kd α) (off : Nat) (L : List α) : Obj := Go.Proofs.YtcjjckokaiobcaaDoor.win off (cwx K.fl off L)
/-- A list lies in the world. -/
def LieK (K : Kd α) (w : World) (v : Value) (L : List α) : Prop :=
  (v = sl0 ∧ L = []) ∨ ∃ B off cap, v = slw B off L.length cap ∧ L.length ≤ cap ∧ cap ≤ maxLen ∧ WinAt off (cwx K.fl off L) w.heap[B]?
theorem LieK.below {K : Kd α} {w w' : World} {v : Value} {L : List α} (h : LieK K w v L) (hb : Below w.heap.size w w') : LieK K w' v L := by
  rcases h with h | ⟨B, off, cap, e, h1, h2, h3⟩
  · exact .inl h
  · refine .inr ⟨B, off, cap, e, h1, h2, ?_⟩
    obtain ⟨cur, T, fr, h4, h5⟩ := h3
    rw [hb.block B (Array.getElem?_eq_some_iff.1 h4).1]
    exact ⟨cur, T, fr, h4, h5⟩
section
variable {K : Kd α} {A : Nat → Prop} {w0 : World} {β : Num} {H : Hp} {w : World} {L : List α} {k off cap : Nat}
theorem lk_nil : LieK K w (ren β sl0) [] := .inl ⟨rfl, rfl⟩
theorem lk_win (hR : Rel A w0 β H w) (hk : look H k = some (K.win off L)) (hl : L.length ≤ cap) (hc : cap ≤ maxLen) : LieK K w (ren β (slw k off L.length cap)) L := by
  obtain ⟨h1, h2⟩ := (hR.lies k _ hk).2.1 rfl
  exact .inr ⟨(β k).1, off, cap, by simp only [ren, renP, shf0 h1, Nat.add_zero, capR_ne (x := β k) (cap_ne hc)], hl, hc, h2⟩
theorem lk_seen (hR : Rel A w0 β H w) (hk : look H k = some (K.seen L)) (hl : L.length ≤ cap) (hc : cap ≤ maxLen) : LieK K w (ren β (slw k 0 L.length cap)) L := by
  obtain ⟨cur, T, fr, h1, h2⟩ := (hR.lies k _ hk).2.2 (by simp) (by simp)
  refine .inr ⟨(β k).1, shf (β k), cap, by simp only [ren, renP, Nat.zero_add, capR_ne (x := β k) (cap_ne hc)], hl, hc, cur, T, fr, h1, fun j v hj hv => ?_⟩
  rw [cwx_at hj] at hv
  have := h2 (j - shf (β k)) v (by rw [renA_plain _ (show wfA noB ⟨L.flatMap K.fl⟩ = true from K.plain L)]; simpa using hv)
  rw [← shf_eq, Nat.sub_add_cancel hj] at this
  exact this
theorem lk_open {cap' : Nat} {T : TypeId} {x : Option Obj} (h : OpenAt cap' K.σ T ⟨L.flatMap K.fl⟩ x) : L.length ≤ cap' ∧ cap' ≤ maxLen ∧ WinAt 0 (cwx K.fl 0 L) x := by
  obtain ⟨cur, h1, h2, h3, h4, h5⟩ := h
  have hsz : (Array.mk (L.flatMap K.fl)).size = L.length * K.σ := by simp only [List.size_toArray]; exact K.size L
  rw [hsz] at h4 h5
  have h5 : cur.toList.take (L.length * K.σ) = L.flatMap K.fl := h5
  refine ⟨Nat.le_of_mul_le_mul_right (h3 ▸ h4) K.pos, h2, cur, _, _, h1, fun j v hj hv => ?_⟩
  rw [cwx_at hj, Nat.sub_zero, ← h5, List.getElem?_take] at hv
  split at hv
  · simpa using hv
  · cases hv
theorem lk_opq (hR : Rel A w0 β H w) (hk : look H k = some (K.opq L)) : LieK K w (ren β (slw k 0 L.length capU)) L := by
  obtain ⟨h1, h2, h3⟩ := lk_open ((hR.lies k _ hk).1 rfl)
  exact .inr ⟨(β k).1, 0, (β k).2, by simp only [ren, renP, shf0 (le_capU h2), Nat.add_zero, capR, if_true], h1, h2, h3⟩
theorem lk_own (hR : Rel A w0 β H w) (hk : look H k = some (K.own L)) : LieK K w (ren β (slw k 0 L.length capU)) L := by
  have h := (hR.lies k _ hk).2.1 rfl
  rw [renA_plain _ (show wfA noB ⟨L.flatMap K.fl⟩ = true from K.plain L)] at h
  obtain ⟨h1, h2, h3⟩ := lk_open h
  exact .inr ⟨(β k).1, 0, (β k).2, by simp only [ren, renP, shf0 (le_capU h2), Nat.add_zero, capR, if_true], h1, h2, h3⟩
end
/-- A list that a call is handed: its value, its block (told, or not looked into). -/
def Kd.val (K : Kd α) (sn : Bool) (k off : Nat) (L : List α) (cap : Nat) : Value := slw k (if sn then 0 else off) L.length cap
def Kd.ob (K : Kd α) (sn : Bool) (off : Nat) (L : List α) : Obj := if sn then K.seen L else K.win off L
def Kd.nm (sn : Bool) (B off : Nat) : Nat × Nat := if sn then (B, capU + off) else (B, 0)
theorem Kd.lie (K : Kd α) {sn : Bool} {β : Num} {w : World} {i B off : Nat} {L : List α} (e : β i = Kd.nm sn B off) (hw : WinAt off (cwx K.fl off L) w.heap[B]?) : Lie β w i (K.ob sn off L) := by
  cases sn with
  | true => exact lie_seen e (K.plain L) (seen_of_win hw)
  | false => exact lie_win e (K.cplain _ _) hw
theorem Kd.ren (K : Kd α) {sn : Bool} {β : Num} {i B off cap : Nat} {L : List α} (e : β i = Kd.nm sn B off) (hc : cap ≤ maxLen) : Go.Proofs.YtcjjckokaiobcaaDoor.ren β (K.val sn i off L cap) = slw B off L.length cap := by
  cases sn with
  | true => exact ren_seen e hc
  | false => exact ren_win e hc
/-- The answer, wherever the list lies; of two lists. -/
def SemA (K : Kd α) (P : Program) (f : Nat) (args : Value → Array Value) (L : List α) (v : Value) : Prop :=
  ∀ w s, GL w → LieK K w s L → Calls P f (args s) w fun e w' => e = .returned v ∧ Below w.heap.size w w'
def SemB (K : Kd α) (K2 : Kd α2) (P : Program) (f : Nat) (args : Value → Value → Array Value) (L : List α) (M : List α2) (v : Value) : Prop :=
  ∀ w s s', GL w → LieK K w s L → LieK K2 w s' M → Calls P f (args s s') w fun e w' => e = .returned v ∧ Below w.heap.size w w'
/-- A new list in the answer. -/
def NewA (K : Kd α) (P : Program) (f : Nat) (args : Value → Array Value) (L : List α) (K3 : Kd α3) (mk : Value → Value) (R : List α3) : Prop :=
  ∀ w s, GL w → LieK K w s L → Calls P f (args s) w fun e w' => ∃ B cap, e = .returned (mk (slw B 0 R.length cap)) ∧ w.heap.size ≤ B ∧ OpenAt cap K3.σ K3.T ⟨R.flatMap K3.fl⟩ w'.heap[B]? ∧ Below w.heap.size w w'
def NewB (K : Kd α) (K2 : Kd α2) (P : Program) (f : Nat) (args : Value → Value → Array Value) (L : List α) (M : List α2) (K3 : Kd α3) (mk : Value → Value) (R : List α3) : Prop :=
  ∀ w s s', GL w → LieK K w s L → LieK K2 w s' M → Calls P f (args s s') w fun e w' => ∃ B cap, e = .returned (mk (slw B 0 R.length cap)) ∧ w.heap.size ≤ B ∧ OpenAt cap K3.σ K3.T ⟨R.flatMap K3.fl⟩ w'.heap[B]? ∧ Below w.heap.size w w'
section
variable {K : Kd α} {K2 : Kd α2} {K3 : Kd α3} {P : Program} {f : Nat} {args : Value → Array Value} {args2 : Value → Value → Array Value} {L : List α} {M : List α2} {R : List α3} {v : Value} {mk : Value → Value}
/-- .. out of runs of letters. -/
theorem semA_mk (sn : Bool) (ha : ∀ β s, renA β (args s) = args (ren β s)) (hv : wfV noB v = true) (hnil : L = [] → PureX P f (args sl0) (rt v))
    (h : ∀ off cap, L.length ≤ cap → cap ≤ maxLen → CallsV P (.func f) (args (K.val sn 1 off L cap)) [(1, K.ob sn off L)] (rt v) [(1, K.ob sn off L)]) : SemA K P f args L v := by
  intro w s hg hs
  rcases hs with ⟨rfl, hL⟩ | ⟨B, off, cap, rfl, h1, h2, h3⟩
  · exact pure_calls (args' := #[]) (hnil hL) hv w hg
  · have := calls_wins (β := fun _ => Kd.nm sn B off) hg (h off cap h1 h2) (by rw [ha, K.ren (sn := sn) (β := fun _ => Kd.nm sn B off) (i := 1) (B := B) (off := off) (L := L) rfl h2]) (lie_1 (K.lie rfl h3))
    refine this.mono ?_
    rintro e w' ⟨β', _, rfl, _, hb⟩
    exact ⟨by simp only [Res.out, ren_plain β' hv], hb⟩
theorem semB_mk (sn sn2 : Bool) (ha : ∀ β s s', renA β (args2 s s') = args2 (ren β s) (ren β s')) (hv : wfV noB v = true)
    (hnn : L = [] → M = [] → PureX P f (args2 sl0 sl0) (rt v))
    (hnw : L = [] → ∀ off cap, M.length ≤ cap → cap ≤ maxLen → CallsV P (.func f) (args2 sl0 (K2.val sn2 2 off M cap)) [(2, K2.ob sn2 off M)] (rt v) [(2, K2.ob sn2 off M)])
    (hwn : M = [] → ∀ off cap, L.length ≤ cap → cap ≤ maxLen → CallsV P (.func f) (args2 (K.val sn 1 off L cap) sl0) [(1, K.ob sn off L)] (rt v) [(1, K.ob sn off L)])
    (hww : ∀ off cap off' cap', L.length ≤ cap → cap ≤ maxLen → M.length ≤ cap' → cap' ≤ maxLen → CallsV P (.func f) (args2 (K.val sn 1 off L cap) (K2.val sn2 2 off' M cap')) [(1, K.ob sn off L), (2, K2.ob sn2 off' M)] (rt v) [(1, K.ob sn off L), (2, K2.ob sn2 off' M)]) : SemB K K2 P f args2 L M v := by
  intro w s s' hg hs hs'
  rcases hs with ⟨rfl, hL⟩ | ⟨B, off, cap, rfl, h1, h2, h3⟩ <;> rcases hs' with ⟨rfl, hM⟩ | ⟨B', off', cap', rfl, g1, g2, g3⟩
  · exact pure_calls (args' := #[]) (hnn hL hM) hv w hg
  · have := calls_wins (β := fun _ => Kd.nm sn2 B' off') hg (hnw hL off' cap' g1 g2) (by rw [ha, K2.ren (sn := sn2) (β := fun _ => Kd.nm sn2 B' off') (i := 2) (B := B') (off := off') (L := M) rfl g2]) (lie_1 (K2.lie rfl g3))
    refine this.mono ?_
    rintro e w' ⟨β', _, rfl, _, hb⟩
    exact ⟨by simp only [Res.out, ren_plain β' hv], hb⟩
  · have := calls_wins (β := fun _ => Kd.nm sn B off) hg (hwn hM off cap h1 h2) (by rw [ha, K.ren (sn := sn) (β := fun _ => Kd.nm sn B off) (i := 1) (B := B) (off := off) (L := L) rfl h2]) (lie_1 (K.lie rfl h3))
    refine this.mono ?_
    rintro e w' ⟨β', _, rfl, _, hb⟩
    exact ⟨by simp only [Res.out, ren_plain β' hv], hb⟩
  · have := calls_wins (β := fun i => if i = 1 then Kd.nm sn B off else Kd.nm sn2 B' off') hg (hww off cap off' cap' h1 h2 g1 g2) (by rw [ha, K.ren (sn := sn) (β := fun i => if i = 1 then Kd.nm sn B off else Kd.nm sn2 B' off') (i := 1) (B := B) (off := off) (L := L) rfl h2, K2.ren (sn := sn2) (β := fun i => if i = 1 then Kd.nm sn B off else Kd.nm sn2 B' off') (i := 2) (B := B') (off := off') (L := M) rfl g2]) (lie_2 (K.lie rfl h3) (K2.lie rfl g3))
    refine this.mono ?_
    rintro e w' ⟨β', _, rfl, _, hb⟩
    exact ⟨by simp only [Res.out, ren_plain β' hv], hb⟩
/-- Neither list is empty. -/
theorem semB_ww (sn sn2 : Bool) (hL : L ≠ []) (hM : M ≠ []) (ha : ∀ β s s', renA β (args2 s s') = args2 (ren β s) (ren β s')) (hv : wfV noB v = true)
    (hww : ∀ off cap off' cap', L.length ≤ cap → cap ≤ maxLen → M.length ≤ cap' → cap' ≤ maxLen → CallsV P (.func f) (args2 (K.val sn 1 off L cap) (K2.val sn2 2 off' M cap')) [(1, K.ob sn off L), (2, K2.ob sn2 off' M)] (rt v) [(1, K.ob sn off L), (2, K2.ob sn2 off' M)]) : SemB K K2 P f args2 L M v :=
  semB_mk sn sn2 ha hv (fun h => absurd h hL) (fun h => absurd h hL) (fun h => absurd h hM) hww
theorem semA_calls (h : SemA K P f args L v) (ha : ∀ β s, renA β (args s) = args (ren β s)) (hv : wfV noB v = true) {H : Hp} {s : Value}
    (hs : ∀ β w, Rel (rng β H) w β H w → LieK K w (ren β s) L) : CallsV P (.func f) (args s) H (rt v) H := by
  intro β w hR
  simp only [ha]
  refine (h w _ hR.kp.glw (hs β w hR)).mono ?_
  rintro e w' ⟨rfl, hb⟩
  exact ⟨β, fun _ _ => rfl, by simp only [Res.out, ren_plain β hv], hR.below hb⟩
theorem semB_calls (h : SemB K K2 P f args2 L M v) (ha : ∀ β s s', renA β (args2 s s') = args2 (ren β s) (ren β s')) (hv : wfV noB v = true) {H : Hp} {s s' : Value}
    (hs : ∀ β w, Rel (rng β H) w β H w → LieK K w (ren β s) L ∧ LieK K2 w (ren β s') M) : CallsV P (.func f) (args2 s s') H (rt v) H := by
  intro β w hR
  simp only [ha]
  refine (h w _ _ hR.kp.glw (hs β w hR).1 (hs β w hR).2).mono ?_
  rintro e w' ⟨rfl, hb⟩
  exact ⟨β, fun _ _ => rfl, by simp only [Res.out, ren_plain β hv], hR.below hb⟩
/-- A new list's block, told or not looked into. -/
def Kd.nob (K : Kd α) (q : Bool) (R : List α) : Obj := if q then K.own R else K.opq R
theorem new_core {w : World} {β : Num} {H : Hp} (hR : Rel (rng β H) w β H w) (q : Bool) (hm : ∀ β s, ren β (mk s) = mk (ren β s)) {k : Nat} (hk : domB H k = false) {e : Ending} {w' : World}
    (h : ∃ B cap, e = .returned (mk (slw B 0 R.length cap)) ∧ w.heap.size ≤ B ∧ OpenAt cap K3.σ K3.T ⟨R.flatMap K3.fl⟩ w'.heap[B]? ∧ Below w.heap.size w w') :
    ∃ β', (∀ i, domB H i = true → β' i = β i) ∧ e = (rt (mk (slw k 0 R.length capU))).out β' ∧ Rel (rng β H) w β' ((k, K3.nob q R) :: H) w' := by
  obtain ⟨B, cap, rfl, hB, ho, hb⟩ := h
  have hcm : cap ≤ maxLen := by obtain ⟨_, _, h2, _⟩ := ho; exact h2
  have hwf : wfO (domB H) (K3.nob q R) = true := by
    cases q with
    | true =>
      simp only [Kd.nob, Kd.own, if_true, wfO, Bool.and_eq_true]
      exact ⟨wfA_mono (p := noB) (fun _ h => (by cases h)) _ (K3.plain R), by simp⟩
    | false => rfl
  have hli : LiesO β cap (K3.nob q R) w'.heap[B]? := by
    cases q with
    | true =>
      refine ⟨fun h => (by cases h), fun _ => ?_, fun _ h => absurd rfl h⟩
      rw [renA_plain _ (show wfA noB ⟨R.flatMap K3.fl⟩ = true from K3.plain R)]
      exact ho
    | false => exact ⟨fun _ => ho, fun h => (by cases h), K3.plain R⟩
  have hF := hR.fresh hb hk (o := K3.nob q R) (cap := cap) hwf hB hli (by cases q <;> rfl)
  have hag : ∀ i, domB H i = true → upd1 β k (B, cap) i = β i := fun i hi => upd1_ne (fun e => by rw [e, hk] at hi; cases hi)
  refine ⟨upd1 β k (B, cap), hag, ?_, hF.congr (fun _ _ => rfl) (look_cons_hput hk)⟩
  simp only [Res.out, hm, ren, renP, upd1_self, capR, if_true, shf0 (x := (B, cap)) (le_capU hcm), Nat.add_zero]
theorem newA_calls (h : NewA K P f args L K3 mk R) (q : Bool) (ha : ∀ β s, renA β (args s) = args (ren β s)) (hm : ∀ β s, ren β (mk s) = mk (ren β s)) {H : Hp} {s : Value} {k : Nat} (hk : domB H k = false)
    (hs : ∀ β w, Rel (rng β H) w β H w → LieK K w (ren β s) L) : CallsV P (.func f) (args s) H (rt (mk (slw k 0 R.length capU))) ((k, K3.nob q R) :: H) := by
  intro β w hR
  simp only [ha]
  exact (h w _ hR.kp.glw (hs β w hR)).mono fun e w' hh => new_core hR q hm hk hh
theorem newB_calls (h : NewB K K2 P f args2 L M K3 mk R) (q : Bool) (ha : ∀ β s s', renA β (args2 s s') = args2 (ren β s) (ren β s')) (hm : ∀ β s, ren β (mk s) = mk (ren β s)) {H : Hp} {s s' : Value} {k : Nat} (hk : domB H k = false)
    (hs : ∀ β w, Rel (rng β H) w β H w → LieK K w (ren β s) L ∧ LieK K2 w (ren β s') M) : CallsV P (.func f) (args2 s s') H (rt (mk (slw k 0 R.length capU))) ((k, K3.nob q R) :: H) := by
  intro β w hR
  simp only [ha]
  exact (h w _ _ hR.kp.glw (hs β w hR).1 (hs β w hR).2).mono fun e w' hh => new_core hR q hm hk hh
/-- What a run of letters that makes a new block says of the world. -/
theorem new_of {A : Nat → Prop} {β : Num} {H H' : Hp} {w w' : World} {e : Ending} {k cc : Nat} {o : Obj} (hm : ∀ β s, ren β (mk s) = mk (ren β s)) (hA : ∀ i, A i → ∃ j, liveB H j = true ∧ (2 * (β j).1 = i ∨ 2 * (β j).1 + 1 = i)) 
    (ho : (o = K3.own R ∧ cc = capU) ∨ (o = K3.opq R ∧ cc = capU) ∨ (o = .cells ⟨R.flatMap K3.fl⟩ K3.T (0, 0) ∧ cc = R.length ∧ R.length ≤ maxLen)) (hk : liveB H k = false)
    (h : ∃ β', (∀ i, domB H i = true → β' i = β i) ∧ e = (rt (mk (slw k 0 R.length cc))).out β' ∧ Rel A w β' H' w' ∧ Below w.heap.size w w') (hlive : ∀ j, liveB H j = true → liveB H' j = true) (hd : ∀ j, liveB H j = true → domB H j = true) (hkk : look H' k = some o) :
    ∃ B cap, e = .returned (mk (slw B 0 R.length cap)) ∧ w.heap.size ≤ B ∧ OpenAt cap K3.σ K3.T ⟨R.flatMap K3.fl⟩ w'.heap[B]? ∧ Below w.heap.size w w' := by
  obtain ⟨β', hb', rfl, hR, hb⟩ := h
  have hno : winO o = false ∧ isLive o = true := by rcases ho with ⟨rfl, _⟩ | ⟨rfl, _⟩ | ⟨rfl, _⟩ <;> exact ⟨rfl, rfl⟩
  have hge : w.heap.size ≤ (β' k).1 := by
    rcases hR.own k (liveB_of hkk hno.2) with h4 | h4
    · exfalso
      obtain ⟨j, hj, e⟩ := hA _ h4
      have e2 : (β' k).1 = (β' j).1 := by
        rw [hb' j (hd j hj)]
        omega
      have := hR.inj k j (liveB_of hkk hno.2) (hlive j hj) (winB_of hkk hno.1) e2
      rw [this, hj] at hk
      cases hk
    · exact h4
  have hl := hR.lies k o hkk
  have hpl : renA β' ⟨R.flatMap K3.fl⟩ = ⟨R.flatMap K3.fl⟩ := renA_plain _ (show wfA noB ⟨R.flatMap K3.fl⟩ = true from K3.plain R)
  rcases ho with ⟨rfl, rfl⟩ | ⟨rfl, rfl⟩ | ⟨rfl, rfl, hmax⟩
  · have h5 := hl.2.1 rfl
    rw [hpl] at h5
    have hcm : (β' k).2 ≤ maxLen := by obtain ⟨_, _, h2, _⟩ := h5; exact h2
    exact ⟨(β' k).1, (β' k).2, by simp only [Res.out, hm, ren, renP, capR, if_true, shf0 (le_capU hcm), Nat.add_zero], hge, h5, hb⟩
  · have h5 := hl.1 rfl
    have hcm : (β' k).2 ≤ maxLen := by obtain ⟨_, _, h2, _⟩ := h5; exact h2
    exact ⟨(β' k).1, (β' k).2, by simp only [Res.out, hm, ren, renP, capR, if_true, shf0 (le_capU hcm), Nat.add_zero], hge, h5, hb⟩
  · obtain ⟨h6, h5⟩ := hl.1 rfl
    rw [hpl] at h5
    refine ⟨(β' k).1, R.length, by simp only [Res.out, hm, ren, renP, shf0 h6, Nat.add_zero, capR_ne (x := β' k) (cap_ne hmax)], hge, ⟨_, h5, hmax, ?_, Nat.le_refl _, ?_⟩, hb⟩
    · simp only [List.size_toArray]; exact K3.size R
    · rw [← Array.length_toList]; exact List.take_length
theorem rng_live {β : Num} {H : Hp} : ∀ i, rng β H i → ∃ j, liveB H j = true ∧ (2 * (β j).1 = i ∨ 2 * (β j).1 + 1 = i) := fun i ⟨j, hj, h⟩ => ⟨j, hj, h.elim .inl fun h => .inr h.2⟩
theorem live_1 {i : Nat} {o : Obj} {j : Nat} (h : liveB [(i, o)] j = true) : j = i := by
  unfold liveB at h
  simp only [look] at h
  split at h
  · rename_i o' ho
    split at ho
    · rename_i e; exact e.symm
    · cases ho
  · cases h
theorem live_2 {i i2 : Nat} {o o2 : Obj} {j : Nat} (h : liveB [(i, o), (i2, o2)] j = true) : j = i ∨ j = i2 := by
  unfold liveB at h
  simp only [look] at h
  split at h
  · rename_i o' ho
    split at ho
    · rename_i e; exact .inl e.symm
    · split at ho
      · rename_i e; exact .inr e.symm
      · cases ho
  · cases h
theorem ob_live (K : Kd α) (sn : Bool) (off : Nat) (L : List α) : isLive (K.ob sn off L) = true := by cases sn <;> rfl
theorem newA_of (sn : Bool) {k cc : Nat} {o : Obj} (ha : ∀ β s, renA β (args s) = args (ren β s)) (hm : ∀ β s, ren β (mk s) = mk (ren β s)) (hL : L ≠ [])
    (ho : (o = K3.own R ∧ cc = capU) ∨ (o = K3.opq R ∧ cc = capU) ∨ (o = .cells ⟨R.flatMap K3.fl⟩ K3.T (0, 0) ∧ cc = R.length ∧ R.length ≤ maxLen)) (hk : k ≠ 1)
    (h : ∀ off cap, L.length ≤ cap → cap ≤ maxLen → CallsV P (.func f) (args (K.val sn 1 off L cap)) [(1, K.ob sn off L)] (rt (mk (slw k 0 R.length cc))) [(k, o), (1, K.ob sn off L)]) : NewA K P f args L K3 mk R := by
  intro w s hg hs
  rcases hs with ⟨rfl, e⟩ | ⟨B, off, cap, rfl, h1, h2, h3⟩
  · exact absurd e hL
  have := calls_wins (β := fun _ => Kd.nm sn B off) hg (h off cap h1 h2) (by rw [ha, K.ren (sn := sn) (β := fun _ => Kd.nm sn B off) (i := 1) (B := B) (off := off) (L := L) rfl h2]) (lie_1 (K.lie rfl h3))
  have l1 : look [(k, o), (1, K.ob sn off L)] 1 = some (K.ob sn off L) := by simp [look, hk]
  refine this.mono fun e w' hh => new_of hm rng_live ho (Bool.eq_false_iff.2 fun hx => hk (live_1 hx)) hh (fun j hj => ?_) (fun j hj => liveB_dom hj) (by simp [look])
  rw [live_1 hj]
  exact liveB_of l1 (ob_live K sn off L)
theorem newB_of (sn sn2 : Bool) {k cc : Nat} {o : Obj} (ha : ∀ β s s', renA β (args2 s s') = args2 (ren β s) (ren β s')) (hm : ∀ β s, ren β (mk s) = mk (ren β s)) (hL : L ≠ []) (hM : M ≠ [])
    (ho : (o = K3.own R ∧ cc = capU) ∨ (o = K3.opq R ∧ cc = capU) ∨ (o = .cells ⟨R.flatMap K3.fl⟩ K3.T (0, 0) ∧ cc = R.length ∧ R.length ≤ maxLen)) (hk : k ≠ 1 ∧ k ≠ 2)
    (h : ∀ off cap off' cap', L.length ≤ cap → cap ≤ maxLen → M.length ≤ cap' → cap' ≤ maxLen → CallsV P (.func f) (args2 (K.val sn 1 off L cap) (K2.val sn2 2 off' M cap')) [(1, K.ob sn off L), (2, K2.ob sn2 off' M)] (rt (mk (slw k 0 R.length cc))) [(k, o), (1, K.ob sn off L), (2, K2.ob sn2 off' M)]) : NewB K K2 P f args2 L M K3 mk R := by
  intro w s s' hg hs hs'
  rcases hs with ⟨rfl, e⟩ | ⟨B, off, cap, rfl, h1, h2, h3⟩
  · exact absurd e hL
  rcases hs' with ⟨rfl, e⟩ | ⟨B', off', cap', rfl, g1, g2, g3⟩
  · exact absurd e hM
  have := calls_wins (β := fun i => if i = 1 then Kd.nm sn B off else Kd.nm sn2 B' off') hg (h off cap off' cap' h1 h2 g1 g2) (by rw [ha, K.ren (sn := sn) (β := fun i => if i = 1 then Kd.nm sn B off else Kd.nm sn2 B' off') (i := 1) (B := B) (off := off) (L := L) rfl h2, K2.ren (sn := sn2) (β := fun i => if i = 1 then Kd.nm sn B off else Kd.nm sn2 B' off') (i := 2) (B := B') (off := off') (L := M) rfl g2]) (lie_2 (K.lie rfl h3) (K2.lie rfl g3))
  have l1 : look [(k, o), (1, K.ob sn off L), (2, K2.ob sn2 off' M)] 1 = some (K.ob sn off L) := by simp [look, hk.1]
  have l2 : look [(k, o), (1, K.ob sn off L), (2, K2.ob sn2 off' M)] 2 = some (K2.ob sn2 off' M) := by simp [look, hk.2]
  refine this.mono fun e w' hh => new_of hm rng_live ho (Bool.eq_false_iff.2 fun hx => (live_2 hx).elim hk.1 hk.2) hh (fun j hj => ?_) (fun j hj => liveB_dom hj) (by simp [look])
  rcases live_2 hj with rfl | rfl
  · exact liveB_of l1 (ob_live K sn off L)
  · exact liveB_of l2 (ob_live K2 sn2 off' M)
theorem out_plain {e : Ending} {v : Value} (hv : wfV noB v = true) (h : e = .returned v) : e = (rt v).out idN := by
  subst h
  simp only [Res.out, ren_plain idN hv]
theorem semA_pure (h : SemA K P f args [] v) (hv : wfV noB v = true) : PureX P f (args sl0) (rt v) := fun w hg =>
  (h w sl0 hg (.inl ⟨rfl, rfl⟩)).mono fun e w' hh => ⟨out_plain hv hh.1, hh.2⟩
end
/-- Ints are one kind. -/
def KI : Kd Int := ⟨fl1, 1, 3, by decide, fun _ => rfl, fun _ => rfl⟩
theorem semA_ints {P : Program} {f : Nat} {args : Value → Array Value} {L : List Int} {v : Value} (h : Sem1 P f args L v) : SemA KI P f args L v := h
end Go.Proofs.YtcjjckokaiobcaaDoor

/- A function that is handed no block. -/
namespace Go.Proofs.YtcjjckokaiobcaaDoor
open Go Go.RowKit
set_option linter.unusedSimpArgs false
set_option linter.unusedVariables false

theorem runF_pure {P : Program} (hmix : P.follows .mixedOrders = true) {n : Nat} {keep : List Nat} {f : Nat} {args : Array Value} {orc : List (Option Bool)} {ans : List (Nat × Res)} {bls : List (Nat × Res × Hp)} {lds : List (List Value)} {r : Res} {obl : List Prop}
    (h : runF P n keep f args [] orc ans bls lds = some (r, [], obl)) (ho : AllP obl) (ha : wfA noB args = true) (hr : resOK noB r = true) : PureX P f args r := by
  intro w hg
  have := runF_calls hmix h ho ha rfl idN w (Rel.nil _ _ _ (gl_nil hg))
  have ha2 : renA idN args = args := renA_plain _ ha
  simp only [ha2] at this
  refine this.mono ?_
  rintro e w' ⟨β', _, rfl, hR⟩
  refine ⟨?_, hR.kp.below (Nat.le_refl _) ?_⟩
  · cases r with
    | ret v =>
      simp only [Res.out]
      rw [ren_plain β' hr, ren_plain _ hr]
    | pan ch => rfl
  · rintro k ⟨i, hi, _⟩
    cases hi
end Go.Proofs.YtcjjckokaiobcaaDoor

/- Operations as values: a kind of elements. -/
namespace Go.Proofs.YtcjjckokaiobcaaDoor
open Go Go.RowKit
set_option linter.unusedSimpArgs false
set_option linter.unusedVariables false

/-- Kind, N, D. -/
abbrev Op3 := Int × Int × Int
abbrev uu (k : Int) : Value := .int .u8 k
def flO (o : Op3) : List Value := [uu o.1, ii o.2.1, ii o.2.2]
abbrev ov (o : Op3) : Value := .agg ⟨[uu o.1, ii o.2.1, ii o.2.2]⟩
def KO : Kd Op3 := ⟨flO, 3, 24, by decide, fun _ => rfl, fun _ => rfl⟩
theorem flO_drop : ∀ (L : List Op3) (i : Nat) (x : Op3), L[i]? = some x → ((L.flatMap flO).drop (i * 3)).take 3 = flO x
  | [], i, x, h => by simp at h
  | y :: L, 0, x, h => by
    simp only [List.getElem?_cons_zero, Option.some.injEq] at h
    subst h
    rfl
  | y :: L, i + 1, x, h => by
    rw [List.getElem?_cons_succ] at h
    have := flO_drop L i x h
    rw [List.flatMap_cons, show (i + 1) * 3 = 3 + i * 3 by omega, ← List.drop_drop]
    exact this
theorem cwO_take (off : Nat) {L : List Op3} {i : Nat} {x : Op3} (h : L[i]? = some x) : ((cwx flO off L).toList.drop (off + i * 3)).take 3 = flO x := by
  show ((List.replicate off ud ++ L.flatMap flO).drop (off + i * 3)).take 3 = flO x
  rw [List.drop_append, List.length_replicate, List.drop_eq_nil_of_le (by simp), List.nil_append, Nat.add_sub_cancel_left]
  exact flO_drop L i x h
theorem cwO_at (off : Nat) {L : List Op3} {i : Nat} {x : Op3} (h : L[i]? = some x) : (cwx flO off L)[off + i * 3]? = some (uu x.1) ∧ (cwx flO off L)[off + i * 3 + 1]? = some (ii x.2.1) ∧ (cwx flO off L)[off + i * 3 + 2]? = some (ii x.2.2) := by
  have k := cwO_take off h
  have g : ∀ j, j < 3 → (cwx flO off L)[off + i * 3 + j]? = (flO x)[j]? := fun j hj => by
    rw [← k, List.getElem?_take_of_lt hj, List.getElem?_drop, Array.getElem?_toList]
  exact ⟨g 0 (by decide), g 1 (by decide), g 2 (by decide)⟩
theorem flO_plain (N : List Op3) : wfL noB (N.flatMap flO) = true := KO.plain N

end Go.Proofs.YtcjjckokaiobcaaDoor

/- Which operations are right, which sums count; lowest terms. -/
namespace Go.Proofs.YtcjjckokaiobcaaDoor
open Go Go.RowKit
set_option linter.unusedSimpArgs false
set_option linter.unusedVariables false
set_option maxRecDepth 100000

theorem rightr_0 (o : Op3) : runF Tryd.prog 1000 [] 19 #[ov o] [] [f, n, n, n, n, n, n, n, n] [] [] [] =
    some (rt (bb (false)), [], [(decide (1 ≤ o.1)) = false]) := by kernel_rfl
theorem drightr_0 (o : Op3) : runF Tryd.prog 1000 [] 20 #[ov o] [] [f, n, n, n, n, n, n, n, n, n, n, n, n, n, n] [] [] [] =
    some (rt (bb (false)), [], [(decide (1 ≤ o.1)) = false]) := by kernel_rfl
theorem rightr_1 (o : Op3) : runF Tryd.prog 1000 [] 19 #[ov o] [] [t, n, n, f, n, n, n, n, n] [] [] [] =
    some (rt (bb (false)), [], [(decide (1 ≤ o.1)) = true, (decide (o.1 < 4)) = false]) := by kernel_rfl
theorem drightr_1 (o : Op3) : runF Tryd.prog 1000 [] 20 #[ov o] [] [t, n, n, f, n, n, n, n, n, n, n, n, n, n, n] [] [] [] =
    some (rt (bb (false)), [], [(decide (1 ≤ o.1)) = true, (decide (o.1 < 4)) = false]) := by kernel_rfl
theorem rightr_2 (o : Op3) : runF Tryd.prog 1000 [] 19 #[ov o] [] [t, n, n, t, n, n, f, n, n, n, n, n] [] [] [] =
    some (rt (bb (false)), [], [(decide (1 ≤ o.1)) = true, (decide (o.1 < 4)) = true, (decide (Int.neg 2097152 ≤ o.2.1)) = false]) := by kernel_rfl
theorem drightr_2 (o : Op3) : runF Tryd.prog 1000 [] 20 #[ov o] [] [t, n, n, t, n, n, f, n, n, n, n, n, n, n, n] [] [] [] =
    some (rt (bb (false)), [], [(decide (1 ≤ o.1)) = true, (decide (o.1 < 4)) = true, (decide (Int.neg 2097152 ≤ o.2.1)) = false]) := by kernel_rfl
theorem rightr_3 (o : Op3) : runF Tryd.prog 1000 [] 19 #[ov o] [] [t, n, n, t, n, n, t, n, n, f, n, n] [] [] [] =
    some (rt (bb (false)), [], [(decide (1 ≤ o.1)) = true, (decide (o.1 < 4)) = true, (decide (Int.neg 2097152 ≤ o.2.1)) = true, (decide (o.2.1 ≤ 2097152)) = false]) := by kernel_rfl
theorem drightr_3 (o : Op3) : runF Tryd.prog 1000 [] 20 #[ov o] [] [t, n, n, t, n, n, t, n, n, f, n, n, n, n, n] [] [] [] =
    some (rt (bb (false)), [], [(decide (1 ≤ o.1)) = true, (decide (o.1 < 4)) = true, (decide (Int.neg 2097152 ≤ o.2.1)) = true, (decide (o.2.1 ≤ 2097152)) = false]) := by kernel_rfl
theorem rightr_4 (o : Op3) : runF Tryd.prog 1000 [] 19 #[ov o] [] [t, n, n, t, n, n, t, n, n, t, n, n, f, n, n] [] [] [] =
    some (rt (bb (false)), [], [(decide (1 ≤ o.1)) = true, (decide (o.1 < 4)) = true, (decide (Int.neg 2097152 ≤ o.2.1)) = true, (decide (o.2.1 ≤ 2097152)) = true, (decide (1 ≤ o.2.2)) = false]) := by kernel_rfl
theorem drightr_4 (o : Op3) : runF Tryd.prog 1000 [] 20 #[ov o] [] [t, n, n, t, n, n, t, n, n, t, n, n, f, n, n] [] [] [] =
    some (rt (bb (false)), [], [(decide (1 ≤ o.1)) = true, (decide (o.1 < 4)) = true, (decide (Int.neg 2097152 ≤ o.2.1)) = true, (decide (o.2.1 ≤ 2097152)) = true, (decide (1 ≤ o.2.2)) = false]) := by kernel_rfl
theorem rightr_5 (o : Op3) : runF Tryd.prog 1000 [] 19 #[ov o] [] [t, n, n, t, n, n, t, n, n, t, n, n, t, n, n] [] [] [] =
    some (rt (bb (decide (o.2.2 ≤ 2097152))), [], [(decide (1 ≤ o.1)) = true, (decide (o.1 < 4)) = true, (decide (Int.neg 2097152 ≤ o.2.1)) = true, (decide (o.2.1 ≤ 2097152)) = true, (decide (1 ≤ o.2.2)) = true]) := by kernel_rfl
theorem drightr_5 (o : Op3) : runF Tryd.prog 1000 [] 20 #[ov o] [] [t, n, n, t, n, n, t, n, n, t, n, n, t, n, n] [] [] [] =
    some (rt (bb (decide (o.2.2 ≤ 2097152))), [], [(decide (1 ≤ o.1)) = true, (decide (o.1 < 4)) = true, (decide (Int.neg 2097152 ≤ o.2.1)) = true, (decide (o.2.1 ≤ 2097152)) = true, (decide (1 ≤ o.2.2)) = true]) := by kernel_rfl
theorem countsr_0 (a b : Int) : runF Tryd.prog 1000 [] 30 #[ii a, ii b] [] [f, n, n, n, n] [] [] [] =
    some (rt (bb (false)), [], [(decide (Int.neg 68719476736 ≤ a)) = false]) := by kernel_rfl
theorem countsr_1 (a b : Int) : runF Tryd.prog 1000 [] 30 #[ii a, ii b] [] [t, n, n, f, n] [] [] [] =
    some (rt (bb (false)), [], [(decide (Int.neg 68719476736 ≤ a)) = true, (decide (a ≤ 68719476736)) = false]) := by kernel_rfl
theorem countsr_2 (a b : Int) : runF Tryd.prog 1000 [] 30 #[ii a, ii b] [] [t, n, n, t, n] [] [] [] =
    some (rt (bb (decide (b ≤ 16777216))), [], [(decide (Int.neg 68719476736 ≤ a)) = true, (decide (a ≤ 68719476736)) = true]) := by kernel_rfl
theorem isr_0 (a : Int) : runF Tryd.prog 1000 [] 23 #[ii a] [] [f, n, n] [] [] [] =
    some (rt (bb (false)), [], [(decide (0 ≤ a)) = false]) := by kernel_rfl
theorem isr_1 (a : Int) : runF Tryd.prog 1000 [] 23 #[ii a] [] [t, n, n] [] [] [] =
    some (rt (bb (decide (a ≤ 4))), [], [(decide (0 ≤ a)) = true]) := by kernel_rfl

abbrev wi (x : Int) : Int := IntKind.i64.wrap x
theorem wi_id {x : Int} (h : -9223372036854775808 ≤ x) (h2 : x ≤ 9223372036854775807) : wi x = x := by
  unfold wi
  rw [IntKind.wrap_i64]
  omega
theorem PureX.is {P : Program} {f : FuncId} {args : Array Value} {r s : Res} (h : PureX P f args r) (e : r = s) : PureX P f args s := e ▸ h
theorem pure_of_calls {P : Program} {f : Nat} {args : Array Value} {r : Res} (h : CallsV P (.func f) args [] r []) (ha : wfA noB args = true) (hr : resOK noB r = true) : PureX P f args r := by
  intro w hg
  have := h idN w (Rel.nil _ _ _ (gl_nil hg))
  have ha2 : renA idN args = args := renA_plain _ ha
  simp only [ha2] at this
  refine this.mono ?_
  rintro e w' ⟨β', _, rfl, hR⟩
  refine ⟨?_, hR.kp.below (Nat.le_refl _) ?_⟩
  · cases r with
    | ret v =>
      simp only [Res.out]
      rw [ren_plain β' hr, ren_plain _ hr]
    | pan ch => rfl
  · rintro k ⟨i, hi, _⟩
    cases hi
/-- Is it right? -/
def rightB (o : Op3) : Bool := decide (1 ≤ o.1) && (decide (o.1 < 4) && (decide (-2097152 ≤ o.2.1) && (decide (o.2.1 ≤ 2097152) && (decide (1 ≤ o.2.2) && decide (o.2.2 ≤ 2097152)))))
def cntB (n d : Int) : Bool := decide (-68719476736 ≤ n) && (decide (n ≤ 68719476736) && decide (d ≤ 16777216))
theorem right_v (o : Op3) : PureX Tryd.prog 19 #[ov o] (rt (bb (rightB o))) := by
  by_cases h1 : 1 ≤ o.1
  case neg => exact (runF_pure mix (rightr_0 o) ⟨decide_eq_false h1, trivial⟩ rfl rfl).is (by simp [rightB, h1])
  by_cases h2 : o.1 < 4
  case neg => exact (runF_pure mix (rightr_1 o) ⟨decide_eq_true h1, decide_eq_false h2, trivial⟩ rfl rfl).is (by simp [rightB, h2])
  by_cases h3 : -2097152 ≤ o.2.1
  case neg => exact (runF_pure mix (rightr_2 o) ⟨decide_eq_true h1, decide_eq_true h2, decide_eq_false h3, trivial⟩ rfl rfl).is (by simp [rightB, h3])
  by_cases h4 : o.2.1 ≤ 2097152
  case neg => exact (runF_pure mix (rightr_3 o) ⟨decide_eq_true h1, decide_eq_true h2, decide_eq_true h3, decide_eq_false h4, trivial⟩ rfl rfl).is (by simp [rightB, h4])
  by_cases h5 : 1 ≤ o.2.2
  case neg => exact (runF_pure mix (rightr_4 o) ⟨decide_eq_true h1, decide_eq_true h2, decide_eq_true h3, decide_eq_true h4, decide_eq_false h5, trivial⟩ rfl rfl).is (by simp [rightB, h5])
  exact (runF_pure mix (rightr_5 o) ⟨decide_eq_true h1, decide_eq_true h2, decide_eq_true h3, decide_eq_true h4, decide_eq_true h5, trivial⟩ rfl rfl).is (by simp [rightB, h1, h2, h3, h4, h5])
theorem dright_v (o : Op3) : PureX Tryd.prog 20 #[ov o] (rt (bb (rightB o))) := by
  by_cases h1 : 1 ≤ o.1
  case neg => exact (runF_pure mix (drightr_0 o) ⟨decide_eq_false h1, trivial⟩ rfl rfl).is (by simp [rightB, h1])
  by_cases h2 : o.1 < 4
  case neg => exact (runF_pure mix (drightr_1 o) ⟨decide_eq_true h1, decide_eq_false h2, trivial⟩ rfl rfl).is (by simp [rightB, h2])
  by_cases h3 : -2097152 ≤ o.2.1
  case neg => exact (runF_pure mix (drightr_2 o) ⟨decide_eq_true h1, decide_eq_true h2, decide_eq_false h3, trivial⟩ rfl rfl).is (by simp [rightB, h3])
  by_cases h4 : o.2.1 ≤ 2097152
  case neg => exact (runF_pure mix (drightr_3 o) ⟨decide_eq_true h1, decide_eq_true h2, decide_eq_true h3, decide_eq_false h4, trivial⟩ rfl rfl).is (by simp [rightB, h4])
  by_cases h5 : 1 ≤ o.2.2
  case neg => exact (runF_pure mix (drightr_4 o) ⟨decide_eq_true h1, decide_eq_true h2, decide_eq_true h3, decide_eq_true h4, decide_eq_false h5, trivial⟩ rfl rfl).is (by simp [rightB, h5])
  exact (runF_pure mix (drightr_5 o) ⟨decide_eq_true h1, decide_eq_true h2, decide_eq_true h3, decide_eq_true h4, decide_eq_true h5, trivial⟩ rfl rfl).is (by simp [rightB, h1, h2, h3, h4, h5])
theorem counts_v (a b : Int) : PureX Tryd.prog 30 #[ii a, ii b] (rt (bb (cntB a b))) := by
  by_cases h1 : -68719476736 ≤ a
  case neg => exact (runF_pure mix (countsr_0 a b) ⟨decide_eq_false h1, trivial⟩ rfl rfl).is (by simp [cntB, h1])
  by_cases h2 : a ≤ 68719476736
  case neg => exact (runF_pure mix (countsr_1 a b) ⟨decide_eq_true h1, decide_eq_false h2, trivial⟩ rfl rfl).is (by simp [cntB, h2])
  exact (runF_pure mix (countsr_2 a b) ⟨decide_eq_true h1, decide_eq_true h2, trivial⟩ rfl rfl).is (by simp [cntB, h1, h2])
theorem is_v (a : Int) : PureX Tryd.prog 23 #[ii a] (rt (bb (decide (0 ≤ a) && decide (a ≤ 4)))) := by
  by_cases h1 : 0 ≤ a
  case neg => exact (runF_pure mix (isr_0 a) ⟨decide_eq_false h1, trivial⟩ rfl rfl).is (by simp [h1])
  exact (runF_pure mix (isr_1 a) ⟨decide_eq_true h1, trivial⟩ rfl rfl).is (by simp [h1])

noncomputable def b38 : Code := match Tryd.f38.body with | some c => c | none => .skip
noncomputable def b31 : Code := match Tryd.f31.body with | some c => c | none => .skip
/-- The code's pieces, in order. -/
def pcx : Nat → Code → Code
  | 0, c => cA c
  | n + 1, c => pcx n (cB c)
noncomputable def L38 : Code := cK (cK (cA (cB (cB b38))))
noncomputable def L31 : Code := cK (cK (cA (cB b31)))
theorem b38_eq : Tryd.f38.body = some (.seq (pcx 0 b38) (.seq (pcx 1 b38) (.seq (.block 0 (.loop L38)) (cB (cB (cB b38)))))) := by kernel_rfl
theorem b31_eq : Tryd.f31.body = some (.seq (pcx 0 b31) (.seq (.block 0 (.loop L31)) (cB (cB b31)))) := by kernel_rfl
def FE (a b x y : Int) (X : Nat → Value) : List Value := [ii a, ii b, ud, ud, ii 0, ii 0, ii x, ii y, X 8, X 9, X 10, X 11, X 12, X 13, X 14, X 15, X 16, X 17, X 18, X 19, X 20, X 21, X 22, X 23, X 24]
def FD (x y : Int) (X : Nat → Value) : List Value := [ii x, ii y, ud, ud, ii 0, X 5, X 6, X 7, X 8, X 9, X 10, X 11]
def mxI (a : Int) : Int := if wi (0 - a) > a then wi (0 - a) else a
theorem e_p0 (a b : Int) : ∃ Y, runLS Tryd.prog 1000 (pcx 0 b38) (frame0 Tryd.f38 #[ii a, ii b]) [] [] [] [] [] = some (.normal, FE a b 0 0 Y |>.set 6 ud |>.set 7 ud, [], []) := ⟨fun _ => ud, by kernel_rfl⟩
theorem e_p1 (a b : Int) (X : Nat → Value) : ∃ Y, runLS Tryd.prog 1000 (pcx 1 b38) (FE a b 0 0 X |>.set 6 ud |>.set 7 ud) [] [] [] [] [] = some (.normal, FE a b b (mxI a) Y, [], []) :=
  ⟨lt (runLS Tryd.prog 1000 (pcx 1 b38) (FE a b 0 0 X |>.set 6 ud |>.set 7 ud) [] [] [] [] []), by kernel_rfl⟩
theorem e_r (a b x y : Int) (X : Nat → Value) : ∃ Y, runLS Tryd.prog 1000 L38 (FE a b x y X) [] [t] [] [] [[]] = some (.normal, FE a b y (x.tmod y) Y, [], [(y != 0) = true, y ≠ 0]) :=
  ⟨lt (runLS Tryd.prog 1000 L38 (FE a b x y X) [] [t] [] [] [[]]), by kernel_rfl⟩
theorem e_x (a b x y : Int) (X : Nat → Value) : ∃ Y, runLS Tryd.prog 1000 L38 (FE a b x y X) [] [f] [] [] [] = some (.exit 0, FE a b x y Y, [], [(y != 0) = false]) :=
  ⟨lt (runLS Tryd.prog 1000 L38 (FE a b x y X) [] [f] [] [] []), by kernel_rfl⟩
theorem e_t (a b x y : Int) (X : Nat → Value) : ∃ T, runLS Tryd.prog 1000 (cB (cB (cB b38))) (FE a b x y X) [] [] [] [] [[], []] = some (.ret, T, [], [x ≠ 0, x ≠ 0]) ∧ vresults Tryd.prog Tryd.f38 T [] = some (tp [ii (wi (a.tdiv x)), ii (wi (b.tdiv x))]) := ⟨_, rfl, rfl⟩
theorem g_p0 (x y : Int) : ∃ Y, runLS Tryd.prog 1000 (pcx 0 b31) (frame0 Tryd.f31 #[ii x, ii y]) [] [] [] [] [] = some (.normal, FD x y Y, [], []) := ⟨fun _ => ud, by kernel_rfl⟩
theorem g_r (x y : Int) (X : Nat → Value) : ∃ Y, runLS Tryd.prog 1000 L31 (FD x y X) [] [t] [] [] [[]] = some (.normal, FD y (x.tmod y) Y, [], [decide (0 < y) = true, y ≠ 0]) :=
  ⟨lt (runLS Tryd.prog 1000 L31 (FD x y X) [] [t] [] [] [[]]), by kernel_rfl⟩
theorem g_x (x y : Int) (X : Nat → Value) : ∃ Y, runLS Tryd.prog 1000 L31 (FD x y X) [] [f] [] [] [] = some (.exit 0, FD x y Y, [], [decide (0 < y) = false]) :=
  ⟨lt (runLS Tryd.prog 1000 L31 (FD x y X) [] [f] [] [] []), by kernel_rfl⟩
theorem g_t (x y : Int) (X : Nat → Value) : ∃ T, runLS Tryd.prog 1000 (cB (cB b31)) (FD x y X) [] [] [] [] [] = some (.ret, T, [], []) ∧ vresults Tryd.prog Tryd.f31 T [] = some (ii x) := ⟨_, rfl, rfl⟩

theorem tmod_nat (x y : Nat) : (x : Int).tmod (y : Int) = ((x % y : Nat) : Int) := (Int.ofNat_tmod x y).symm
theorem loop38 (a b : Int) : ∀ (y x : Nat) (X : Nat → Value), ∃ r Y, LoopN Tryd.prog L38 r (FE a b x y X) [] [] (.exit 0) (FE a b (Nat.gcd x y : Nat) 0 Y) [] [] := by
  intro y
  induction y using Nat.strongRecOn with
  | ind y ih =>
    intro x X
    by_cases hy : y = 0
    · subst hy
      obtain ⟨Y, e⟩ := e_x a b x ((0 : Nat) : Int) X
      refine ⟨1, Y, ?_⟩
      rw [Nat.gcd_zero_right]
      exact LoopN.last (runLS_step mix e ⟨by simp, trivial⟩)
    · obtain ⟨Y, e⟩ := e_r a b x y X
      rw [tmod_nat] at e
      obtain ⟨r, Z, hl⟩ := ih (x % y) (Nat.mod_lt _ (Nat.pos_of_ne_zero hy)) y Y
      refine ⟨r + 1, Z, ?_⟩
      have e2 : Nat.gcd x y = Nat.gcd y (x % y) := by rw [Nat.gcd_comm x y, Nat.gcd_rec y x, Nat.gcd_comm]
      rw [e2]
      exact LoopN.round (runLS_step mix e ⟨by simpa using hy, by omega, trivial⟩) hl
theorem loop31 : ∀ (y x : Nat) (X : Nat → Value), ∃ r Y, LoopN Tryd.prog L31 r (FD x y X) [] [] (.exit 0) (FD (Nat.gcd x y : Nat) 0 Y) [] [] := by
  intro y
  induction y using Nat.strongRecOn with
  | ind y ih =>
    intro x X
    by_cases hy : y = 0
    · subst hy
      obtain ⟨Y, e⟩ := g_x x ((0 : Nat) : Int) X
      refine ⟨1, Y, ?_⟩
      rw [Nat.gcd_zero_right]
      exact LoopN.last (runLS_step mix e ⟨by simp, trivial⟩)
    · obtain ⟨Y, e⟩ := g_r x y X
      rw [tmod_nat] at e
      obtain ⟨r, Z, hl⟩ := ih (x % y) (Nat.mod_lt _ (Nat.pos_of_ne_zero hy)) y Y
      refine ⟨r + 1, Z, ?_⟩
      have e2 : Nat.gcd x y = Nat.gcd y (x % y) := by rw [Nat.gcd_comm x y, Nat.gcd_rec y x, Nat.gcd_comm]
      rw [e2]
      exact LoopN.round (runLS_step mix e ⟨decide_eq_true (by omega), by omega, trivial⟩) hl
theorem mxI_abs {a : Int} (h : -9223372036854775808 < a) (h2 : a ≤ 9223372036854775807) : mxI a = (a.natAbs : Int) := by
  unfold mxI
  rw [wi_id (by omega) (by omega)]
  split <;> omega
/-- In lowest terms. -/
theorem low_v {a b : Int} (h : -9223372036854775808 < a) (h2 : a ≤ 9223372036854775807) (hb : 0 < b) : PureX Tryd.prog 38 #[ii a, ii b] (rt (tp [ii (wi (a.tdiv (Int.gcd a b : Nat))), ii (wi (b.tdiv (Int.gcd a b : Nat)))])) := by
  obtain ⟨Y0, e0⟩ := e_p0 a b
  obtain ⟨Y1, e1⟩ := e_p1 a b Y0
  have hbn : b = (b.natAbs : Int) := by omega
  obtain ⟨r, Y2, e2⟩ := loop38 a b a.natAbs b.natAbs Y1
  obtain ⟨T, e3, e4⟩ := e_t a b (Nat.gcd b.natAbs a.natAbs : Nat) 0 Y2
  rw [mxI_abs h h2] at e1
  rw [← hbn] at e2
  have hg : Nat.gcd b.natAbs a.natAbs = Int.gcd a b := by rw [Nat.gcd_comm]; rfl
  have hg0 : ((Nat.gcd b.natAbs a.natAbs : Nat) : Int) ≠ 0 := by
    have : Nat.gcd b.natAbs a.natAbs ≠ 0 := fun e => by have := Nat.eq_zero_of_gcd_eq_zero_left e; omega
    omega
  have s := (runLS_step mix e0 trivial).seq ((runLS_step mix e1 trivial).seq (((LoopN.loop e2).block (id := 0)).seq (runLS_step mix e3 ⟨hg0, hg0, trivial⟩)))
  rw [hg] at e4
  exact pure_of_calls (callsV_step (f := 38) (fc := Tryd.f38) rfl b38_eq s rfl e4 rfl (fun _ _ h => h) rfl) rfl rfl
theorem div_v {a b : Int} (ha : 0 ≤ a) (hb : 0 ≤ b) : PureX Tryd.prog 31 #[ii a, ii b] (rt (ii (Int.gcd a b : Nat))) := by
  obtain ⟨Y0, e0⟩ := g_p0 a b
  obtain ⟨r, Y2, e2⟩ := loop31 b.natAbs a.natAbs Y0
  obtain ⟨T, e3, e4⟩ := g_t (Nat.gcd a.natAbs b.natAbs : Nat) 0 Y2
  rw [show (a.natAbs : Int) = a by omega, show (b.natAbs : Int) = b by omega] at e2
  have s := (runLS_step mix e0 trivial).seq (((LoopN.loop e2).block (id := 0)).seq (runLS_step mix e3 trivial))
  exact pure_of_calls (callsV_step (f := 31) (fc := Tryd.f31) rfl b31_eq s rfl e4 rfl (fun _ _ h => h) rfl) rfl rfl

end Go.Proofs.YtcjjckokaiobcaaDoor

/- The document's sum: its rounds. -/
namespace Go.Proofs.YtcjjckokaiobcaaDoor
open Go Go.RowKit
set_option linter.unusedSimpArgs false
set_option linter.unusedVariables false
set_option maxRecDepth 100000

theorem flO_len (o : Op3) : (flO o).length = 3 := rfl
/-- One operation more. -/
def numS (n d : Int) (o : Op3) : Int := n * o.2.2 + o.2.1 * d
def denS (d : Int) (o : Op3) : Int := d * o.2.2
def gcdS (n d : Int) (o : Op3) : Int := (Int.gcd (numS n d o) (denS d o) : Nat)
def stpN (n d : Int) (o : Op3) : Int := (numS n d o).tdiv (gcdS n d o)
def stpD (n d : Int) (o : Op3) : Int := (denS d o).tdiv (gcdS n d o)
def hitB (kd : Int) (o : Op3) : Bool := rightB o && o.1 == kd
/-- The sum of those of a kind that are right, told while it counts. -/
def totF (kd : Int) : Int → Int → List Op3 → Int × Int
  | n, d, [] => (n, d)
  | n, d, o :: r => if hitB kd o = true then (if cntB (stpN n d o) (stpD n d o) = true then totF kd (stpN n d o) (stpD n d o) r else (0, 0)) else totF kd n d r
def totV (kd : Int) (L : List Op3) : Int × Int := totF kd 0 1 L
/-- What holds of a sum all along. -/
def InvS (n d : Int) : Prop := -68719476736 ≤ n ∧ n ≤ 68719476736 ∧ 1 ≤ d ∧ d ≤ 16777216
theorem rightB_is {o : Op3} (h : rightB o = true) : 1 ≤ o.1 ∧ o.1 < 4 ∧ -2097152 ≤ o.2.1 ∧ o.2.1 ≤ 2097152 ∧ 1 ≤ o.2.2 ∧ o.2.2 ≤ 2097152 := by
  simpa [rightB] using h
theorem cntB_is {n d : Int} (h : cntB n d = true) : -68719476736 ≤ n ∧ n ≤ 68719476736 ∧ d ≤ 16777216 := by
  simpa [cntB] using h
theorem mul_bd {a b A B : Int} (ha : -A ≤ a) (ha2 : a ≤ A) (hb : -B ≤ b) (hb2 : b ≤ B) : -(A * B) ≤ a * b ∧ a * b ≤ A * B := by
  have h : (a * b).natAbs ≤ A.natAbs * B.natAbs := by
    rw [Int.natAbs_mul]
    exact Nat.mul_le_mul (by omega) (by omega)
  have e : (A * B).natAbs = A.natAbs * B.natAbs := Int.natAbs_mul _ _
  have h0 : 0 ≤ A * B := Int.mul_nonneg (by omega) (by omega)
  omega
theorem num_bd {n d : Int} {o : Op3} (hi : InvS n d) (ho : rightB o = true) : -180143985094819840 ≤ numS n d o ∧ numS n d o ≤ 180143985094819840 ∧ (-144115188075855872 ≤ n * o.2.2 ∧ n * o.2.2 ≤ 144115188075855872) ∧ (-35184372088832 ≤ o.2.1 * d ∧ o.2.1 * d ≤ 35184372088832) := by
  obtain ⟨h1, h2, h3, h4⟩ := hi
  obtain ⟨_, _, g1, g2, g3, g4⟩ := rightB_is ho
  have a := mul_bd (a := n) (b := o.2.2) (A := 68719476736) (B := 2097152) h1 h2 (by omega) g4
  have b := mul_bd (a := o.2.1) (b := d) (A := 2097152) (B := 16777216) g1 g2 (by omega) h4
  unfold numS
  omega
theorem den_bd {n d : Int} {o : Op3} (hi : InvS n d) (ho : rightB o = true) : 1 ≤ denS d o ∧ denS d o ≤ 35184372088832 := by
  obtain ⟨h1, h2, h3, h4⟩ := hi
  obtain ⟨_, _, g1, g2, g3, g4⟩ := rightB_is ho
  have a := mul_bd (a := d) (b := o.2.2) (A := 16777216) (B := 2097152) (by omega) h4 (by omega) g4
  have b : 0 < d * o.2.2 := Int.mul_pos (by omega) (by omega)
  unfold denS
  omega
theorem gcd_pos {n d : Int} {o : Op3} (hi : InvS n d) (ho : rightB o = true) : 1 ≤ gcdS n d o := by
  have := den_bd hi ho
  have h : Int.gcd (numS n d o) (denS d o) ≠ 0 := fun e => by
    have := Int.eq_zero_of_gcd_eq_zero_right e
    omega
  unfold gcdS
  omega
theorem tdiv_bd {a g : Int} (hg : 1 ≤ g) : (a.tdiv g).natAbs ≤ a.natAbs := by
  rw [Int.natAbs_tdiv]
  exact Nat.div_le_self _ _
theorem stpD_pos {n d : Int} {o : Op3} (hi : InvS n d) (ho : rightB o = true) : 1 ≤ stpD n d o := by
  have h1 := den_bd hi ho
  have h2 := gcd_pos hi ho
  have h3 : gcdS n d o ∣ denS d o := Int.gcd_dvd_right ..
  obtain ⟨k, hk⟩ := h3
  unfold stpD
  rw [hk, Int.mul_tdiv_cancel_left _ (by omega)]
  by_cases hk0 : 1 ≤ k
  · exact hk0
  · have : gcdS n d o * k ≤ 0 := Int.mul_nonpos_of_nonneg_of_nonpos (by omega) (by omega)
    omega
theorem stp_bd {n d : Int} {o : Op3} (hi : InvS n d) (ho : rightB o = true) : (stpN n d o).natAbs ≤ 180143985094819840 ∧ (stpD n d o).natAbs ≤ 35184372088832 := by
  have h1 := den_bd hi ho
  have h3 := num_bd hi ho
  have h2 := gcd_pos hi ho
  have a := tdiv_bd (a := numS n d o) h2
  have b := tdiv_bd (a := denS d o) h2
  unfold stpN stpD
  omega
theorem stp_inv {n d : Int} {o : Op3} (hi : InvS n d) (ho : rightB o = true) (hc : cntB (stpN n d o) (stpD n d o) = true) : InvS (stpN n d o) (stpD n d o) := by
  obtain ⟨a, b, c⟩ := cntB_is hc
  exact ⟨a, b, stpD_pos hi ho, c⟩
/-- No number on the way goes round. -/
theorem wi_num {n d : Int} {o : Op3} (hi : InvS n d) (ho : rightB o = true) : wi (wi (n * o.2.2) + wi (o.2.1 * d)) = numS n d o := by
  obtain ⟨a, b, c, e⟩ := num_bd hi ho
  rw [wi_id (x := n * o.2.2) (by omega) (by omega), wi_id (x := o.2.1 * d) (by omega) (by omega)]
  unfold numS at *
  exact wi_id (by omega) (by omega)
theorem wi_den {n d : Int} {o : Op3} (hi : InvS n d) (ho : rightB o = true) : wi (d * o.2.2) = denS d o := by
  have := den_bd hi ho
  unfold denS at *
  exact wi_id (by omega) (by omega)
theorem wi_nat {x : Int} {B : Nat} (h : x.natAbs ≤ B) (hB : B ≤ 9223372036854775807) : wi x = x := wi_id (by omega) (by omega)

noncomputable def b14 : Code := match Tryd.f14.body with | some c => c | none => .skip
noncomputable def L14 : Code := cK (cK (cB (pcx 2 b14)))
theorem b14_eq : Tryd.f14.body = some (.seq (pcx 0 b14) (.seq (pcx 1 b14) (.seq (.seq (cA (pcx 2 b14)) (.block 0 (.loop L14))) (cB (cB (cB b14)))))) := by kernel_rfl
def FT (kd : Int) (off n' cap : Nat) (u d i : Int) (X : Nat → Value) : List Value := [uu kd, slw 1 off n' cap, ud, ud, ii 0, ii 0, ii u, ii d, ii i, X 9, X 10, X 11, X 12, X 13, X 14, X 15, X 16, X 17, X 18, X 19, X 20, X 21, X 22, X 23, X 24, X 25, X 26, X 27, X 28, X 29, X 30, X 31, X 32, X 33, X 34, X 35, X 36, X 37, X 38, X 39, X 40, X 41, X 42, X 43, X 44, X 45, X 46, X 47, X 48, X 49, X 50, X 51, X 52, X 53, X 54, X 55, X 56, X 57, X 58, X 59, X 60, X 61, X 62, X 63, X 64, X 65, X 66, X 67, X 68, X 69, X 70, X 71, X 72, X 73, X 74, X 75, X 76]
abbrev HW (off : Nat) (c : Array Value) : Hp := [(1, win off c)]
section
variable (kd : Int) (off n' cap : Nat) (c : Array Value) (u d i : Int) (X : Nat → Value) (o : Op3) (r : Bool) (g : Int)
def ixO (i : Int) (n' : Nat) : Prop := 0 ≤ i ∧ i < (n' : Int)
/-- What a round owes: one that skips; one that goes on. -/
def owS : List Prop := [decide (i < (n' : Int)) = true, ixO i n', off ≤ off + i.toNat * 3, (c.toList.drop (off + i.toNat * 3)).take 3 = flO o, PureX Tryd.prog 20 #[ov o] (rt (bb r)), (!r) = true]
def owK (v : Bool) : List Prop := [decide (i < (n' : Int)) = true, ixO i n', off ≤ off + i.toNat * 3, (c.toList.drop (off + i.toNat * 3)).take 3 = flO o, PureX Tryd.prog 20 #[ov o] (rt (bb r)), (!r) = false, ixO i n', off ≤ off + i.toNat * 3, c[off + i.toNat * 3]? = some (uu o.1), (o.1 != kd) = v]
abbrev n1 : Int := wi (wi (u * o.2.2) + wi (o.2.1 * d))
abbrev d1 : Int := wi (d * o.2.2)
def owA : List Prop := owK kd off n' c i o r false ++ [ixO i n', off ≤ off + i.toNat * 3 + 2, c[off + i.toNat * 3 + 2]? = some (ii o.2.2), ixO i n', off ≤ off + i.toNat * 3 + 1, c[off + i.toNat * 3 + 1]? = some (ii o.2.1), ixO i n', off ≤ off + i.toNat * 3 + 2, c[off + i.toNat * 3 + 2]? = some (ii o.2.2),
  PureX Tryd.prog 31 #[ii (d1 d o), ii (mxI (n1 u d o))] (rt (ii g)), g ≠ 0, g ≠ 0]
noncomputable def rn14 (orc : List (Option Bool)) (ans : List (Nat × Res)) (lds : List (List Value)) : Option (Ex × List Value × Hp × List Prop) := runLS Tryd.prog 1000 L14 (FT kd off n' cap u d i X) (HW off c) orc ans [] lds
abbrev ldA : List (List Value) := [flO o, [uu o.1], [ii o.2.2], [ii o.2.1], [ii o.2.2], [], []]
abbrev anA : List (Nat × Res) := [(20, rt (bb r)), (31, rt (ii g))]
abbrev n2 : Int := wi ((n1 u d o).tdiv g)
abbrev d2 : Int := wi ((d1 d o).tdiv g)
abbrev orA (l : List (Option Bool)) : List (Option Bool) := [t, f, n, n, n, n, n, n, f] ++ l
theorem t14_p0 : ∃ Y, runLS Tryd.prog 1000 (pcx 0 b14) (frame0 Tryd.f14 #[uu kd, slw 1 off n' cap]) (HW off c) [] [] [] [] = some (.normal, FT kd off n' cap 0 0 0 Y |>.set 6 ud |>.set 7 ud |>.set 8 ud, HW off c, []) := ⟨fun _ => ud, by kernel_rfl⟩
theorem t14_p1 : ∃ Y, runLS Tryd.prog 1000 (pcx 1 b14) (FT kd off n' cap 0 0 0 X |>.set 6 ud |>.set 7 ud |>.set 8 ud) (HW off c) [] [] [] [] = some (.normal, FT kd off n' cap 0 1 0 Y |>.set 8 ud, HW off c, []) := ⟨X, by kernel_rfl⟩
theorem t14_p2 : ∃ Y, runLS Tryd.prog 1000 (cA (pcx 2 b14)) (FT kd off n' cap 0 1 0 X |>.set 8 ud) (HW off c) [] [] [] [] = some (.normal, FT kd off n' cap 0 1 0 Y, HW off c, []) := ⟨X, by kernel_rfl⟩
theorem t14_x : ∃ Y, rn14 kd off n' cap c u d i X [f] [] [] = some (.exit 0, FT kd off n' cap u d i Y, HW off c, [decide (i < (n' : Int)) = false]) := ⟨lt (rn14 kd off n' cap c u d i X [f] [] []), by kernel_rfl⟩
theorem t14_S : ∃ Y, rn14 kd off n' cap c u d i X [t, t] [(20, rt (bb r))] [flO o] = some (.normal, FT kd off n' cap u d (wi (i + 1)) Y, HW off c, owS off n' c i o r) := ⟨lt (rn14 kd off n' cap c u d i X [t, t] [(20, rt (bb r))] [flO o]), by kernel_rfl⟩
theorem t14_K : ∃ Y, rn14 kd off n' cap c u d i X [t, f, n, n, n, n, n, n, t] [(20, rt (bb r))] [flO o, [uu o.1]] = some (.normal, FT kd off n' cap u d (wi (i + 1)) Y, HW off c, owK kd off n' c i o r true) := ⟨lt (rn14 kd off n' cap c u d i X [t, f, n, n, n, n, n, n, t] [(20, rt (bb r))] [flO o, [uu o.1]]), by kernel_rfl⟩
theorem t14_A : ∃ Y, rn14 kd off n' cap c u d i X (orA [f, n, f, n, f]) (anA r g) (ldA o) = some (.normal, FT kd off n' cap (n2 u d o g) (d2 d o g) (wi (i + 1)) Y, HW off c, owA kd off n' c u d i o r g ++ [decide (16777216 < d2 d o g) = false, decide (68719476736 < n2 u d o g) = false, decide (n2 u d o g < -68719476736) = false]) := ⟨lt (rn14 kd off n' cap c u d i X (orA [f, n, f, n, f]) (anA r g) (ldA o)), by kernel_rfl⟩
theorem t14_O0 : ∃ T, rn14 kd off n' cap c u d i X (orA [t]) (anA r g) (ldA o) = some (.ret, T, HW off c, owA kd off n' c u d i o r g ++ [decide (16777216 < d2 d o g) = true]) ∧ vresults Tryd.prog Tryd.f14 T (HW off c) = some (tp [ii 0, ii 0]) := ⟨tmpsOf (rn14 kd off n' cap c u d i X (orA [t]) (anA r g) (ldA o)), by kernel_rfl, by kernel_rfl⟩
theorem t14_O1 : ∃ T, rn14 kd off n' cap c u d i X (orA [f, n, t]) (anA r g) (ldA o) = some (.ret, T, HW off c, owA kd off n' c u d i o r g ++ [decide (16777216 < d2 d o g) = false, decide (68719476736 < n2 u d o g) = true]) ∧ vresults Tryd.prog Tryd.f14 T (HW off c) = some (tp [ii 0, ii 0]) := ⟨tmpsOf (rn14 kd off n' cap c u d i X (orA [f, n, t]) (anA r g) (ldA o)), by kernel_rfl, by kernel_rfl⟩
theorem t14_O2 : ∃ T, rn14 kd off n' cap c u d i X (orA [f, n, f, n, t]) (anA r g) (ldA o) = some (.ret, T, HW off c, owA kd off n' c u d i o r g ++ [decide (16777216 < d2 d o g) = false, decide (68719476736 < n2 u d o g) = false, decide (n2 u d o g < -68719476736) = true]) ∧ vresults Tryd.prog Tryd.f14 T (HW off c) = some (tp [ii 0, ii 0]) := ⟨tmpsOf (rn14 kd off n' cap c u d i X (orA [f, n, f, n, t]) (anA r g) (ldA o)), by kernel_rfl, by kernel_rfl⟩
theorem t14_t : ∃ T, runLS Tryd.prog 1000 (cB (cB (cB b14))) (FT kd off n' cap u d i X) (HW off c) [] [] [] [] = some (.ret, T, HW off c, []) ∧ vresults Tryd.prog Tryd.f14 T (HW off c) = some (tp [ii u, ii d]) := ⟨_, rfl, rfl⟩
end

end Go.Proofs.YtcjjckokaiobcaaDoor

/- The document's sum. -/
namespace Go.Proofs.YtcjjckokaiobcaaDoor
open Go Go.RowKit
set_option linter.unusedSimpArgs false
set_option linter.unusedVariables false
set_option maxRecDepth 100000

theorem div_s {u d : Int} {o : Op3} (hi : InvS u d) (ho : rightB o = true) : PureX Tryd.prog 31 #[ii (d1 d o), ii (mxI (n1 u d o))] (rt (ii (gcdS u d o))) := by
  have h1 := den_bd hi ho
  have h2 := num_bd hi ho
  unfold n1 d1
  rw [wi_num hi ho, wi_den hi ho, mxI_abs (by omega) (by omega)]
  refine (div_v (a := denS d o) (b := ((numS u d o).natAbs : Int)) (by omega) (by omega)).is ?_
  unfold gcdS
  rw [Int.gcd_comm]
  simp [Int.gcd]
theorem n2_s {u d : Int} {o : Op3} (hi : InvS u d) (ho : rightB o = true) : n2 u d o (gcdS u d o) = stpN u d o := by
  unfold n2 n1
  rw [wi_num hi ho]
  exact wi_nat (stp_bd hi ho).1 (by decide)
theorem d2_s {u d : Int} {o : Op3} (hi : InvS u d) (ho : rightB o = true) : d2 d o (gcdS u d o) = stpD u d o := by
  unfold d2 d1
  rw [wi_den hi ho]
  exact wi_nat (stp_bd hi ho).2 (by decide)
theorem wi_nx {i m : Nat} (h : i < m) (hm : m ≤ 9223372036854775807) : wi ((i : Int) + 1) = ((i + 1 : Nat) : Int) := by
  rw [wi_id (by omega) (by omega)]; omega
theorem gcd_ne {u d : Int} {o : Op3} (hi : InvS u d) (ho : rightB o = true) : gcdS u d o ≠ 0 := by have := gcd_pos hi ho; omega
theorem owA_ok {kd : Int} {off : Nat} {L : List Op3} {i : Nat} {u d : Int} {o : Op3} (hx : L[i]? = some o) (hi : InvS u d) (hh : hitB kd o = true) : AllP (owA kd off L.length (cwx flO off L) u d i o true (gcdS u d o)) := by
  obtain ⟨c0, c1, c2⟩ := cwO_at off hx
  have hlt : i < L.length := (List.getElem?_eq_some_iff.1 hx).1
  have hix : ixO (i : Int) L.length := ⟨by omega, by omega⟩
  simp only [hitB, Bool.and_eq_true, beq_iff_eq] at hh
  obtain ⟨hr, hk⟩ := hh
  have hr' := dright_v o
  rw [hr] at hr'
  have hg := gcd_ne hi hr
  refine ⟨decide_eq_true (by omega), hix, Nat.le_add_right _ _, cwO_take off hx, hr', rfl, hix, Nat.le_add_right _ _, c0, by simp [hk], hix, by omega, c2, hix, by omega, c1, hix, by omega, c2, div_s hi hr, hg, hg, trivial⟩
theorem allP_app {l m : List Prop} (h : AllP l) (g : AllP m) : AllP (l ++ m) := (allP_append l m).2 ⟨h, g⟩
theorem loop14 (kd : Int) (off cap : Nat) (L : List Op3) (hL : L.length ≤ 9223372036854775807) : ∀ (j i : Nat) (u d : Int) (X : Nat → Value), InvS u d → i + j = L.length →
    (∃ r Y u' d', LoopN Tryd.prog L14 r (FT kd off L.length cap u d i X) [] (HW off (cwx flO off L)) (.exit 0) (FT kd off L.length cap u' d' L.length Y) [] (HW off (cwx flO off L)) ∧ totF kd u d (L.drop i) = (u', d')) ∨
    (∃ r T, LoopN Tryd.prog L14 r (FT kd off L.length cap u d i X) [] (HW off (cwx flO off L)) .ret T [] (HW off (cwx flO off L)) ∧ vresults Tryd.prog Tryd.f14 T (HW off (cwx flO off L)) = some (tp [ii 0, ii 0]) ∧ totF kd u d (L.drop i) = (0, 0))
  | 0, i, u, d, X, _, hi => by
    have e : i = L.length := by omega
    subst e
    obtain ⟨Y, e⟩ := t14_x kd off L.length cap (cwx flO off L) u d L.length X
    refine .inl ⟨1, Y, u, d, LoopN.last (runLS_step mix e ⟨decide_eq_false (by omega), trivial⟩), ?_⟩
    rw [List.drop_length]; rfl
  | j + 1, i, u, d, X, hv, hi => by
    have hlt : i < L.length := by omega
    have hx : L[i]? = some L[i] := List.getElem?_eq_getElem hlt
    have hd : L.drop i = L[i] :: L.drop (i + 1) := List.drop_eq_getElem_cons hlt
    rw [hd]
    generalize L[i] = o at hx
    obtain ⟨c0, c1, c2⟩ := cwO_at off hx
    have ht : decide ((i : Int) < (L.length : Int)) = true := decide_eq_true (by omega)
    have hix : ixO (i : Int) L.length := ⟨by omega, by omega⟩
    have hw := wi_nx hlt hL
    have hrv := dright_v o
    have skip : ∀ Y, StepV Tryd.prog L14 (FT kd off L.length cap u d i X) [] (HW off (cwx flO off L)) .normal (FT kd off L.length cap u d (wi (i + 1)) Y) [] (HW off (cwx flO off L)) → hitB kd o = false → 
      (∃ r Y u' d', LoopN Tryd.prog L14 r (FT kd off L.length cap u d i X) [] (HW off (cwx flO off L)) (.exit 0) (FT kd off L.length cap u' d' L.length Y) [] (HW off (cwx flO off L)) ∧ totF kd u d (o :: L.drop (i + 1)) = (u', d')) ∨
      (∃ r T, LoopN Tryd.prog L14 r (FT kd off L.length cap u d i X) [] (HW off (cwx flO off L)) .ret T [] (HW off (cwx flO off L)) ∧ vresults Tryd.prog Tryd.f14 T (HW off (cwx flO off L)) = some (tp [ii 0, ii 0]) ∧ totF kd u d (o :: L.drop (i + 1)) = (0, 0)) := fun Y s hh => by
        rw [hw] at s
        have e : totF kd u d (o :: L.drop (i + 1)) = totF kd u d (L.drop (i + 1)) := by simp [totF, hh]
        rw [e]
        rcases loop14 kd off cap L hL j (i + 1) u d Y hv (by omega) with ⟨r, Z, u', d', h1, h2⟩ | ⟨r, T, h1, h2, h3⟩
        · exact .inl ⟨r + 1, Z, u', d', LoopN.round s h1, h2⟩
        · exact .inr ⟨r + 1, T, LoopN.round s h1, h2, h3⟩
    by_cases hr : rightB o = true
    case neg =>
      obtain ⟨Y, e⟩ := t14_S off L.length cap (cwx flO off L) u d i X o (rightB o) (kd := kd)
      exact skip Y (runLS_step mix e ⟨ht, hix, Nat.le_add_right _ _, cwO_take off hx, hrv, by simp [hr], trivial⟩) (by simp [hitB, hr])
    by_cases hk : o.1 = kd
    case neg =>
      obtain ⟨Y, e⟩ := t14_K kd off L.length cap (cwx flO off L) u d i X o (rightB o)
      exact skip Y (runLS_step mix e ⟨ht, hix, Nat.le_add_right _ _, cwO_take off hx, hrv, by simp [hr], hix, Nat.le_add_right _ _, c0, by simpa using hk, trivial⟩) (by simp [hitB, hk])
    have hh : hitB kd o = true := by simp [hitB, hr, hk]
    have how := owA_ok (off := off) hx hv hh
    have en := n2_s hv hr
    have ed := d2_s hv hr
    by_cases hc : cntB (stpN u d o) (stpD u d o) = true
    · obtain ⟨a1, a2, a3⟩ := cntB_is hc
      obtain ⟨Y, e⟩ := t14_A kd off L.length cap (cwx flO off L) u d i X o true (gcdS u d o)
      rw [en, ed, hw] at e
      have s := runLS_step mix e (allP_app how ⟨decide_eq_false (by omega), decide_eq_false (by omega), decide_eq_false (by omega), trivial⟩)
      have e2 : totF kd u d (o :: L.drop (i + 1)) = totF kd (stpN u d o) (stpD u d o) (L.drop (i + 1)) := by simp [totF, hh, hc]
      rw [e2]
      rcases loop14 kd off cap L hL j (i + 1) _ _ Y (stp_inv hv hr hc) (by omega) with ⟨r, Z, u', d', h1, h2⟩ | ⟨r, T, h1, h2, h3⟩
      · exact .inl ⟨r + 1, Z, u', d', LoopN.round s h1, h2⟩
      · exact .inr ⟨r + 1, T, LoopN.round s h1, h2, h3⟩
    · have e2 : totF kd u d (o :: L.drop (i + 1)) = (0, 0) := by simp [totF, hh, hc]
      rw [e2]
      refine .inr ?_
      have hc' : 16777216 < stpD u d o ∨ (¬ 16777216 < stpD u d o ∧ 68719476736 < stpN u d o) ∨ (¬ 16777216 < stpD u d o ∧ ¬ 68719476736 < stpN u d o ∧ stpN u d o < -68719476736) := by
        simp only [cntB, Bool.and_eq_true, decide_eq_true_eq] at hc
        omega
      rcases hc' with h1 | ⟨h1, h2⟩ | ⟨h1, h2, h3⟩
      · obtain ⟨T, e, ev⟩ := t14_O0 kd off L.length cap (cwx flO off L) u d i X o true (gcdS u d o)
        rw [ed] at e
        exact ⟨1, T, LoopN.lastRet (runLS_step mix e (allP_app how ⟨decide_eq_true h1, trivial⟩)), ev, rfl⟩
      · obtain ⟨T, e, ev⟩ := t14_O1 kd off L.length cap (cwx flO off L) u d i X o true (gcdS u d o)
        rw [ed, en] at e
        exact ⟨1, T, LoopN.lastRet (runLS_step mix e (allP_app how ⟨decide_eq_false h1, decide_eq_true h2, trivial⟩)), ev, rfl⟩
      · obtain ⟨T, e, ev⟩ := t14_O2 kd off L.length cap (cwx flO off L) u d i X o true (gcdS u d o)
        rw [ed, en] at e
        exact ⟨1, T, LoopN.lastRet (runLS_step mix e (allP_app how ⟨decide_eq_false h1, decide_eq_false h2, decide_eq_true h3, trivial⟩)), ev, rfl⟩
theorem inv_0 : InvS 0 1 := by unfold InvS; omega
theorem t14_nil (kd : Int) : runF Tryd.prog 1000 [] 14 #[uu kd, sl0] [] [] [] [] [] = some (rt (tp [ii 0, ii 1]), [], []) := by kernel_rfl
/-- The document's sum. -/
theorem dtot_s (kd : Int) (L : List Op3) : SemA KO Tryd.prog 14 (fun s => #[uu kd, s]) L (tp [ii (totV kd L).1, ii (totV kd L).2]) := by
  refine semA_mk false (fun β s => rfl) rfl (fun h => by subst h; exact runF_pure mix (t14_nil kd) trivial rfl rfl) (fun off cap hl hc => ?_)
  have hL : L.length ≤ 9223372036854775807 := Nat.le_trans hl (Nat.le_trans hc (by decide))
  obtain ⟨Y0, e0⟩ := t14_p0 kd off L.length cap (cwx flO off L)
  obtain ⟨Y1, e1⟩ := t14_p1 kd off L.length cap (cwx flO off L) Y0
  obtain ⟨Y2, e2⟩ := t14_p2 kd off L.length cap (cwx flO off L) Y1
  rcases loop14 kd off cap L hL L.length 0 0 1 Y2 inv_0 (by omega) with ⟨r, Z, u', d', h1, h2⟩ | ⟨r, T, h1, h2, h3⟩
  · obtain ⟨T, e3, e4⟩ := t14_t kd off L.length cap (cwx flO off L) u' d' L.length Z
    have s := (runLS_step mix e0 trivial).seq ((runLS_step mix e1 trivial).seq (((runLS_step mix e2 trivial).seq ((LoopN.loop h1).block (id := 0))).seq (runLS_step mix e3 trivial)))
    have : totV kd L = (u', d') := by rw [← h2]; rfl
    rw [this]
    exact callsV_step (f := 14) (fc := Tryd.f14) rfl b14_eq s rfl e4 rfl (fun _ _ h => h) rfl
  · have s := (runLS_step mix e0 trivial).seq ((runLS_step mix e1 trivial).seq (((runLS_step mix e2 trivial).seq ((LoopN.loop h1).blockrW (id := 0))).seqrW (y := cB (cB (cB b14)))))
    have : totV kd L = (0, 0) := by rw [← h3]; rfl
    rw [this]
    exact callsV_step (f := 14) (fc := Tryd.f14) rfl b14_eq s rfl h2 rfl (fun _ _ h => h) rfl

end Go.Proofs.YtcjjckokaiobcaaDoor

/- The program's sum: its rounds. -/
namespace Go.Proofs.YtcjjckokaiobcaaDoor
open Go Go.RowKit
set_option linter.unusedSimpArgs false
set_option linter.unusedVariables false
set_option maxRecDepth 100000

noncomputable def b13 : Code := match Tryd.f13.body with | some c => c | none => .skip
noncomputable def b39 : Code := match Tryd.f39.body with | some c => c | none => .skip
def rgA : Code → Code | .rangeFunc _ _ a _ => a | c => c
def rgB : Code → Code | .rangeFunc _ _ _ b => b | c => c
noncomputable def as13 : Code := rgA (cK (cB (pcx 3 b13)))
noncomputable def bd13 : Code := rgB (cK (cB (pcx 3 b13)))
abbrev fnA : Value := .func (.func 37) #[] #[ptr 1003, ptr 1004]
abbrev yl (k : Nat) : Value := .func (.yield k) #[] #[]
noncomputable def rec13 (kd : Int) (off n' cap : Nat) (st : LoopState) (pd : Option Code) : Obj := .loop { state := st, pending := pd, fn := 0, tmps := ⟨[uu kd, slw 1 off n' cap, ptr 1000, ud, ptr 1001, ptr 1002, ptr 1005, ud, fnA, slw 1 off n' cap, .func (.func 39) #[] #[ptr 1006], ud, ud, ud, ud, ud, ud, ud, ud, ud, ud, ud, ud, ud, ud, ud, ud, ud, ud, ud, ud, ud, ud]⟩, params := #[11], assign := as13, body := bd13, defers := 1007 }
noncomputable abbrev H13 (kd : Int) (off n' cap : Nat) (c : Array Value) (u d u' d' : Int) (st : LoopState) (pd : Option Code) : Hp := [(1006, .cells ⟨[slw 1 off n' cap]⟩ 22 (0, 0)), (1, win off c), (1005, .cells ⟨[fnA]⟩ 52 (0, 0)), (1004, .cells ⟨[ii d']⟩ 3 (0, 0)), (1003, .cells ⟨[ii u']⟩ 3 (0, 0)), (1002, .cells ⟨[ii d]⟩ 3 (0, 0)), (1001, .cells ⟨[ii u]⟩ 3 (0, 0)), (1000, .cells ⟨[uu kd]⟩ 5 (0, 0)), (1007, .deferred (some [])), (1008, rec13 kd off n' cap st pd)]
noncomputable def L39 : Code := cK (cK (cB b39))
theorem b39_eq : Tryd.f39.body = some (.seq (cA b39) (.block 0 (.loop L39))) := by kernel_rfl
def F39 (off n' cap : Nat) (i : Int) (X : Nat → Value) : List Value := [yl 1008, ptr 1006, ud, ud, X 4, slw 1 off n' cap, ii n', ii i, X 8, X 9, X 10, X 11, X 12, X 13, X 14, X 15]
/-- The dead slots behind a round. -/
def xB (off n' q : Nat) (i0 i : Int) (o : Op3) (v : Bool) (j : Nat) : Value := [ud, ud, ud, ud, ptr q, ud, ud, ud, bb (decide (i0 < (n' : Int))), pto 1 (off + i0.toNat * 3), ov o, yl 1008, ov o, bb v, bb (!v), ii i].getD j ud
abbrev boO (o : Op3) : Obj := .cells ⟨[uu o.1, ii o.2.1, ii o.2.2]⟩ 24 (0, 0)
noncomputable abbrev G13 (kd : Int) (off n' cap : Nat) (c : Array Value) (u d u' d' : Int) (st : LoopState) (pd : Option Code) (o : Op3) : Hp := [(1002, .cells ⟨[ii d]⟩ 3 (0, 0)), (1001, .cells ⟨[ii u]⟩ 3 (0, 0)), (1004, .cells ⟨[ii d']⟩ 3 (0, 0)), (1003, .cells ⟨[ii u']⟩ 3 (0, 0)), (1006, .cells ⟨[slw 1 off n' cap]⟩ 22 (0, 0)), (1, win off c), (1005, .cells ⟨[fnA]⟩ 52 (0, 0)), (1000, .cells ⟨[uu kd]⟩ 5 (0, 0)), (1007, .deferred (some [])), (1008, rec13 kd off n' cap st pd), (4000, boO o), (5000, deadO)]
section
variable (kd : Int) (off n' cap : Nat) (c : Array Value) (u d i : Int) (X : Nat → Value) (o : Op3) (r v : Bool) (n2 d2 : Int)
noncomputable abbrev hd13 : Hp := (5000, deadO) :: H13 kd off n' cap c u d u d .ready none
def owH : List Prop := [decide (i < (n' : Int)) = true, ixO i n', off ≤ off + i.toNat * 3, (c.toList.drop (off + i.toNat * 3)).take 3 = flO o]
noncomputable def rn39 (orc : List (Option Bool)) (ans : List (Nat × Res)) (lds : List (List Value)) : Option (Ex × List Value × Hp × List Prop) := runLS Tryd.prog 4000 L39 (F39 off n' cap i X) (hd13 kd off n' cap c u d) orc ans [] lds
theorem t39_p : runLS Tryd.prog 4000 (cA b39) (frame0 Tryd.f39 #[yl 1008, ptr 1006]) (H13 kd off n' cap c u d u d .ready none) [] [] [] [] = some (.normal, F39 off n' cap 0 (fun _ => ud), H13 kd off n' cap c u d u d .ready none, []) := by kernel_rfl
theorem t39_x : ∃ Y, rn39 kd off n' cap c u d i X [f] [] [] = some (.exit 0, F39 off n' cap i Y, hd13 kd off n' cap c u d, [decide (i < (n' : Int)) = false]) := ⟨lt (rn39 kd off n' cap c u d i X [f] [] []), by kernel_rfl⟩
theorem t39_S1 : rn39 kd off n' cap c u d i X [t, t, n, n, n, n] [] [flO o] = some (.normal, F39 off n' cap (wi (i + 1)) (xB off n' 4000 i (wi (i + 1)) o true), H13 kd off n' cap c u d u d .ready none ++ [(4000, boO o), (5000, deadO)], owH off n' c i o ++ [(o.1 != kd) = true]) := by kernel_rfl
theorem t39_S2 : rn39 kd off n' cap c u d i X [t, f, n, n, t, n] [(19, rt (bb r))] [flO o] = some (.normal, F39 off n' cap (wi (i + 1)) (xB off n' 4000 i (wi (i + 1)) o true), H13 kd off n' cap c u d u d .ready none ++ [(4000, boO o), (5000, deadO)], owH off n' c i o ++ [(o.1 != kd) = false, PureX Tryd.prog 19 #[ov o] (rt (bb r)), (!r) = true]) := by kernel_rfl
theorem t39_G : rn39 kd off n' cap c u d i X [t, f, n, n, f, f, n] [(19, rt (bb r)), (38, rt (tp [ii n2, ii d2])), (30, rt (bb v))] [flO o] = some (.normal, F39 off n' cap (wi (i + 1)) (xB off n' 4000 i (wi (i + 1)) o true), G13 kd off n' cap c n2 d2 n2 d2 .ready none o, owH off n' c i o ++ [(o.1 != kd) = false, PureX Tryd.prog 19 #[ov o] (rt (bb r)), (!r) = false, PureX Tryd.prog 38 #[ii (n1 u d o), ii (d1 d o)] (rt (tp [ii n2, ii d2])), PureX Tryd.prog 30 #[ii n2, ii d2] (rt (bb v)), (!v) = false]) := by kernel_rfl
theorem t39_O : ∃ T, rn39 kd off n' cap c u d i X [t, f, n, n, f, t, n] [(19, rt (bb r)), (38, rt (tp [ii n2, ii d2])), (30, rt (bb v))] [flO o] = some (.ret, T, G13 kd off n' cap c 0 0 n2 d2 .done (some .ret) o, owH off n' c i o ++ [(o.1 != kd) = false, PureX Tryd.prog 19 #[ov o] (rt (bb r)), (!r) = false, PureX Tryd.prog 38 #[ii (n1 u d o), ii (d1 d o)] (rt (tp [ii n2, ii d2])), PureX Tryd.prog 30 #[ii n2, ii d2] (rt (bb v)), (!v) = true]) ∧ vresults Tryd.prog Tryd.f39 T (G13 kd off n' cap c 0 0 n2 d2 .done (some .ret) o) = some ud := ⟨tmpsOf (rn39 kd off n' cap c u d i X [t, f, n, n, f, t, n] [(19, rt (bb r)), (38, rt (tp [ii n2, ii d2])), (30, rt (bb v))] [flO o]), by kernel_rfl, by kernel_rfl⟩
end
/-- What the whole sum does, its rounds answered. -/
theorem t13_E (kd : Int) (off n' cap : Nat) (c : Array Value) (u d : Int) : runF Tryd.prog 1000 [1] 13 #[uu kd, slw 1 off n' cap] [(1, win off c)] [] [] [(39, rt ud, H13 kd off n' cap c u d u d .ready none)] [] = some (rt (tp [ii u, ii d]), [(1, win off c)], [CallsV Tryd.prog (.func 39) #[yl 1008, ptr 1006] (H13 kd off n' cap c 0 1 0 1 .ready none) (rt ud) (H13 kd off n' cap c u d u d .ready none)]) := by kernel_rfl
theorem t13_R (kd : Int) (off n' cap : Nat) (c : Array Value) (n2 d2 : Int) : runF Tryd.prog 1000 [1] 13 #[uu kd, slw 1 off n' cap] [(1, win off c)] [] [] [(39, rt ud, H13 kd off n' cap c 0 0 n2 d2 .done (some .ret))] [] = some (rt (tp [ii 0, ii 0]), [(1, win off c)], [CallsV Tryd.prog (.func 39) #[yl 1008, ptr 1006] (H13 kd off n' cap c 0 1 0 1 .ready none) (rt ud) (H13 kd off n' cap c 0 0 n2 d2 .done (some .ret))]) := by kernel_rfl
theorem t13_nil (kd : Int) : runF Tryd.prog 1000 [] 13 #[uu kd, sl0] [] [] [] [] [] = some (rt (tp [ii 0, ii 1]), [], []) := by kernel_rfl

end Go.Proofs.YtcjjckokaiobcaaDoor

/- The program's sum. -/
namespace Go.Proofs.YtcjjckokaiobcaaDoor
open Go Go.RowKit
set_option linter.unusedSimpArgs false
set_option linter.unusedVariables false
set_option maxRecDepth 100000

theorem ren_slw (ρ : Nat → Nat) (k off n' cap : Nat) : ren (rnm ρ) (slw k off n' cap) = slw (ρ k) off n' cap := by
  simp only [ren, capR_rnm, Option.map]
  have e : shf (rnm ρ k) = 0 := shf0 (Nat.le_refl _)
  simp only [renP, e, Nat.add_zero]
  rfl
theorem ren_pto (ρ : Nat → Nat) (k o : Nat) : ren (rnm ρ) (pto k o) = pto (ρ k) o := by
  have e : shf (rnm ρ k) = 0 := shf0 (Nat.le_refl _)
  simp only [ren, renP, e, Nat.add_zero]
  rfl
section
variable (kd : Int) (off n' cap : Nat) (c : Array Value) (u d u2 d2' i i2 : Int) (X : Nat → Value) (o : Op3)
/-- The box of a round is the old one, behind it. -/
theorem rn_S : Renum (H13 kd off n' cap c u d u d .ready none) (F39 off n' cap i (xB off n' 4000 i2 i o true)) [] (H13 kd off n' cap c u2 d2' u2 d2' .ready none ++ [(4000, boO o), (5000, deadO)]) (F39 off n' cap i (xB off n' 5000 i2 i o true)) [] (hd13 kd off n' cap c u2 d2') (rho [(5000, 4000)]) :=
  renum_of (by kernel_rfl) (by show renL (rnm (rho [(5000, 4000)])) [yl 1008, ptr 1006, ud, ud, ptr 5000, slw 1 off n' cap, ii n', ii i, bb (decide (i2 < (n' : Int))), pto 1 (off + i2.toNat * 3), ov o, yl 1008, ov o, bb true, bb (!true), ii i] = _; simp only [renL, ren_slw, ren_pto]; kernel_rfl) ⟨fun h => (by cases h), fun _ => by simp only [renO, renA, renL, ren_slw]; kernel_rfl, fun _ => by kernel_rfl, fun _ => by kernel_rfl, fun _ => by kernel_rfl, fun _ => by kernel_rfl, fun _ => by kernel_rfl, fun _ => by kernel_rfl, fun _ => by kernel_rfl, fun _ => by kernel_rfl, fun _ => by unfold rec13; simp only [renO, renA, renL, ren_slw]; kernel_rfl, trivial⟩ (by kernel_rfl) (by kernel_rfl) (by kernel_rfl)
theorem rn_G : Renum (H13 kd off n' cap c u d u d .ready none) (F39 off n' cap i (xB off n' 4000 i2 i o true)) [] (G13 kd off n' cap c u2 d2' u2 d2' .ready none o) (F39 off n' cap i (xB off n' 5000 i2 i o true)) [] (hd13 kd off n' cap c u2 d2') (rho [(5000, 4000)]) :=
  renum_of (by kernel_rfl) (by show renL (rnm (rho [(5000, 4000)])) [yl 1008, ptr 1006, ud, ud, ptr 5000, slw 1 off n' cap, ii n', ii i, bb (decide (i2 < (n' : Int))), pto 1 (off + i2.toNat * 3), ov o, yl 1008, ov o, bb true, bb (!true), ii i] = _; simp only [renL, ren_slw, ren_pto]; kernel_rfl) ⟨fun h => (by cases h), fun _ => by simp only [renO, renA, renL, ren_slw]; kernel_rfl, fun _ => by kernel_rfl, fun _ => by kernel_rfl, fun _ => by kernel_rfl, fun _ => by kernel_rfl, fun _ => by kernel_rfl, fun _ => by kernel_rfl, fun _ => by kernel_rfl, fun _ => by kernel_rfl, fun _ => by unfold rec13; simp only [renO, renA, renL, ren_slw]; kernel_rfl, trivial⟩ (by kernel_rfl) (by kernel_rfl) (by kernel_rfl)
theorem rn_0 : Renum (H13 kd off n' cap c u d u d .ready none) (F39 off n' cap i (fun _ => ud)) [] (H13 kd off n' cap c u d u d .ready none) (F39 off n' cap i (fun _ => ud)) [] (hd13 kd off n' cap c u d) (rho []) :=
  renum_of (by kernel_rfl) (by unfold F39; simp only [renL, ren_slw]; kernel_rfl) ⟨fun h => (by cases h), fun _ => by simp only [renO, renA, renL, ren_slw]; kernel_rfl, fun _ => by kernel_rfl, fun _ => by kernel_rfl, fun _ => by kernel_rfl, fun _ => by kernel_rfl, fun _ => by kernel_rfl, fun _ => by kernel_rfl, fun _ => by kernel_rfl, fun _ => by kernel_rfl, fun _ => by unfold rec13; simp only [renO, renA, renL, ren_slw]; kernel_rfl, trivial⟩ (by kernel_rfl) (by kernel_rfl) (by kernel_rfl)
end
theorem dom13 {kd : Int} {off n' cap : Nat} {c : Array Value} {u d u' d' : Int} {i : Nat} : domB (H13 kd off n' cap c 0 1 0 1 .ready none) i = true → domB (hd13 kd off n' cap c u d) i = true := all_dom (by kernel_rfl) i
theorem low_s {u d : Int} {o : Op3} (hi : InvS u d) (ho : rightB o = true) : PureX Tryd.prog 38 #[ii (n1 u d o), ii (d1 d o)] (rt (tp [ii (stpN u d o), ii (stpD u d o)])) := by
  have h1 := den_bd hi ho
  have h2 := num_bd hi ho
  have h3 := stp_bd hi ho
  unfold n1 d1
  rw [wi_num hi ho, wi_den hi ho]
  refine (low_v (a := numS u d o) (b := denS d o) (by omega) (by omega) (by omega)).is ?_
  have e1 : wi ((numS u d o).tdiv (Int.gcd (numS u d o) (denS d o) : Nat)) = stpN u d o := wi_nat (x := stpN u d o) h3.1 (by decide)
  have e2 : wi ((denS d o).tdiv (Int.gcd (numS u d o) (denS d o) : Nat)) = stpD u d o := wi_nat (x := stpD u d o) h3.2 (by decide)
  rw [e1, e2]
theorem loop39 (kd : Int) (off cap : Nat) (L : List Op3) (hL : L.length ≤ 9223372036854775807) : ∀ (j i : Nat) (u d : Int) (X : Nat → Value), InvS u d → i + j = L.length →
    (∃ r Y u' d', LoopI Tryd.prog L39 (H13 kd off L.length cap (cwx flO off L) 0 1 0 1 .ready none) r (F39 off L.length cap i X) (hd13 kd off L.length cap (cwx flO off L) u d) (.exit 0) (F39 off L.length cap L.length Y) (hd13 kd off L.length cap (cwx flO off L) u' d') ∧ totF kd u d (L.drop i) = (u', d')) ∨
    (∃ r T n2 d2 o, LoopI Tryd.prog L39 (H13 kd off L.length cap (cwx flO off L) 0 1 0 1 .ready none) r (F39 off L.length cap i X) (hd13 kd off L.length cap (cwx flO off L) u d) .ret T (G13 kd off L.length cap (cwx flO off L) 0 0 n2 d2 .done (some .ret) o) ∧ vresults Tryd.prog Tryd.f39 T (G13 kd off L.length cap (cwx flO off L) 0 0 n2 d2 .done (some .ret) o) = some ud ∧ totF kd u d (L.drop i) = (0, 0))
  | 0, i, u, d, X, _, hi => by
    have e : i = L.length := by omega
    subst e
    obtain ⟨Y, e⟩ := t39_x kd off L.length cap (cwx flO off L) u d L.length X
    refine .inl ⟨1, Y, u, d, LoopI.last (fun _ => dom13 (u' := u) (d' := d)) (runLS_step mix e ⟨decide_eq_false (by omega), trivial⟩), ?_⟩
    rw [List.drop_length]; rfl
  | j + 1, i, u, d, X, hv, hi => by
    have hlt : i < L.length := by omega
    have hx : L[i]? = some L[i] := List.getElem?_eq_getElem hlt
    have hd : L.drop i = L[i] :: L.drop (i + 1) := List.drop_eq_getElem_cons hlt
    rw [hd]
    generalize L[i] = o at hx
    have hwx := wi_nx hlt hL
    have hrv := right_v o
    have how : AllP (owH off L.length (cwx flO off L) i o) := ⟨decide_eq_true (by omega), ⟨by omega, by omega⟩, Nat.le_add_right _ _, cwO_take off hx, trivial⟩
    have skip : StepV Tryd.prog L39 (F39 off L.length cap i X) [] (hd13 kd off L.length cap (cwx flO off L) u d) .normal (F39 off L.length cap (wi ((i : Int) + 1)) (xB off L.length 4000 i (wi ((i : Int) + 1)) o true)) [] (H13 kd off L.length cap (cwx flO off L) u d u d .ready none ++ [(4000, boO o), (5000, deadO)]) → hitB kd o = false → 
      (∃ r Y u' d', LoopI Tryd.prog L39 (H13 kd off L.length cap (cwx flO off L) 0 1 0 1 .ready none) r (F39 off L.length cap i X) (hd13 kd off L.length cap (cwx flO off L) u d) (.exit 0) (F39 off L.length cap L.length Y) (hd13 kd off L.length cap (cwx flO off L) u' d') ∧ totF kd u d (o :: L.drop (i + 1)) = (u', d')) ∨
      (∃ r T n2 d2 o', LoopI Tryd.prog L39 (H13 kd off L.length cap (cwx flO off L) 0 1 0 1 .ready none) r (F39 off L.length cap i X) (hd13 kd off L.length cap (cwx flO off L) u d) .ret T (G13 kd off L.length cap (cwx flO off L) 0 0 n2 d2 .done (some .ret) o') ∧ vresults Tryd.prog Tryd.f39 T (G13 kd off L.length cap (cwx flO off L) 0 0 n2 d2 .done (some .ret) o') = some ud ∧ totF kd u d (o :: L.drop (i + 1)) = (0, 0)) := fun s hh => by
        rw [hwx] at s
        have e : totF kd u d (o :: L.drop (i + 1)) = totF kd u d (L.drop (i + 1)) := by simp [totF, hh]
        rw [e]
        rcases loop39 kd off cap L hL j (i + 1) u d (xB off L.length 5000 i (i + 1 : Nat) o true) hv (by omega) with ⟨r, Z, u', d', h1, h2⟩ | ⟨r, T, n2, d2, o', h1, h2, h3⟩
        · exact .inl ⟨r + 1, Z, u', d', LoopI.round (fun _ => dom13 (u' := u) (d' := d)) s (rn_S kd off L.length cap (cwx flO off L) 0 1 u d (i + 1 : Nat) i o) h1, h2⟩
        · exact .inr ⟨r + 1, T, n2, d2, o', LoopI.round (fun _ => dom13 (u' := u) (d' := d)) s (rn_S kd off L.length cap (cwx flO off L) 0 1 u d (i + 1 : Nat) i o) h1, h2, h3⟩
    by_cases hk : o.1 = kd
    case neg => exact skip (runLS_step mix (t39_S1 kd off L.length cap (cwx flO off L) u d i X o) (allP_app how ⟨by simpa using hk, trivial⟩)) (by simp [hitB, hk])
    have hk' : (o.1 != kd) = false := by simp [hk]
    by_cases hr : rightB o = true
    case neg => exact skip (runLS_step mix (t39_S2 kd off L.length cap (cwx flO off L) u d i X o (rightB o)) (allP_app how ⟨hk', hrv, by simp [hr], trivial⟩)) (by simp [hitB, hr])
    have hh : hitB kd o = true := by simp [hitB, hr, hk]
    have hlo := low_s hv hr
    have hcv := counts_v (stpN u d o) (stpD u d o)
    by_cases hc : cntB (stpN u d o) (stpD u d o) = true
    · have s := runLS_step mix (t39_G kd off L.length cap (cwx flO off L) u d i X o (rightB o) (cntB (stpN u d o) (stpD u d o)) (stpN u d o) (stpD u d o)) (allP_app how ⟨hk', hrv, by simp [hr], hlo, hcv, by simp [hc], trivial⟩)
      rw [hwx] at s
      have e2 : totF kd u d (o :: L.drop (i + 1)) = totF kd (stpN u d o) (stpD u d o) (L.drop (i + 1)) := by simp [totF, hh, hc]
      rw [e2]
      rcases loop39 kd off cap L hL j (i + 1) _ _ (xB off L.length 5000 i (i + 1 : Nat) o true) (stp_inv hv hr hc) (by omega) with ⟨r, Z, u', d', h1, h2⟩ | ⟨r, T, n2, d2, o', h1, h2, h3⟩
      · exact .inl ⟨r + 1, Z, u', d', LoopI.round (fun _ => dom13 (u' := u) (d' := d)) s (rn_G kd off L.length cap (cwx flO off L) 0 1 _ _ (i + 1 : Nat) i o) h1, h2⟩
      · exact .inr ⟨r + 1, T, n2, d2, o', LoopI.round (fun _ => dom13 (u' := u) (d' := d)) s (rn_G kd off L.length cap (cwx flO off L) 0 1 _ _ (i + 1 : Nat) i o) h1, h2, h3⟩
    · obtain ⟨T, e, ev⟩ := t39_O kd off L.length cap (cwx flO off L) u d i X o (rightB o) (cntB (stpN u d o) (stpD u d o)) (stpN u d o) (stpD u d o)
      have s := runLS_step mix e (allP_app how ⟨hk', hrv, by simp [hr], hlo, hcv, by simp [hc], trivial⟩)
      exact .inr ⟨1, T, _, _, o, LoopI.lastRet (fun _ => dom13 (u' := u) (d' := d)) s, ev, by simp [totF, hh, hc]⟩
theorem sub13E {kd : Int} {off n' cap : Nat} {c : Array Value} {u d : Int} : Sub (H13 kd off n' cap c u d u d .ready none) (hd13 kd off n' cap c u d) := sameL_sub ⟨rfl, rfl, rfl, rfl, rfl, rfl, rfl, rfl, rfl, rfl, trivial⟩
theorem sub13R {kd : Int} {off n' cap : Nat} {c : Array Value} {n2 d2 : Int} {o : Op3} : Sub (H13 kd off n' cap c 0 0 n2 d2 .done (some .ret)) (G13 kd off n' cap c 0 0 n2 d2 .done (some .ret) o) := sameL_sub ⟨rfl, rfl, rfl, rfl, rfl, rfl, rfl, rfl, rfl, rfl, trivial⟩
/-- The program's sum. -/
theorem tot_s (kd : Int) (L : List Op3) : SemA KO Tryd.prog 13 (fun s => #[uu kd, s]) L (tp [ii (totV kd L).1, ii (totV kd L).2]) := by
  refine semA_mk false (fun β s => rfl) rfl (fun h => by subst h; exact runF_pure mix (t13_nil kd) trivial rfl rfl) (fun off cap hl hc => ?_)
  have hL : L.length ≤ 9223372036854775807 := Nat.le_trans hl (Nat.le_trans hc (by decide))
  have s0 := runLS_step mix (t39_p kd off L.length cap (cwx flO off L) 0 1) trivial
  rcases loop39 kd off cap L hL L.length 0 0 1 (fun _ => ud) inv_0 (by omega) with ⟨r, Z, u', d', h1, h2⟩ | ⟨r, T, n2, d2, o, h1, h2, h3⟩
  · have h4 := LoopI.loop (fun _ => dom13 (u' := 0) (d' := 1)) (LoopI.preW (rn_0 kd off L.length cap (cwx flO off L) 0 1 0) h1)
    have e : totV kd L = (u', d') := by rw [← h2]; rfl
    rw [e]
    have hcv : CallsV Tryd.prog (.func 39) #[yl 1008, ptr 1006] (H13 kd off L.length cap (cwx flO off L) 0 1 0 1 .ready none) (rt ud) (H13 kd off L.length cap (cwx flO off L) u' d' u' d' .ready none) :=
      callsV_step (f := 39) (fc := Tryd.f39) rfl b39_eq (s0.seq (h4.block (id := 0))) rfl rfl (by kernel_rfl) sub13E (by kernel_rfl)
    exact runF_calls mix (t13_E kd off L.length cap (cwx flO off L) u' d') ⟨hcv, trivial⟩ rfl rfl
  · have h4 := LoopI.loop (fun i hi => all_dom (by kernel_rfl) i hi) (LoopI.preW (rn_0 kd off L.length cap (cwx flO off L) 0 1 0) h1)
    have e : totV kd L = (0, 0) := by rw [← h3]; rfl
    rw [e]
    have hcv : CallsV Tryd.prog (.func 39) #[yl 1008, ptr 1006] (H13 kd off L.length cap (cwx flO off L) 0 1 0 1 .ready none) (rt ud) (H13 kd off L.length cap (cwx flO off L) 0 0 n2 d2 .done (some .ret)) :=
      callsV_step (f := 39) (fc := Tryd.f39) rfl b39_eq (s0.seq (h4.blockrW (id := 0))) rfl h2 (by kernel_rfl) sub13R (by kernel_rfl)
    exact runF_calls mix (t13_R kd off L.length cap (cwx flO off L) n2 d2) ⟨hcv, trivial⟩ rfl rfl

end Go.Proofs.YtcjjckokaiobcaaDoor
