/- Texts of the seat, joined. -/
import Derived.Test.YtpllklojcjhjaaaZz4
/- Lists of numbers, wherever they lie: what a call answers of them, and what it makes of them. -/
namespace Go.Proofs.Ytpllklojcjhjaaa
open Go Go.RowKit
set_option linter.unusedSimpArgs false
set_option linter.unusedVariables false
attribute [local irreducible] shf

theorem cap_ne {cap : Nat} (h : cap ≤ maxLen) : cap ≠ capU := fun e => absurd (e ▸ h) (by decide)
theorem shf_at (B off : Nat) : shf (B, capU + off) = off := by rw [shf_eq]; exact Nat.add_sub_cancel_left _ _
/-- Where blocks that are only read lie. -/
def Lie (β : Num) (w : World) (i : Nat) (o : Obj) : Prop :=
  (winO o = true ∧ isLive o = true ∧ ∀ p : Nat → Bool, wfO p o = true) ∧ LiesO β (β i).2 o w.heap[(β i).1]?
/-- A call that reads windows alone, in the world. -/
theorem calls_wins {P : Program} {f : Nat} {args args' : Array Value} {H H' : Hp} {r : Res} {β : Num} {w : World} (hg : GL w) (hc : CallsV P (.func f) args H r H') (ha : renA β args = args')
    (h : ∀ i o, look H i = some o → Lie β w i o) : Calls P f args' w fun e w' => ∃ β', (∀ i, domB H i = true → β' i = β i) ∧ e = r.out β' ∧ Rel (rng β H) w β' H' w' ∧ Below w.heap.size w w' := by
  have hwb : ∀ i, liveB H i = true → winB H i = true := fun i hi => by
    obtain ⟨o, ho, hv⟩ := liveB_iff.1 hi
    rw [winB_look ho]; exact (h i o ho).1.1
  have hR : Rel (rng β H) w β H w := by
    refine ⟨fun i o ho => (h i o ho).2, fun i j hi hj hw _ => absurd (hwb i hi) (by rw [hw]; decide), fun i hi => .inl (rng_own.2 ⟨i, hi, rfl⟩), fun i hi => ⟨fun _ => ⟨?_, rng_win.2 ⟨i, hi, hwb i hi, rfl⟩⟩, fun _ => hwb i hi⟩, fun i o ho => (h i o ho).1.2.2 _, Kp.refl _ _ ⟨hg, fun g _ hA => by
      obtain ⟨i, hi, e⟩ := rng_own.1 hA
      exact rng_win.2 ⟨i, hi, hwb i hi, e⟩⟩⟩
    obtain ⟨o, ho, hv⟩ := liveB_iff.1 hi
    obtain ⟨y, hy⟩ := liesO_some hv (h i o ho).2
    exact (Array.getElem?_eq_some_iff.1 hy).1
  have hh := hc β w hR
  rw [ha] at hh
  refine hh.mono ?_
  rintro e w' ⟨β', hb, rfl, hR'⟩
  refine ⟨β', hb, rfl, hR', hR'.kp.below (Nat.le_refl _) (fun k h1 h2 => ?_)⟩
  obtain ⟨i, hi, e⟩ := rng_own.1 h1
  exact absurd (rng_win.2 ⟨i, hi, hwb i hi, e⟩) h2
theorem lie_1 {β : Num} {w : World} {i : Nat} {o : Obj} (h : Lie β w i o) : ∀ j x, look [(i, o)] j = some x → Lie β w j x := by
  intro j x hx
  simp only [look] at hx
  split at hx
  · rename_i e
    simp only [Option.some.injEq] at hx
    rw [← hx, ← e]
    exact h
  · cases hx
theorem lie_2 {β : Num} {w : World} {i k : Nat} {o y : Obj} (h : Lie β w i o) (g : Lie β w k y) : ∀ j x, look [(i, o), (k, y)] j = some x → Lie β w j x := by
  intro j x hx
  by_cases e : i = j
  · simp only [look, if_pos e, Option.some.injEq] at hx
    rw [← hx, ← e]
    exact h
  · simp only [look, if_neg e] at hx
    exact lie_1 g j x (by simpa only [look] using hx)
theorem lie_3 {β : Num} {w : World} {i k m : Nat} {o y z : Obj} (h : Lie β w i o) (g : Lie β w k y) (q : Lie β w m z) : ∀ j x, look [(i, o), (k, y), (m, z)] j = some x → Lie β w j x := by
  intro j x hx
  by_cases e : i = j
  · simp only [look, if_pos e, Option.some.injEq] at hx
    rw [← hx, ← e]
    exact h
  · simp only [look, if_neg e] at hx
    exact lie_2 g q j x (by simpa only [look] using hx)
theorem lie_win {β : Num} {w : World} {i B off : Nat} {c : Array Value} (e : β i = (B, 0)) (hc : wfA noB c = true) (hw : WinAt off c w.heap[B]?) : Lie β w i (win off c) := by
  refine ⟨⟨rfl, rfl, fun _ => rfl⟩, ?_⟩
  rw [e]
  exact ⟨fun h => (by cases h), fun _ => ⟨Nat.zero_le _, hw⟩, hc⟩
theorem lie_seen {β : Num} {w : World} {i B off : Nat} {c : Array Value} {T : TypeId} (e : β i = (B, capU + off)) (hc : wfA noB c = true)
    (hw : ∃ (cur : Array Value) (T : TypeId) (fr : Nat × Nat), w.heap[B]? = some (.cells cur T fr) ∧ ∀ j v, c[j]? = some v → cur[j + off]? = some v) : Lie β w i (.cells c T (2, 0)) := by
  refine ⟨⟨rfl, rfl, fun p => ?_⟩, ?_⟩
  · simp only [wfO, Bool.and_eq_true]
    exact ⟨wfA_mono (p := noB) (fun _ h => (by cases h)) _ hc, by decide⟩
  · rw [e]
    refine ⟨fun h => (by cases h), fun h => (by cases h), fun _ _ => ?_⟩
    obtain ⟨cur, T', fr, h1, h2⟩ := hw
    refine ⟨cur, T', fr, h1, fun j v hj => ?_⟩
    rw [renA_plain _ hc] at hj
    have e2 : (B, capU + off).2 - capU = off := (shf_eq _).symm.trans (shf_at B off)
    rw [e2]
    exact h2 j v hj
theorem ren_win {β : Num} {i B off n' cap : Nat} (e : β i = (B, 0)) (hc : cap ≤ maxLen) : ren β (slw i off n' cap) = slw B off n' cap := by
  simp only [ren, renP, e, shf_zero, Nat.add_zero, capR_ne (x := (B, 0)) (cap_ne hc)]
theorem ren_seen {β : Num} {i B off n' cap : Nat} (e : β i = (B, capU + off)) (hc : cap ≤ maxLen) : ren β (slw i 0 n' cap) = slw B off n' cap := by
  simp only [ren, renP, e, shf_at, Nat.zero_add, capR_ne (x := (B, capU + off)) (cap_ne hc)]
theorem cwx_at {α : Type} {fl : α → List Value} {off j : Nat} {L : List α} (h : off ≤ j) : (cwx fl off L)[j]? = (L.flatMap fl)[j - off]? := by
  show (Array.mk (List.replicate off ud ++ L.flatMap fl))[j]? = _
  simp only [List.getElem?_toArray]
  rw [List.getElem?_append_right (by simpa using h), List.length_replicate]
theorem seen_of_win {α : Type} {fl : α → List Value} {off : Nat} {L : List α} {x : Option Obj} (h : WinAt off (cwx fl off L) x) :
    ∃ (cur : Array Value) (T : TypeId) (fr : Nat × Nat), x = some (.cells cur T fr) ∧ ∀ j v, (Array.mk (L.flatMap fl))[j]? = some v → cur[j + off]? = some v := by
  obtain ⟨cur, T, fr, h1, h2⟩ := h
  refine ⟨cur, T, fr, h1, fun j v hj => h2 _ v (Nat.le_add_left _ _) ?_⟩
  rw [cwx_at (Nat.le_add_left _ _), Nat.add_sub_cancel]
  simpa using hj
theorem fl1_plain (N : List Int) : wfL noB (N.flatMap fl1) = true := by
  induction N with
  | nil => rfl
  | cons x r ih => exact ih
theorem fl1_map (N : List Int) : N.flatMap fl1 = N.map ii := by
  induction N with
  | nil => rfl
  | cons x r ih => rw [List.flatMap_cons, ih]; rfl
theorem fl1_len (N : List Int) : (N.flatMap fl1).length = N.length := by rw [fl1_map, List.length_map]
theorem cwx_plain (off : Nat) (N : List Int) : wfA noB (cwx fl1 off N) = true := by
  show wfL noB (List.replicate off ud ++ N.flatMap fl1) = true
  rw [wfL_all]
  intro v h
  rcases List.mem_append.1 h with h | h
  · rw [(List.mem_replicate.1 h).2]; rfl
  · exact (wfL_all _ _).1 (fl1_plain N) v h

/-- A list of numbers lies in the world. -/
def LieL (w : World) (v : Value) (L : List Int) : Prop :=
  (v = sl0 ∧ L = []) ∨ ∃ B off cap, v = slw B off L.length cap ∧ L.length ≤ cap ∧ cap ≤ maxLen ∧ WinAt off (cwx fl1 off L) w.heap[B]?
theorem LieL.below {w w' : World} {v : Value} {L : List Int} (h : LieL w v L) (hb : Below w.heap.size w w') : LieL w' v L := by
  rcases h with h | ⟨B, off, cap, e, h1, h2, h3⟩
  · exact .inl h
  · refine .inr ⟨B, off, cap, e, h1, h2, ?_⟩
    obtain ⟨cur, T, fr, h4, h5⟩ := h3
    rw [hb.block B (Array.getElem?_eq_some_iff.1 h4).1]
    exact ⟨cur, T, fr, h4, h5⟩
section
variable {A : Nat → Prop} {w0 : World} {β : Num} {H : Hp} {w : World} {L : List Int} {k off cap : Nat}
theorem ll_nil : LieL w (ren β sl0) [] := .inl ⟨rfl, rfl⟩
theorem ll_win (hR : Rel A w0 β H w) (hk : look H k = some (win off (cwx fl1 off L))) (hl : L.length ≤ cap) (hc : cap ≤ maxLen) : LieL w (ren β (slw k off L.length cap)) L := by
  obtain ⟨h1, h2⟩ := (hR.lies k _ hk).2.1 rfl
  exact .inr ⟨(β k).1, off, cap, by simp only [ren, renP, shf0 h1, Nat.add_zero, capR_ne (x := β k) (cap_ne hc)], hl, hc, h2⟩
theorem ll_seen (hR : Rel A w0 β H w) (hk : look H k = some (wib L)) (hl : L.length ≤ cap) (hc : cap ≤ maxLen) : LieL w (ren β (slw k 0 L.length cap)) L := by
  obtain ⟨cur, T, fr, h1, h2⟩ := (hR.lies k _ hk).2.2 (by simp) (by simp)
  refine .inr ⟨(β k).1, shf (β k), cap, by simp only [ren, renP, Nat.zero_add, capR_ne (x := β k) (cap_ne hc)], hl, hc, cur, T, fr, h1, fun j v hj hv => ?_⟩
  rw [cwx_at hj] at hv
  have := h2 (j - shf (β k)) v (by rw [renA_plain _ (show wfA noB ⟨L.flatMap fl1⟩ = true from fl1_plain L)]; simpa using hv)
  rw [← shf_eq, Nat.sub_add_cancel hj] at this
  exact this
theorem ll_open {cap' : Nat} {T : TypeId} {x : Option Obj} (h : OpenAt cap' 1 T ⟨L.flatMap fl1⟩ x) : L.length ≤ cap' ∧ cap' ≤ maxLen ∧ WinAt 0 (cwx fl1 0 L) x := by
  obtain ⟨cur, h1, h2, h3, h4, h5⟩ := h
  have hsz : (Array.mk (L.flatMap fl1)).size = L.length := by simp only [List.size_toArray]; exact fl1_len L
  rw [hsz] at h4 h5
  have h5 : cur.toList.take L.length = L.flatMap fl1 := h5
  refine ⟨by omega, h2, cur, _, _, h1, fun j v hj hv => ?_⟩
  rw [cwx_at hj, Nat.sub_zero, ← h5, List.getElem?_take] at hv
  split at hv
  · simpa using hv
  · cases hv
theorem ll_opq (hR : Rel A w0 β H w) {T u2 : Nat} {u3 : Bool} {c : Array Value} (hk : look H k = some (.chan 1 c false T u2 u3)) (hc : c = ⟨L.flatMap fl1⟩) : LieL w (ren β (slw k 0 L.length capU)) L := by
  subst hc
  obtain ⟨h1, h2, h3⟩ := ll_open ((hR.lies k _ hk).1 rfl)
  exact .inr ⟨(β k).1, 0, (β k).2, by simp only [ren, renP, shf0 (le_capU h2), Nat.add_zero, capR, if_true], h1, h2, h3⟩
theorem ll_grow (hR : Rel A w0 β H w) (hk : look H k = some (gib L)) : LieL w (ren β (slw k 0 L.length capU)) L := by
  have h := (hR.lies k _ hk).2.1 rfl
  rw [renA_plain _ (show wfA noB ⟨L.flatMap fl1⟩ = true from fl1_plain L)] at h
  obtain ⟨h1, h2, h3⟩ := ll_open h
  exact .inr ⟨(β k).1, 0, (β k).2, by simp only [ren, renP, shf0 (le_capU h2), Nat.add_zero, capR, if_true], h1, h2, h3⟩
theorem ll_cells (hR : Rel A w0 β H w) {T : TypeId} {M : List Int} (hk : look H k = some (.cells ⟨M.flatMap fl1⟩ T (0, 0))) (hM : M.take L.length = L) (hl : L.length ≤ cap) (hc : cap ≤ maxLen) : LieL w (ren β (slw k 0 L.length cap)) L := by
  obtain ⟨h1, h2⟩ := (hR.lies k _ hk).1 rfl
  rw [renA_plain _ (show wfA noB ⟨M.flatMap fl1⟩ = true from fl1_plain M)] at h2
  refine .inr ⟨(β k).1, 0, cap, by simp only [ren, renP, shf0 h1, Nat.add_zero, capR_ne (x := β k) (cap_ne hc)], hl, hc, _, _, _, h2, fun j v hj hv => ?_⟩
  rw [cwx_at hj, Nat.sub_zero, fl1_map, ← hM, List.map_take, List.getElem?_take] at hv
  split at hv
  · rw [← fl1_map] at hv; simpa using hv
  · cases hv
end

/-- The answer, wherever the list lies. -/
def Sem1 (P : Program) (f : Nat) (args : Value → Array Value) (L : List Int) (v : Value) : Prop :=
  ∀ w s, GL w → LieL w s L → Calls P f (args s) w fun e w' => e = .returned v ∧ Below w.heap.size w w'
def Sem2 (P : Program) (f : Nat) (args : Value → Value → Array Value) (L M : List Int) (v : Value) : Prop :=
  ∀ w s s', GL w → LieL w s L → LieL w s' M → Calls P f (args s s') w fun e w' => e = .returned v ∧ Below w.heap.size w w'
/-- A new list in the answer. -/
def New1 (P : Program) (f : Nat) (args : Value → Array Value) (L : List Int) (mk : Value → Value) (R : List Int) : Prop :=
  ∀ w s, GL w → LieL w s L → Calls P f (args s) w fun e w' => ∃ B cap, e = .returned (mk (slw B 0 R.length cap)) ∧ w.heap.size ≤ B ∧ OpenAt cap 1 3 ⟨R.flatMap fl1⟩ w'.heap[B]? ∧ Below w.heap.size w w'
section
variable {P : Program} {f : Nat} {args : Value → Array Value} {L : List Int} {v : Value}
theorem pure_calls {f : Nat} {args args' : Array Value} {v : Value} (h : PureX P f args (rt v)) (hv : wfV noB v = true) (w : World) (hg : GL w) : Calls P f args w fun e w' => e = .returned v ∧ Below w.heap.size w w' := by
  refine (h w hg).mono ?_
  rintro e w' ⟨rfl, hb⟩
  exact ⟨by simp only [Res.out, ren_plain idN hv], hb⟩
theorem sem1_mk (ha : ∀ β s, renA β (args s) = args (ren β s)) (hv : wfV noB v = true) (hnil : L = [] → PureX P f (args sl0) (rt v))
    (hwin : ∀ off cap, L.length ≤ cap → cap ≤ maxLen → CallsV P (.func f) (args (slw 1 off L.length cap)) [(1, win off (cwx fl1 off L))] (rt v) [(1, win off (cwx fl1 off L))]) : Sem1 P f args L v := by
  intro w s hg hs
  rcases hs with ⟨rfl, hL⟩ | ⟨B, off, cap, rfl, h1, h2, h3⟩
  · exact pure_calls (args' := #[]) (hnil hL) hv w hg
  · have := calls_wins (β := fun _ => (B, 0)) hg (hwin off cap h1 h2) (by rw [ha, ren_win (β := fun _ => (B, 0)) (i := 1) rfl h2]) (lie_1 (lie_win rfl (cwx_plain _ _) h3))
    refine this.mono ?_
    rintro e w' ⟨β', _, rfl, _, hb⟩
    exact ⟨by simp only [Res.out, ren_plain β' hv], hb⟩
theorem sem1_seen (ha : ∀ β s, renA β (args s) = args (ren β s)) (hv : wfV noB v = true) (hnil : L = [] → PureX P f (args sl0) (rt v))
    (h : ∀ cap, L.length ≤ cap → cap ≤ maxLen → CallsV P (.func f) (args (slw 1 0 L.length cap)) [(1, wib L)] (rt v) [(1, wib L)]) : Sem1 P f args L v := by
  intro w s hg hs
  rcases hs with ⟨rfl, hL⟩ | ⟨B, off, cap, rfl, h1, h2, h3⟩
  · exact pure_calls (args' := #[]) (hnil hL) hv w hg
  · have := calls_wins (β := fun _ => (B, capU + off)) hg (h cap h1 h2) (by rw [ha, ren_seen (β := fun _ => (B, capU + off)) (i := 1) rfl h2]) (lie_1 (lie_seen rfl (fl1_plain L) (seen_of_win h3)))
    refine this.mono ?_
    rintro e w' ⟨β', _, rfl, _, hb⟩
    exact ⟨by simp only [Res.out, ren_plain β' hv], hb⟩
theorem sem1_calls (h : Sem1 P f args L v) (ha : ∀ β s, renA β (args s) = args (ren β s)) (hv : wfV noB v = true) {H : Hp} {s : Value}
    (hs : ∀ β w, Rel (rng β H) w β H w → LieL w (ren β s) L) : CallsV P (.func f) (args s) H (rt v) H := by
  intro β w hR
  simp only [ha]
  refine (h w _ hR.kp.glw (hs β w hR)).mono ?_
  rintro e w' ⟨rfl, hb⟩
  exact ⟨β, fun _ _ => rfl, by simp only [Res.out, ren_plain β hv], hR.below hb⟩
/-- Two lists. -/
theorem sem2_mk {args : Value → Value → Array Value} {M : List Int} (ha : ∀ β s s', renA β (args s s') = args (ren β s) (ren β s')) (hv : wfV noB v = true) (hnn : L = [] → M = [] → PureX P f (args sl0 sl0) (rt v))
    (hnw : L = [] → ∀ off cap, M.length ≤ cap → cap ≤ maxLen → CallsV P (.func f) (args sl0 (slw 2 off M.length cap)) [(2, win off (cwx fl1 off M))] (rt v) [(2, win off (cwx fl1 off M))])
    (hwn : M = [] → ∀ off cap, L.length ≤ cap → cap ≤ maxLen → CallsV P (.func f) (args (slw 1 off L.length cap) sl0) [(1, win off (cwx fl1 off L))] (rt v) [(1, win off (cwx fl1 off L))])
    (hww : ∀ off cap off' cap', L.length ≤ cap → cap ≤ maxLen → M.length ≤ cap' → cap' ≤ maxLen → CallsV P (.func f) (args (slw 1 off L.length cap) (slw 2 off' M.length cap')) [(1, win off (cwx fl1 off L)), (2, win off' (cwx fl1 off' M))] (rt v) [(1, win off (cwx fl1 off L)), (2, win off' (cwx fl1 off' M))]) :
    Sem2 P f args L M v := by
  intro w s s' hg hs hs'
  rcases hs with ⟨rfl, hL⟩ | ⟨B, off, cap, rfl, h1, h2, h3⟩ <;> rcases hs' with ⟨rfl, hM⟩ | ⟨B', off', cap', rfl, g1, g2, g3⟩
  · exact pure_calls (args' := #[]) (hnn hL hM) hv w hg
  · have := calls_wins (β := fun _ => (B', 0)) hg (hnw hL off' cap' g1 g2) (by rw [ha, ren_win (β := fun _ => (B', 0)) (i := 2) rfl g2]) (lie_1 (lie_win rfl (cwx_plain _ _) g3))
    refine this.mono ?_
    rintro e w' ⟨β', _, rfl, _, hb⟩
    exact ⟨by simp only [Res.out, ren_plain β' hv], hb⟩
  · have := calls_wins (β := fun _ => (B, 0)) hg (hwn hM off cap h1 h2) (by rw [ha, ren_win (β := fun _ => (B, 0)) (i := 1) rfl h2]) (lie_1 (lie_win rfl (cwx_plain _ _) h3))
    refine this.mono ?_
    rintro e w' ⟨β', _, rfl, _, hb⟩
    exact ⟨by simp only [Res.out, ren_plain β' hv], hb⟩
  · have := calls_wins (β := fun i => if i = 1 then (B, 0) else (B', 0)) hg (hww off cap off' cap' h1 h2 g1 g2) (by rw [ha, ren_win (β := fun i => if i = 1 then (B, 0) else (B', 0)) (i := 1) rfl h2, ren_win (β := fun i => if i = 1 then (B, 0) else (B', 0)) (i := 2) rfl g2]) (lie_2 (lie_win rfl (cwx_plain _ _) h3) (lie_win rfl (cwx_plain _ _) g3))
    refine this.mono ?_
    rintro e w' ⟨β', _, rfl, _, hb⟩
    exact ⟨by simp only [Res.out, ren_plain β' hv], hb⟩
theorem sem2_calls {args : Value → Value → Array Value} {M : List Int} (h : Sem2 P f args L M v) (ha : ∀ β s s', renA β (args s s') = args (ren β s) (ren β s')) (hv : wfV noB v = true) {H : Hp} {s s' : Value}
    (hs : ∀ β w, Rel (rng β H) w β H w → LieL w (ren β s) L ∧ LieL w (ren β s') M) : CallsV P (.func f) (args s s') H (rt v) H := by
  intro β w hR
  simp only [ha]
  refine (h w _ _ hR.kp.glw (hs β w hR).1 (hs β w hR).2).mono ?_
  rintro e w' ⟨rfl, hb⟩
  exact ⟨β, fun _ _ => rfl, by simp only [Res.out, ren_plain β hv], hR.below hb⟩
/-- A new block, of a call that left all else. -/
theorem Rel.fresh {A : Nat → Prop} {w0 : World} {β : Num} {H : Hp} {w w' : World} (h : Rel A w0 β H w) (hb : Below w.heap.size w w') {n : Nat} (hn : domB H n = false) {o : Obj} {B cap : Nat} (ho : wfO (domB H) o = true) (hB : w.heap.size ≤ B) (hx : LiesO β cap o w'.heap[B]?) (hno : winO o = false) :
    Rel A w0 (upd1 β n (B, cap)) (hput H n o) w' := by
  have hag : ∀ i, domB H i = true → upd1 β n (B, cap) i = β i := fun i hi => upd1_ne (fun e => by rw [e, hn] at hi; cases hi)
  have hdom : ∀ i, liveB (hput H n o) i = true → i = n ∨ liveB H i = true := fun i hi => by
    rw [liveB_hput] at hi
    by_cases e : i = n
    · exact .inl e
    · rw [if_neg e] at hi; exact .inr hi
  have h' := h.below hb
  refine ⟨fun i x hx' => ?_, fun i j hi hj hwi e => ?_, fun i hi => ?_, fun i hi => ?_, fun i x hx' => ?_, h'.kp⟩
  · rw [look_hput] at hx'
    by_cases hi : i = n
    · subst hi
      rw [if_pos rfl] at hx'
      simp only [Option.some.injEq] at hx'
      subst hx'
      rw [upd1_self]
      exact liesO_congr (fun j hj => (hag j hj).symm) ho hx
    · rw [if_neg hi] at hx'
      rw [hag i (domB_of hx')]
      exact liesO_congr (fun j hj => (hag j hj).symm) (h.wf i x hx') (h'.lies i x hx')
  · rcases hdom i hi with hi' | hi' <;> rcases hdom j hj with hj' | hj'
    · rw [hi', hj']
    · rw [hi', upd1_self, hag j (liveB_dom hj')] at e
      have := h.lt hj'
      simp only at e
      omega
    · rw [hj', upd1_self, hag i (liveB_dom hi')] at e
      have := h.lt hi'
      simp only at e
      omega
    · rw [hag i (liveB_dom hi'), hag j (liveB_dom hj')] at e
      rw [winB_hput, if_neg (fun e2 => by rw [e2] at hi'; rw [liveB_dom hi'] at hn; cases hn)] at hwi
      exact h.inj i j hi' hj' hwi e
  · rcases hdom i hi with hi' | hi'
    · rw [hi', upd1_self]; exact .inr (Nat.le_trans h.kp.size hB)
    · rw [hag i (liveB_dom hi')]; exact h.own i hi'
  · by_cases hin : i = n
    · subst hin
      rw [winB_hput, if_pos rfl, hno, upd1_self]
      have := h.kp.size
      exact ⟨fun hh => (by cases hh), fun hh => absurd hh.1 (by show ¬ B < _; omega)⟩
    · rcases hdom i hi with hi' | hi'
      · exact absurd hi' hin
      · rw [winB_hput, if_neg hin, hag i (liveB_dom hi')]; exact h.win i hi'
  · rw [look_hput] at hx'
    refine wfO_mono (p := domB H) (fun j hj => by rw [domB_hput, hj, Bool.or_true]) ?_
    by_cases hi : i = n
    · rw [if_pos hi] at hx'
      simp only [Option.some.injEq] at hx'
      subst hx'
      exact ho
    · rw [if_neg hi] at hx'
      exact h.wf i x hx'
theorem look_cons_hput {H : Hp} {k : Nat} {o : Obj} (hk : domB H k = false) (i : Nat) : look ((k, o) :: H) i = look (hput H k o) i := by
  rw [look_hput]
  simp only [look]
  by_cases h : k = i
  · rw [if_pos h, if_pos h.symm]
  · rw [if_neg h, if_neg (fun e => h e.symm)]
theorem new1_calls {mk : Value → Value} {R : List Int} (h : New1 P f args L mk R) (ha : ∀ β s, renA β (args s) = args (ren β s)) (hm : ∀ β s, ren β (mk s) = mk (ren β s)) {H : Hp} {s : Value} {k : Nat} (hk : domB H k = false)
    (hs : ∀ β w, Rel (rng β H) w β H w → LieL w (ren β s) L) : CallsV P (.func f) (args s) H (rt (mk (slw k 0 R.length capU))) ((k, .chan 1 ⟨R.flatMap fl1⟩ false 3 0 false) :: H) := by
  intro β w hR
  simp only [ha]
  refine (h w _ hR.kp.glw (hs β w hR)).mono ?_
  rintro e w' ⟨B, cap, rfl, hB, ho, hb⟩
  have hcm : cap ≤ maxLen := by obtain ⟨_, _, h2, _⟩ := ho; exact h2
  have hF := hR.fresh hb hk (o := .chan 1 ⟨R.flatMap fl1⟩ false 3 0 false) (cap := cap) rfl hB ⟨fun _ => ho, fun h => (by cases h), fl1_plain R⟩ rfl
  have hag : ∀ i, domB H i = true → upd1 β k (B, cap) i = β i := fun i hi => upd1_ne (fun e => by rw [e, hk] at hi; cases hi)
  refine ⟨upd1 β k (B, cap), hag, ?_, hF.congr (fun _ _ => rfl) (look_cons_hput hk)⟩
  simp only [Res.out, hm, ren, renP, upd1_self, capR, if_true, shf0 (x := (B, cap)) (le_capU hcm), Nat.add_zero]
/-- .. out of a run of letters. -/
theorem new1_of {mk : Value → Value} {R : List Int} {k cc : Nat} {o : Obj} (ha : ∀ β s, renA β (args s) = args (ren β s)) (hm : ∀ β s, ren β (mk s) = mk (ren β s)) (hL : L ≠ [])
    (ho : (o = gib R ∧ cc = capU) ∨ (o = .cells ⟨R.flatMap fl1⟩ 3 (0, 0) ∧ cc = R.length ∧ R.length ≤ maxLen)) (hk : k ≠ 1)
    (h : ∀ cap, L.length ≤ cap → cap ≤ maxLen → CallsV P (.func f) (args (slw 1 0 L.length cap)) [(1, wib L)] (rt (mk (slw k 0 R.length cc))) [(k, o), (1, wib L)]) : New1 P f args L mk R := by
  intro w s hg hs
  rcases hs with ⟨rfl, e⟩ | ⟨B, off, cap, rfl, h1, h2, h3⟩
  · exact absurd e hL
  have := calls_wins (β := fun _ => (B, capU + off)) hg (h cap h1 h2) (by rw [ha, ren_seen (β := fun _ => (B, capU + off)) (i := 1) rfl h2]) (lie_1 (lie_seen rfl (fl1_plain L) (seen_of_win h3)))
  refine this.mono ?_
  rintro e w' ⟨β', hb', rfl, hR, hb⟩
  have lk1 : look [(k, o), (1, wib L)] 1 = some (wib L) := by simp [look, hk]
  have lkk : look [(k, o), (1, wib L)] k = some o := by simp [look]
  have hno : winO o = false ∧ isLive o = true := by rcases ho with ⟨rfl, _⟩ | ⟨rfl, _⟩ <;> exact ⟨rfl, rfl⟩
  have hge : w.heap.size ≤ (β' k).1 := by
    rcases hR.own k (liveB_of lkk hno.2) with h4 | h4
    · exfalso
      obtain ⟨j, hj, e⟩ := rng_own.1 h4
      have hj1 : j = 1 := by
        unfold liveB at hj
        simp only [look] at hj
        split at hj
        · rename_i o' ho'
          split at ho'
          · rename_i e1; exact e1.symm
          · cases ho'
        · cases hj
      subst hj1
      have e2 : (β' k).1 = (β' 1).1 := by rw [hb' 1 rfl]; exact e.symm
      exact hk (hR.inj k 1 (liveB_of lkk hno.2) (liveB_of lk1 rfl) (winB_of lkk hno.1) e2)
    · exact h4
  have hl := hR.lies k o lkk
  have hpl : renA β' ⟨R.flatMap fl1⟩ = ⟨R.flatMap fl1⟩ := renA_plain _ (show wfA noB ⟨R.flatMap fl1⟩ = true from fl1_plain R)
  rcases ho with ⟨rfl, rfl⟩ | ⟨rfl, rfl, hmax⟩
  · have h5 := hl.2.1 rfl
    rw [hpl] at h5
    have hcm : (β' k).2 ≤ maxLen := by obtain ⟨_, _, h2, _⟩ := h5; exact h2
    exact ⟨(β' k).1, (β' k).2, by simp only [Res.out, hm, ren, renP, capR, if_true, shf0 (le_capU hcm), Nat.add_zero], hge, h5, hb⟩
  · obtain ⟨h6, h5⟩ := hl.1 rfl
    rw [hpl] at h5
    refine ⟨(β' k).1, R.length, by simp only [Res.out, hm, ren, renP, shf0 h6, Nat.add_zero, capR_ne (x := β' k) (cap_ne hmax)], hge, ⟨_, h5, hmax, ?_, Nat.le_refl _, ?_⟩, hb⟩
    · simp only [List.size_toArray, fl1_len, Nat.mul_one]
    · rw [← Array.length_toList]; exact List.take_length
/-- .. out of a run over a window that is not looked into. -/
theorem new1_ofw {mk : Value → Value} {R : List Int} {k : Nat} (ha : ∀ β s, renA β (args s) = args (ren β s)) (hm : ∀ β s, ren β (mk s) = mk (ren β s)) (hL : L ≠ [])
    (hk : k ≠ 1)
    (h : ∀ off cap, L.length ≤ cap → cap ≤ maxLen → CallsV P (.func f) (args (slw 1 off L.length cap)) [(1, win off (cwx fl1 off L))] (rt (mk (slw k 0 R.length capU))) [(k, .chan 1 ⟨R.flatMap fl1⟩ false 3 0 false), (1, win off (cwx fl1 off L))]) : New1 P f args L mk R := by
  intro w s hg hs
  rcases hs with ⟨rfl, e⟩ | ⟨B, off, cap, rfl, h1, h2, h3⟩
  · exact absurd e hL
  have := calls_wins (β := fun _ => (B, 0)) hg (h off cap h1 h2) (by rw [ha, ren_win (β := fun _ => (B, 0)) (i := 1) rfl h2]) (lie_1 (lie_win rfl (cwx_plain _ _) h3))
  refine this.mono ?_
  rintro e w' ⟨β', hb', rfl, hR, hb⟩
  have lk1 : look [(k, .chan 1 ⟨R.flatMap fl1⟩ false 3 0 false), (1, win off (cwx fl1 off L))] 1 = some (win off (cwx fl1 off L)) := by simp [look, hk]
  have lkk : look [(k, .chan 1 ⟨R.flatMap fl1⟩ false 3 0 false), (1, win off (cwx fl1 off L))] k = some (.chan 1 ⟨R.flatMap fl1⟩ false 3 0 false) := by simp [look]
  have hno : winO (.chan 1 ⟨R.flatMap fl1⟩ false 3 0 false) = false ∧ isLive (.chan 1 ⟨R.flatMap fl1⟩ false 3 0 false) = true := ⟨rfl, rfl⟩
  have hge : w.heap.size ≤ (β' k).1 := by
    rcases hR.own k (liveB_of lkk hno.2) with h4 | h4
    · exfalso
      obtain ⟨j, hj, e⟩ := rng_own.1 h4
      have hj1 : j = 1 := by
        unfold liveB at hj
        simp only [look] at hj
        split at hj
        · rename_i o' ho'
          split at ho'
          · rename_i e1; exact e1.symm
          · cases ho'
        · cases hj
      subst hj1
      have e2 : (β' k).1 = (β' 1).1 := by rw [hb' 1 rfl]; exact e.symm
      exact hk (hR.inj k 1 (liveB_of lkk hno.2) (liveB_of lk1 rfl) (winB_of lkk hno.1) e2)
    · exact h4
  have h5 := (hR.lies k _ lkk).1 rfl
  have hcm : (β' k).2 ≤ maxLen := by obtain ⟨_, _, h2, _⟩ := h5; exact h2
  exact ⟨(β' k).1, (β' k).2, by simp only [Res.out, hm, ren, renP, capR, if_true, shf0 (le_capU hcm), Nat.add_zero], hge, h5, hb⟩
/-- The same blocks in another order. -/
theorem callsV_perm {f : Nat} {args : Array Value} {H H' G : Hp} {r : Res} (h : CallsV P (.func f) args H r H') (hl : ∀ i, look G i = look H' i) : CallsV P (.func f) args H r G := by
  intro β w hR
  refine (h β w hR).mono ?_
  rintro e w' ⟨β', hb, rfl, hR'⟩
  exact ⟨β', hb, rfl, hR'.congr (fun _ _ => rfl) hl⟩
end
end Go.Proofs.Ytpllklojcjhjaaa

/- Lists of whatever plain elements, wherever they lie: what a call answers of one, or of two, and what it makes of them. -/
namespace Go.Proofs.Ytpllklojcjhjaaa
open Go Go.RowKit
set_option linter.unusedSimpArgs false
set_option linter.unusedVariables false
attribute [local irreducible] shf

/-- A kind of elements: their cells, how many, their type. -/
structure Kd (α : Type) where
  fl : α → List Value
  σ : Nat
  T : TypeId
  pos : 0 < σ
  len : ∀ x, (fl x).length = σ
  pl : ∀ x, wfL noB (fl x) = true
variable {α α2 α3 : Type}
theorem Kd.size (K : Kd α) (L : List α) : (L.flatMap K.fl).length = L.length * K.σ := by
  induction L with
  | nil => simp
  | cons x r ih => rw [List.flatMap_cons, List.length_append, ih, K.len, List.length_cons, Nat.add_mul]; omega
theorem Kd.plain (K : Kd α) (L : List α) : wfL noB (L.flatMap K.fl) = true := by
  rw [wfL_all]
  intro v hv
  obtain ⟨x, -, hx⟩ := List.mem_flatMap.1 hv
  exact (wfL_all _ _).1 (K.pl x) v hx
theorem Kd.cplain (K : Kd α) (off : Nat) (L : List α) : wfA noB (cwx K.fl off L) = true := by
  show wfL noB (List.replicate off ud ++ L.flatMap K.fl) = true
  rw [wfL_all]
  intro v h
  rcases List.mem_append.1 h with h | h
  · rw [(List.mem_replicate.1 h).2]; rfl
  · exact (wfL_all _ _).1 (K.plain L) v h
/-- As a block of ours that may grow; as one that is not looked into; as a window whose cells are told. -/
def Kd.own (K : Kd α) (L : List α) : Obj := .cells ⟨L.flatMap K.fl⟩ K.T (1, K.σ)
def Kd.opq (K : Kd α) (L : List α) : Obj := .chan K.σ ⟨L.flatMap K.fl⟩ false K.T 0 false
def Kd.seen (K : Kd α) (L : List α) : Obj := .cells ⟨L.flatMap K.fl⟩ K.T (2, 0)
def Kd.win (K : Kd α) (off : Nat) (L : List α) : Obj := Go.Proofs.Ytpllklojcjhjaaa.win off (cwx K.fl off L)
/-- A list lies in the world. -/
def LieK (K : Kd α) (w : World) (v : Value) (L : List α) : Prop :=
  (v = sl0 ∧ L = []) ∨ ∃ B off cap, v = slw B off L.length cap ∧ L.length ≤ cap ∧ cap ≤ maxLen ∧ WinAt off (cwx K.fl off L) w.heap[B]?
theorem LieK.below {K : Kd α} {w w' : World} {v : Value} {L : List α} (h : LieK K w v L) (hb : Below w.heap.size w w') : LieK K w' v L := by
  rcases h with h | ⟨B, off, cap, e, h1, h2, h3⟩
  · exact .inl h
  · refine .inr ⟨B, off, cap, e, h1, h2, ?_⟩
    obtain ⟨cur, T, fr, h4, h5⟩ := h3
    rw [hb.block B (Array.getElem?_eq_some_iff.1 h4).1]
    exact ⟨cur, T, fr, h4, h5⟩
section
variable {K : Kd α} {A : Nat → Prop} {w0 : World} {β : Num} {H : Hp} {w : World} {L : List α} {k off cap : Nat}
theorem lk_nil : LieK K w (ren β sl0) [] := .inl ⟨rfl, rfl⟩
theorem lk_win (hR : Rel A w0 β H w) (hk : look H k = some (K.win off L)) (hl : L.length ≤ cap) (hc : cap ≤ maxLen) : LieK K w (ren β (slw k off L.length cap)) L := by
  obtain ⟨h1, h2⟩ := (hR.lies k _ hk).2.1 rfl
  exact .inr ⟨(β k).1, off, cap, by simp only [ren, renP, shf0 h1, Nat.add_zero, capR_ne (x := β k) (cap_ne hc)], hl, hc, h2⟩
theorem lk_seen (hR : Rel A w0 β H w) (hk : look H k = some (K.seen L)) (hl : L.length ≤ cap) (hc : cap ≤ maxLen) : LieK K w (ren β (slw k 0 L.length cap)) L := by
  obtain ⟨cur, T, fr, h1, h2⟩ := (hR.lies k _ hk).2.2 (by simp) (by simp)
  refine .inr ⟨(β k).1, shf (β k), cap, by simp only [ren, renP, Nat.zero_add, capR_ne (x := β k) (cap_ne hc)], hl, hc, cur, T, fr, h1, fun j v hj hv => ?_⟩
  rw [cwx_at hj] at hv
  have := h2 (j - shf (β k)) v (by rw [renA_plain _ (show wfA noB ⟨L.flatMap K.fl⟩ = true from K.plain L)]; simpa using hv)
  rw [← shf_eq, Nat.sub_add_cancel hj] at this
  exact this
theorem lk_open {cap' : Nat} {T : TypeId} {x : Option Obj} (h : OpenAt cap' K.σ T ⟨L.flatMap K.fl⟩ x) : L.length ≤ cap' ∧ cap' ≤ maxLen ∧ WinAt 0 (cwx K.fl 0 L) x := by
  obtain ⟨cur, h1, h2, h3, h4, h5⟩ := h
  have hsz : (Array.mk (L.flatMap K.fl)).size = L.length * K.σ := by simp only [List.size_toArray]; exact K.size L
  rw [hsz] at h4 h5
  have h5 : cur.toList.take (L.length * K.σ) = L.flatMap K.fl := h5
  refine ⟨Nat.le_of_mul_le_mul_right (h3 ▸ h4) K.pos, h2, cur, _, _, h1, fun j v hj hv => ?_⟩
  rw [cwx_at hj, Nat.sub_zero, ← h5, List.getElem?_take] at hv
  split at hv
  · simpa using hv
  · cases hv
theorem lk_opq (hR : Rel A w0 β H w) (hk : look H k = some (K.opq L)) : LieK K w (ren β (slw k 0 L.length capU)) L := by
  obtain ⟨h1, h2, h3⟩ := lk_open ((hR.lies k _ hk).1 rfl)
  exact .inr ⟨(β k).1, 0, (β k).2, by simp only [ren, renP, shf0 (le_capU h2), Nat.add_zero, capR, if_true], h1, h2, h3⟩
theorem lk_own (hR : Rel A w0 β H w) (hk : look H k = some (K.own L)) : LieK K w (ren β (slw k 0 L.length capU)) L := by
  have h := (hR.lies k _ hk).2.1 rfl
  rw [renA_plain _ (show wfA noB ⟨L.flatMap K.fl⟩ = true from K.plain L)] at h
  obtain ⟨h1, h2, h3⟩ := lk_open h
  exact .inr ⟨(β k).1, 0, (β k).2, by simp only [ren, renP, shf0 (le_capU h2), Nat.add_zero, capR, if_true], h1, h2, h3⟩
end
/-- A list that a call is handed: its value, its block (told, or not looked into). -/
def Kd.val (K : Kd α) (sn : Bool) (k off : Nat) (L : List α) (cap : Nat) : Value := slw k (if sn then 0 else off) L.length cap
def Kd.ob (K : Kd α) (sn : Bool) (off : Nat) (L : List α) : Obj := if sn then K.seen L else K.win off L
def Kd.nm (sn : Bool) (B off : Nat) : Nat × Nat := if sn then (B, capU + off) else (B, 0)
theorem Kd.lie (K : Kd α) {sn : Bool} {β : Num} {w : World} {i B off : Nat} {L : List α} (e : β i = Kd.nm sn B off) (hw : WinAt off (cwx K.fl off L) w.heap[B]?) : Lie β w i (K.ob sn off L) := by
  cases sn with
  | true => exact lie_seen e (K.plain L) (seen_of_win hw)
  | false => exact lie_win e (K.cplain _ _) hw
theorem Kd.ren (K : Kd α) {sn : Bool} {β : Num} {i B off cap : Nat} {L : List α} (e : β i = Kd.nm sn B off) (hc : cap ≤ maxLen) : Go.Proofs.Ytpllklojcjhjaaa.ren β (K.val sn i off L cap) = slw B off L.length cap := by
  cases sn with
  | true => exact ren_seen e hc
  | false => exact ren_win e hc
/-- The answer, wherever the list lies; of two lists. -/
def SemA (K : Kd α) (P : Program) (f : Nat) (args : Value → Array Value) (L : List α) (v : Value) : Prop :=
  ∀ w s, GL w → LieK K w s L → Calls P f (args s) w fun e w' => e = .returned v ∧ Below w.heap.size w w'
def SemB (K : Kd α) (K2 : Kd α2) (P : Program) (f : Nat) (args : Value → Value → Array Value) (L : List α) (M : List α2) (v : Value) : Prop :=
  ∀ w s s', GL w → LieK K w s L → LieK K2 w s' M → Calls P f (args s s') w fun e w' => e = .returned v ∧ Below w.heap.size w w'
/-- A new list in the answer. -/
def NewA (K : Kd α) (P : Program) (f : Nat) (args : Value → Array Value) (L : List α) (K3 : Kd α3) (mk : Value → Value) (R : List α3) : Prop :=
  ∀ w s, GL w → LieK K w s L → Calls P f (args s) w fun e w' => ∃ B cap, e = .returned (mk (slw B 0 R.length cap)) ∧ w.heap.size ≤ B ∧ OpenAt cap K3.σ K3.T ⟨R.flatMap K3.fl⟩ w'.heap[B]? ∧ Below w.heap.size w w'
def NewB (K : Kd α) (K2 : Kd α2) (P : Program) (f : Nat) (args : Value → Value → Array Value) (L : List α) (M : List α2) (K3 : Kd α3) (mk : Value → Value) (R : List α3) : Prop :=
  ∀ w s s', GL w → LieK K w s L → LieK K2 w s' M → Calls P f (args s s') w fun e w' => ∃ B cap, e = .returned (mk (slw B 0 R.length cap)) ∧ w.heap.size ≤ B ∧ OpenAt cap K3.σ K3.T ⟨R.flatMap K3.fl⟩ w'.heap[B]? ∧ Below w.heap.size w w'
section
variable {K : Kd α} {K2 : Kd α2} {K3 : Kd α3} {P : Program} {f : Nat} {args : Value → Array Value} {args2 : Value → Value → Array Value} {L : List α} {M : List α2} {R : List α3} {v : Value} {mk : Value → Value}
/-- .. out of runs of letters. -/
theorem semA_mk (sn : Bool) (ha : ∀ β s, renA β (args s) = args (ren β s)) (hv : wfV noB v = true) (hnil : L = [] → PureX P f (args sl0) (rt v))
    (h : ∀ off cap, L.length ≤ cap → cap ≤ maxLen → CallsV P (.func f) (args (K.val sn 1 off L cap)) [(1, K.ob sn off L)] (rt v) [(1, K.ob sn off L)]) : SemA K P f args L v := by
  intro w s hg hs
  rcases hs with ⟨rfl, hL⟩ | ⟨B, off, cap, rfl, h1, h2, h3⟩
  · exact pure_calls (args' := #[]) (hnil hL) hv w hg
  · have := calls_wins (β := fun _ => Kd.nm sn B off) hg (h off cap h1 h2) (by rw [ha, K.ren (sn := sn) (β := fun _ => Kd.nm sn B off) (i := 1) (B := B) (off := off) (L := L) rfl h2]) (lie_1 (K.lie rfl h3))
    refine this.mono ?_
    rintro e w' ⟨β', _, rfl, _, hb⟩
    exact ⟨by simp only [Res.out, ren_plain β' hv], hb⟩
theorem semB_mk (sn sn2 : Bool) (ha : ∀ β s s', renA β (args2 s s') = args2 (ren β s) (ren β s')) (hv : wfV noB v = true)
    (hnn : L = [] → M = [] → PureX P f (args2 sl0 sl0) (rt v))
    (hnw : L = [] → ∀ off cap, M.length ≤ cap → cap ≤ maxLen → CallsV P (.func f) (args2 sl0 (K2.val sn2 2 off M cap)) [(2, K2.ob sn2 off M)] (rt v) [(2, K2.ob sn2 off M)])
    (hwn : M = [] → ∀ off cap, L.length ≤ cap → cap ≤ maxLen → CallsV P (.func f) (args2 (K.val sn 1 off L cap) sl0) [(1, K.ob sn off L)] (rt v) [(1, K.ob sn off L)])
    (hww : ∀ off cap off' cap', L.length ≤ cap → cap ≤ maxLen → M.length ≤ cap' → cap' ≤ maxLen → CallsV P (.func f) (args2 (K.val sn 1 off L cap) (K2.val sn2 2 off' M cap')) [(1, K.ob sn off L), (2, K2.ob sn2 off' M)] (rt v) [(1, K.ob sn off L), (2, K2.ob sn2 off' M)]) : SemB K K2 P f args2 L M v := by
  intro w s s' hg hs hs'
  rcases hs with ⟨rfl, hL⟩ | ⟨B, off, cap, rfl, h1, h2, h3⟩ <;> rcases hs' with ⟨rfl, hM⟩ | ⟨B', off', cap', rfl, g1, g2, g3⟩
  · exact pure_calls (args' := #[]) (hnn hL hM) hv w hg
  · have := calls_wins (β := fun _ => Kd.nm sn2 B' off') hg (hnw hL off' cap' g1 g2) (by rw [ha, K2.ren (sn := sn2) (β := fun _ => Kd.nm sn2 B' off') (i := 2) (B := B') (off := off') (L := M) rfl g2]) (lie_1 (K2.lie rfl g3))
    refine this.mono ?_
    rintro e w' ⟨β', _, rfl, _, hb⟩
    exact ⟨by simp only [Res.out, ren_plain β' hv], hb⟩
  · have := calls_wins (β := fun _ => Kd.nm sn B off) hg (hwn hM off cap h1 h2) (by rw [ha, K.ren (sn := sn) (β := fun _ => Kd.nm sn B off) (i := 1) (B := B) (off := off) (L := L) rfl h2]) (lie_1 (K.lie rfl h3))
    refine this.mono ?_
    rintro e w' ⟨β', _, rfl, _, hb⟩
    exact ⟨by simp only [Res.out, ren_plain β' hv], hb⟩
  · have := calls_wins (β := fun i => if i = 1 then Kd.nm sn B off else Kd.nm sn2 B' off') hg (hww off cap off' cap' h1 h2 g1 g2) (by rw [ha, K.ren (sn := sn) (β := fun i => if i = 1 then Kd.nm sn B off else Kd.nm sn2 B' off') (i := 1) (B := B) (off := off) (L := L) rfl h2, K2.ren (sn := sn2) (β := fun i => if i = 1 then Kd.nm sn B off else Kd.nm sn2 B' off') (i := 2) (B := B') (off := off') (L := M) rfl g2]) (lie_2 (K.lie rfl h3) (K2.lie rfl g3))
    refine this.mono ?_
    rintro e w' ⟨β', _, rfl, _, hb⟩
    exact ⟨by simp only [Res.out, ren_plain β' hv], hb⟩
/-- Neither list is empty. -/
theorem semB_ww (sn sn2 : Bool) (hL : L ≠ []) (hM : M ≠ []) (ha : ∀ β s s', renA β (args2 s s') = args2 (ren β s) (ren β s')) (hv : wfV noB v = true)
    (hww : ∀ off cap off' cap', L.length ≤ cap → cap ≤ maxLen → M.length ≤ cap' → cap' ≤ maxLen → CallsV P (.func f) (args2 (K.val sn 1 off L cap) (K2.val sn2 2 off' M cap')) [(1, K.ob sn off L), (2, K2.ob sn2 off' M)] (rt v) [(1, K.ob sn off L), (2, K2.ob sn2 off' M)]) : SemB K K2 P f args2 L M v :=
  semB_mk sn sn2 ha hv (fun h => absurd h hL) (fun h => absurd h hL) (fun h => absurd h hM) hww
theorem semA_calls (h : SemA K P f args L v) (ha : ∀ β s, renA β (args s) = args (ren β s)) (hv : wfV noB v = true) {H : Hp} {s : Value}
    (hs : ∀ β w, Rel (rng β H) w β H w → LieK K w (ren β s) L) : CallsV P (.func f) (args s) H (rt v) H := by
  intro β w hR
  simp only [ha]
  refine (h w _ hR.kp.glw (hs β w hR)).mono ?_
  rintro e w' ⟨rfl, hb⟩
  exact ⟨β, fun _ _ => rfl, by simp only [Res.out, ren_plain β hv], hR.below hb⟩
theorem semB_calls (h : SemB K K2 P f args2 L M v) (ha : ∀ β s s', renA β (args2 s s') = args2 (ren β s) (ren β s')) (hv : wfV noB v = true) {H : Hp} {s s' : Value}
    (hs : ∀ β w, Rel (rng β H) w β H w → LieK K w (ren β s) L ∧ LieK K2 w (ren β s') M) : CallsV P (.func f) (args2 s s') H (rt v) H := by
  intro β w hR
  simp only [ha]
  refine (h w _ _ hR.kp.glw (hs β w hR).1 (hs β w hR).2).mono ?_
  rintro e w' ⟨rfl, hb⟩
  exact ⟨β, fun _ _ => rfl, by simp only [Res.out, ren_plain β hv], hR.below hb⟩
/-- A new list's block, told or not looked into. -/
def Kd.nob (K : Kd α) (q : Bool) (R : List α) : Obj := if q then K.own R else K.opq R
theorem new_core {w : World} {β : Num} {H : Hp} (hR : Rel (rng β H) w β H w) (q : Bool) (hm : ∀ β s, ren β (mk s) = mk (ren β s)) {k : Nat} (hk : domB H k = false) {e : Ending} {w' : World}
    (h : ∃ B cap, e = .returned (mk (slw B 0 R.length cap)) ∧ w.heap.size ≤ B ∧ OpenAt cap K3.σ K3.T ⟨R.flatMap K3.fl⟩ w'.heap[B]? ∧ Below w.heap.size w w') :
    ∃ β', (∀ i, domB H i = true → β' i = β i) ∧ e = (rt (mk (slw k 0 R.length capU))).out β' ∧ Rel (rng β H) w β' ((k, K3.nob q R) :: H) w' := by
  obtain ⟨B, cap, rfl, hB, ho, hb⟩ := h
  have hcm : cap ≤ maxLen := by obtain ⟨_, _, h2, _⟩ := ho; exact h2
  have hwf : wfO (domB H) (K3.nob q R) = true := by
    cases q with
    | true =>
      simp only [Kd.nob, Kd.own, if_true, wfO, Bool.and_eq_true]
      exact ⟨wfA_mono (p := noB) (fun _ h => (by cases h)) _ (K3.plain R), by simp⟩
    | false => rfl
  have hli : LiesO β cap (K3.nob q R) w'.heap[B]? := by
    cases q with
    | true =>
      refine ⟨fun h => (by cases h), fun _ => ?_, fun _ h => absurd rfl h⟩
      rw [renA_plain _ (show wfA noB ⟨R.flatMap K3.fl⟩ = true from K3.plain R)]
      exact ho
    | false => exact ⟨fun _ => ho, fun h => (by cases h), K3.plain R⟩
  have hF := hR.fresh hb hk (o := K3.nob q R) (cap := cap) hwf hB hli (by cases q <;> rfl)
  have hag : ∀ i, domB H i = true → upd1 β k (B, cap) i = β i := fun i hi => upd1_ne (fun e => by rw [e, hk] at hi; cases hi)
  refine ⟨upd1 β k (B, cap), hag, ?_, hF.congr (fun _ _ => rfl) (look_cons_hput hk)⟩
  simp only [Res.out, hm, ren, renP, upd1_self, capR, if_true, shf0 (x := (B, cap)) (le_capU hcm), Nat.add_zero]
theorem newA_calls (h : NewA K P f args L K3 mk R) (q : Bool) (ha : ∀ β s, renA β (args s) = args (ren β s)) (hm : ∀ β s, ren β (mk s) = mk (ren β s)) {H : Hp} {s : Value} {k : Nat} (hk : domB H k = false)
    (hs : ∀ β w, Rel (rng β H) w β H w → LieK K w (ren β s) L) : CallsV P (.func f) (args s) H (rt (mk (slw k 0 R.length capU))) ((k, K3.nob q R) :: H) := by
  intro β w hR
  simp only [ha]
  exact (h w _ hR.kp.glw (hs β w hR)).mono fun e w' hh => new_core hR q hm hk hh
theorem newB_calls (h : NewB K K2 P f args2 L M K3 mk R) (q : Bool) (ha : ∀ β s s', renA β (args2 s s') = args2 (ren β s) (ren β s')) (hm : ∀ β s, ren β (mk s) = mk (ren β s)) {H : Hp} {s s' : Value} {k : Nat} (hk : domB H k = false)
    (hs : ∀ β w, Rel (rng β H) w β H w → LieK K w (ren β s) L ∧ LieK K2 w (ren β s') M) : CallsV P (.func f) (args2 s s') H (rt (mk (slw k 0 R.length capU))) ((k, K3.nob q R) :: H) := by
  intro β w hR
  simp only [ha]
  exact (h w _ _ hR.kp.glw (hs β w hR).1 (hs β w hR).2).mono fun e w' hh => new_core hR q hm hk hh
/-- What a run of letters that makes a new block says of the world. -/
theorem new_of {A : Nat → Prop} {β : Num} {H H' : Hp} {w w' : World} {e : Ending} {k cc : Nat} {o : Obj} (hm : ∀ β s, ren β (mk s) = mk (ren β s)) (hA : ∀ i, A i → ∃ j, liveB H j = true ∧ (2 * (β j).1 = i ∨ 2 * (β j).1 + 1 = i)) 
    (ho : (o = K3.own R ∧ cc = capU) ∨ (o = K3.opq R ∧ cc = capU) ∨ (o = .cells ⟨R.flatMap K3.fl⟩ K3.T (0, 0) ∧ cc = R.length ∧ R.length ≤ maxLen)) (hk : liveB H k = false)
    (h : ∃ β', (∀ i, domB H i = true → β' i = β i) ∧ e = (rt (mk (slw k 0 R.length cc))).out β' ∧ Rel A w β' H' w' ∧ Below w.heap.size w w') (hlive : ∀ j, liveB H j = true → liveB H' j = true) (hd : ∀ j, liveB H j = true → domB H j = true) (hkk : look H' k = some o) :
    ∃ B cap, e = .returned (mk (slw B 0 R.length cap)) ∧ w.heap.size ≤ B ∧ OpenAt cap K3.σ K3.T ⟨R.flatMap K3.fl⟩ w'.heap[B]? ∧ Below w.heap.size w w' := by
  obtain ⟨β', hb', rfl, hR, hb⟩ := h
  have hno : winO o = false ∧ isLive o = true := by rcases ho with ⟨rfl, _⟩ | ⟨rfl, _⟩ | ⟨rfl, _⟩ <;> exact ⟨rfl, rfl⟩
  have hge : w.heap.size ≤ (β' k).1 := by
    rcases hR.own k (liveB_of hkk hno.2) with h4 | h4
    · exfalso
      obtain ⟨j, hj, e⟩ := hA _ h4
      have e2 : (β' k).1 = (β' j).1 := by
        rw [hb' j (hd j hj)]
        omega
      have := hR.inj k j (liveB_of hkk hno.2) (hlive j hj) (winB_of hkk hno.1) e2
      rw [this, hj] at hk
      cases hk
    · exact h4
  have hl := hR.lies k o hkk
  have hpl : renA β' ⟨R.flatMap K3.fl⟩ = ⟨R.flatMap K3.fl⟩ := renA_plain _ (show wfA noB ⟨R.flatMap K3.fl⟩ = true from K3.plain R)
  rcases ho with ⟨rfl, rfl⟩ | ⟨rfl, rfl⟩ | ⟨rfl, rfl, hmax⟩
  · have h5 := hl.2.1 rfl
    rw [hpl] at h5
    have hcm : (β' k).2 ≤ maxLen := by obtain ⟨_, _, h2, _⟩ := h5; exact h2
    exact ⟨(β' k).1, (β' k).2, by simp only [Res.out, hm, ren, renP, capR, if_true, shf0 (le_capU hcm), Nat.add_zero], hge, h5, hb⟩
  · have h5 := hl.1 rfl
    have hcm : (β' k).2 ≤ maxLen := by obtain ⟨_, _, h2, _⟩ := h5; exact h2
    exact ⟨(β' k).1, (β' k).2, by simp only [Res.out, hm, ren, renP, capR, if_true, shf0 (le_capU hcm), Nat.add_zero], hge, h5, hb⟩
  · obtain ⟨h6, h5⟩ := hl.1 rfl
    rw [hpl] at h5
    refine ⟨(β' k).1, R.length, by simp only [Res.out, hm, ren, renP, shf0 h6, Nat.add_zero, capR_ne (x := β' k) (cap_ne hmax)], hge, ⟨_, h5, hmax, ?_, Nat.le_refl _, ?_⟩, hb⟩
    · simp only [List.size_toArray]; exact K3.size R
    · rw [← Array.length_toList]; exact List.take_length
theorem rng_live {β : Num} {H : Hp} : ∀ i, rng β H i → ∃ j, liveB H j = true ∧ (2 * (β j).1 = i ∨ 2 * (β j).1 + 1 = i) := fun i ⟨j, hj, h⟩ => ⟨j, hj, h.elim .inl fun h => .inr h.2⟩
theorem live_1 {i : Nat} {o : Obj} {j : Nat} (h : liveB [(i, o)] j = true) : j = i := by
  unfold liveB at h
  simp only [look] at h
  split at h
  · rename_i o' ho
    split at ho
    · rename_i e; exact e.symm
    · cases ho
  · cases h
theorem live_2 {i i2 : Nat} {o o2 : Obj} {j : Nat} (h : liveB [(i, o), (i2, o2)] j = true) : j = i ∨ j = i2 := by
  unfold liveB at h
  simp only [look] at h
  split at h
  · rename_i o' ho
    split at ho
    · rename_i e; exact .inl e.symm
    · split at ho
      · rename_i e; exact .inr e.symm
      · cases ho
  · cases h
theorem ob_live (K : Kd α) (sn : Bool) (off : Nat) (L : List α) : isLive (K.ob sn off L) = true := by cases sn <;> rfl
theorem newA_of (sn : Bool) {k cc : Nat} {o : Obj} (ha : ∀ β s, renA β (args s) = args (ren β s)) (hm : ∀ β s, ren β (mk s) = mk (ren β s)) (hL : L ≠ [])
    (ho : (o = K3.own R ∧ cc = capU) ∨ (o = K3.opq R ∧ cc = capU) ∨ (o = .cells ⟨R.flatMap K3.fl⟩ K3.T (0, 0) ∧ cc = R.length ∧ R.length ≤ maxLen)) (hk : k ≠ 1)
    (h : ∀ off cap, L.length ≤ cap → cap ≤ maxLen → CallsV P (.func f) (args (K.val sn 1 off L cap)) [(1, K.ob sn off L)] (rt (mk (slw k 0 R.length cc))) [(k, o), (1, K.ob sn off L)]) : NewA K P f args L K3 mk R := by
  intro w s hg hs
  rcases hs with ⟨rfl, e⟩ | ⟨B, off, cap, rfl, h1, h2, h3⟩
  · exact absurd e hL
  have := calls_wins (β := fun _ => Kd.nm sn B off) hg (h off cap h1 h2) (by rw [ha, K.ren (sn := sn) (β := fun _ => Kd.nm sn B off) (i := 1) (B := B) (off := off) (L := L) rfl h2]) (lie_1 (K.lie rfl h3))
  have l1 : look [(k, o), (1, K.ob sn off L)] 1 = some (K.ob sn off L) := by simp [look, hk]
  refine this.mono fun e w' hh => new_of hm rng_live ho (Bool.eq_false_iff.2 fun hx => hk (live_1 hx)) hh (fun j hj => ?_) (fun j hj => liveB_dom hj) (by simp [look])
  rw [live_1 hj]
  exact liveB_of l1 (ob_live K sn off L)
theorem newB_of (sn sn2 : Bool) {k cc : Nat} {o : Obj} (ha : ∀ β s s', renA β (args2 s s') = args2 (ren β s) (ren β s')) (hm : ∀ β s, ren β (mk s) = mk (ren β s)) (hL : L ≠ []) (hM : M ≠ [])
    (ho : (o = K3.own R ∧ cc = capU) ∨ (o = K3.opq R ∧ cc = capU) ∨ (o = .cells ⟨R.flatMap K3.fl⟩ K3.T (0, 0) ∧ cc = R.length ∧ R.length ≤ maxLen)) (hk : k ≠ 1 ∧ k ≠ 2)
    (h : ∀ off cap off' cap', L.length ≤ cap → cap ≤ maxLen → M.length ≤ cap' → cap' ≤ maxLen → CallsV P (.func f) (args2 (K.val sn 1 off L cap) (K2.val sn2 2 off' M cap')) [(1, K.ob sn off L), (2, K2.ob sn2 off' M)] (rt (mk (slw k 0 R.length cc))) [(k, o), (1, K.ob sn off L), (2, K2.ob sn2 off' M)]) : NewB K K2 P f args2 L M K3 mk R := by
  intro w s s' hg hs hs'
  rcases hs with ⟨rfl, e⟩ | ⟨B, off, cap, rfl, h1, h2, h3⟩
  · exact absurd e hL
  rcases hs' with ⟨rfl, e⟩ | ⟨B', off', cap', rfl, g1, g2, g3⟩
  · exact absurd e hM
  have := calls_wins (β := fun i => if i = 1 then Kd.nm sn B off else Kd.nm sn2 B' off') hg (h off cap off' cap' h1 h2 g1 g2) (by rw [ha, K.ren (sn := sn) (β := fun i => if i = 1 then Kd.nm sn B off else Kd.nm sn2 B' off') (i := 1) (B := B) (off := off) (L := L) rfl h2, K2.ren (sn := sn2) (β := fun i => if i = 1 then Kd.nm sn B off else Kd.nm sn2 B' off') (i := 2) (B := B') (off := off') (L := M) rfl g2]) (lie_2 (K.lie rfl h3) (K2.lie rfl g3))
  have l1 : look [(k, o), (1, K.ob sn off L), (2, K2.ob sn2 off' M)] 1 = some (K.ob sn off L) := by simp [look, hk.1]
  have l2 : look [(k, o), (1, K.ob sn off L), (2, K2.ob sn2 off' M)] 2 = some (K2.ob sn2 off' M) := by simp [look, hk.2]
  refine this.mono fun e w' hh => new_of hm rng_live ho (Bool.eq_false_iff.2 fun hx => (live_2 hx).elim hk.1 hk.2) hh (fun j hj => ?_) (fun j hj => liveB_dom hj) (by simp [look])
  rcases live_2 hj with rfl | rfl
  · exact liveB_of l1 (ob_live K sn off L)
  · exact liveB_of l2 (ob_live K2 sn2 off' M)
theorem out_plain {e : Ending} {v : Value} (hv : wfV noB v = true) (h : e = .returned v) : e = (rt v).out idN := by
  subst h
  simp only [Res.out, ren_plain idN hv]
theorem semA_pure (h : SemA K P f args [] v) (hv : wfV noB v = true) : PureX P f (args sl0) (rt v) := fun w hg =>
  (h w sl0 hg (.inl ⟨rfl, rfl⟩)).mono fun e w' hh => ⟨out_plain hv hh.1, hh.2⟩
end
/-- Ints are one kind. -/
def KI : Kd Int := ⟨fl1, 1, 3, by decide, fun _ => rfl, fun _ => rfl⟩
theorem semA_ints {P : Program} {f : Nat} {args : Value → Array Value} {L : List Int} {v : Value} (h : Sem1 P f args L v) : SemA KI P f args L v := h
end Go.Proofs.Ytpllklojcjhjaaa

/- A function that is handed no block. -/
namespace Go.Proofs.Ytpllklojcjhjaaa
open Go Go.RowKit
set_option linter.unusedSimpArgs false
set_option linter.unusedVariables false

theorem runF_pure {P : Program} (hmix : P.follows .mixedOrders = true) {n : Nat} {keep : List Nat} {f : Nat} {args : Array Value} {orc : List (Option Bool)} {ans : List (Nat × Res)} {bls : List (Nat × Res × Hp)} {lds : List (List Value)} {r : Res} {obl : List Prop}
    (h : runF P n keep f args [] orc ans bls lds = some (r, [], obl)) (ho : AllP obl) (ha : wfA noB args = true) (hr : resOK noB r = true) : PureX P f args r := by
  intro w hg
  have := runF_calls hmix h ho ha rfl idN w (Rel.nil _ _ _ (gl_nil hg))
  have ha2 : renA idN args = args := renA_plain _ ha
  simp only [ha2] at this
  refine this.mono ?_
  rintro e w' ⟨β', _, rfl, hR⟩
  refine ⟨?_, hR.kp.below (Nat.le_refl _) ?_⟩
  · cases r with
    | ret v =>
      simp only [Res.out]
      rw [ren_plain β' hr, ren_plain _ hr]
    | pan ch => rfl
  · rintro k ⟨i, hi, _⟩
    cases hi
end Go.Proofs.Ytpllklojcjhjaaa

/- Points of three ints, as values and in blocks; small facts. -/
namespace Go.Proofs.Ytpllklojcjhjaaa
open Go Go.RowKit
set_option linter.unusedSimpArgs false
set_option linter.unusedVariables false

abbrev sl (B n : Nat) : Value := .slice (some ⟨B, 0, none⟩) n n
theorem one_inj {o : Obj} (B : Nat) : ∀ i j, domB [(0, o)] i = true → domB [(0, o)] j = true → (fun _ : Nat => B) i = (fun _ : Nat => B) j → i = j := by
  intro i j hi hj _
  have k : ∀ i, domB [(0, o)] i = true → i = 0 := fun i hi => by
    unfold domB at hi
    simp only [look] at hi
    split at hi
    · rename_i e; exact e.symm
    · cases hi
  rw [k i hi, k j hj]
def mnI (x y : Int) : Int := if y < x then y else x
def mxI (x y : Int) : Int := if x < y then y else x
abbrev wi (z : Int) : Int := IntKind.i64.wrap z
theorem wrapI {z : Int} (h : -9223372036854775808 ≤ z ∧ z < 9223372036854775808) : IntKind.i64.wrap z = z := by
  rw [IntKind.wrap_i64]
  omega
theorem tm_b {a w : Int} (hw : 0 < w) : -w < Int.tmod a w ∧ Int.tmod a w < w := by
  have h := Int.natAbs_tmod a w
  have h1 := Nat.mod_lt a.natAbs (show 0 < w.natAbs by omega)
  omega
def isJ (z : Int) : Prop := -9223372036854775808 ≤ z ∧ z ≤ 9223372036854775807
abbrev P3 := Int × Int × Int
/-- A point as a value. -/
def vc (x y z : Int) : Value := .agg ⟨[.int .i64 x, .int .i64 y, .int .i64 z]⟩
def vv (a : P3) : Value := vc a.1 a.2.1 a.2.2
/-- A block of points. -/
def ovc (l : List P3) : Obj := .cells ⟨l.flatMap fun a => [.int .i64 a.1, .int .i64 a.2.1, .int .i64 a.2.2]⟩ 40 (0, 0)
def inP (a : P3) : Prop := isJ a.1 ∧ isJ a.2.1 ∧ isJ a.2.2
end Go.Proofs.Ytpllklojcjhjaaa

/- Package vec, walked: what comes of each call, by letters. -/
namespace Go.Proofs.Ytpllklojcjhjaaa
open Go Go.RowKit
set_option linter.unusedSimpArgs false
set_option linter.unusedVariables false
set_option maxRecDepth 100000

theorem bnd_raw (x m : Int) : runB Try.prog 91 #[ii x, ii m] [] [] [] [] =
    some (rt (.int .i64 (mxI (wi (0 - m)) (mnI x m))), [], []) := by kernel_rfl
theorem wth_t (a : P3) (m p q r : Int) : runB Try.prog 67 #[vv a, ii m] [] [t, n, n, n, n, n, n, n, n, n, n, n] [(91, rt (ii p)), (91, rt (ii q)), (91, rt (ii r))] [] =
    some (rt (bb ((a.1 == p) && ((a.2.1 == q) && ((a.2.2 == r) && (true))))), [], [(decide (0 ≤ m)) = true, PureX Try.prog 91 #[ii (a.1), ii (m)] (rt (ii (p))), PureX Try.prog 91 #[ii (a.2.1), ii (m)] (rt (ii (q))), PureX Try.prog 91 #[ii (a.2.2), ii (m)] (rt (ii (r)))]) := by kernel_rfl
theorem wth_f (a : P3) (m : Int) : runB Try.prog 67 #[vv a, ii m] [] [f, n, n, n, n] [] [] =
    some (rt (bb (false)), [], [(decide (0 ≤ m)) = false]) := by kernel_rfl
theorem fine0_raw  : runB Try.prog 72 #[sl0] [] [n] [] [] =
    some (rt (bb (true)), [], []) := by kernel_rfl
theorem fine1_raw (a : P3) (p : Bool) : runB Try.prog 72 #[sl 0 1] [(0, ovc [a])] [n, f, n] [(67, rt (bb p))] [] =
    some (rt (bb (true)), [(0, ovc [a])], [PureX Try.prog 67 #[vv a, ii (536870912)] (rt (bb (p))), (!(p)) = false]) := by kernel_rfl
theorem fine1_rawf (a : P3) (p : Bool) : runB Try.prog 72 #[sl 0 1] [(0, ovc [a])] [n, t] [(67, rt (bb p))] [] =
    some (rt (bb (false)), [(0, ovc [a])], [PureX Try.prog 67 #[vv a, ii (536870912)] (rt (bb (p))), (!(p)) = true]) := by kernel_rfl
theorem fine2_raw (a b : P3) (p q : Bool) : runB Try.prog 72 #[sl 0 2] [(0, ovc [a, b])] [n, f, n, f, n] [(67, rt (bb p)), (67, rt (bb q))] [] =
    some (rt (bb (true)), [(0, ovc [a, b])], [PureX Try.prog 67 #[vv a, ii (536870912)] (rt (bb (p))), (!(p)) = false, PureX Try.prog 67 #[vv b, ii (536870912)] (rt (bb (q))), (!(q)) = false]) := by kernel_rfl
theorem fine2_rawt (a b : P3) (p q : Bool) : runB Try.prog 72 #[sl 0 2] [(0, ovc [a, b])] [n, f, n, t] [(67, rt (bb p)), (67, rt (bb q))] [] =
    some (rt (bb (false)), [(0, ovc [a, b])], [PureX Try.prog 67 #[vv a, ii (536870912)] (rt (bb (p))), (!(p)) = false, PureX Try.prog 67 #[vv b, ii (536870912)] (rt (bb (q))), (!(q)) = true]) := by kernel_rfl
theorem fine2_rawf (a b : P3) (p q : Bool) : runB Try.prog 72 #[sl 0 2] [(0, ovc [a, b])] [n, t] [(67, rt (bb p)), (67, rt (bb q))] [] =
    some (rt (bb (false)), [(0, ovc [a, b])], [PureX Try.prog 67 #[vv a, ii (536870912)] (rt (bb (p))), (!(p)) = true]) := by kernel_rfl
theorem add_ok (a b : P3) (p q r : Bool) : runB Try.prog 51 #[vv a, vv b] [] [n, n, n, n, n, n, n, n, f, n, f, n, n, n, n, n, f, n, n, n] [(67, rt (bb p)), (67, rt (bb q)), (67, rt (bb r))] [(2000000, rt (bb true), [])] =
    some (rt (tp [vc (wi (a.1 + b.1)) (wi (a.2.1 + b.2.1)) (wi (a.2.2 + b.2.2)), ii (0)]), [], [same1 (ovc [b]), PureX Try.prog 67 #[vv a, ii (536870912)] (rt (bb (p))), (!(p)) = false, PureX Try.prog 67 #[vv b, ii (536870912)] (rt (bb (q))), (!(q)) = false, PureX Try.prog 67 #[vc (wi (a.1 + b.1)) (wi (a.2.1 + b.2.1)) (wi (a.2.2 + b.2.2)), ii (536870912)] (rt (bb (r))), (!(r)) = false]) := by kernel_rfl
theorem add_n3 (a b : P3) (p q r : Bool) : runB Try.prog 51 #[vv a, vv b] [] [n, n, n, n, n, n, n, n, f, n, f, n, n, n, n, n, t, n, n] [(67, rt (bb p)), (67, rt (bb q)), (67, rt (bb r))] [(2000000, rt (bb true), [])] =
    some (rt (tp [vc (0) (0) (0), ii (20)]), [], [same1 (ovc [b]), PureX Try.prog 67 #[vv a, ii (536870912)] (rt (bb (p))), (!(p)) = false, PureX Try.prog 67 #[vv b, ii (536870912)] (rt (bb (q))), (!(q)) = false, PureX Try.prog 67 #[vc (wi (a.1 + b.1)) (wi (a.2.1 + b.2.1)) (wi (a.2.2 + b.2.2)), ii (536870912)] (rt (bb (r))), (!(r)) = true]) := by kernel_rfl
theorem add_n2 (a b : P3) (p q r : Bool) : runB Try.prog 51 #[vv a, vv b] [] [n, n, n, n, n, n, n, n, f, n, t, n, n, n, n, n] [(67, rt (bb p)), (67, rt (bb q)), (67, rt (bb r))] [(2000000, rt (bb true), [])] =
    some (rt (tp [vc (0) (0) (0), ii (20)]), [], [same1 (ovc [b]), PureX Try.prog 67 #[vv a, ii (536870912)] (rt (bb (p))), (!(p)) = false, PureX Try.prog 67 #[vv b, ii (536870912)] (rt (bb (q))), (!(q)) = true]) := by kernel_rfl
theorem add_n1 (a b : P3) (p q r : Bool) : runB Try.prog 51 #[vv a, vv b] [] [n, n, n, n, n, n, n, n, t, n, n, n, n, n] [(67, rt (bb p)), (67, rt (bb q)), (67, rt (bb r))] [(2000000, rt (bb true), [])] =
    some (rt (tp [vc (0) (0) (0), ii (20)]), [], [same1 (ovc [b]), PureX Try.prog 67 #[vv a, ii (536870912)] (rt (bb (p))), (!(p)) = true]) := by kernel_rfl
theorem sub_ok (a b : P3) (p q r : Bool) : runB Try.prog 55 #[vv a, vv b] [] [n, n, n, n, n, n, n, n, f, n, f, n, n, n, n, n, f, n, n, n] [(67, rt (bb p)), (67, rt (bb q)), (67, rt (bb r))] [(2000000, rt (bb true), [])] =
    some (rt (tp [vc (wi (a.1 - b.1)) (wi (a.2.1 - b.2.1)) (wi (a.2.2 - b.2.2)), ii (0)]), [], [same1 (ovc [b]), PureX Try.prog 67 #[vv a, ii (536870912)] (rt (bb (p))), (!(p)) = false, PureX Try.prog 67 #[vv b, ii (536870912)] (rt (bb (q))), (!(q)) = false, PureX Try.prog 67 #[vc (wi (a.1 - b.1)) (wi (a.2.1 - b.2.1)) (wi (a.2.2 - b.2.2)), ii (536870912)] (rt (bb (r))), (!(r)) = false]) := by kernel_rfl
theorem sub_n3 (a b : P3) (p q r : Bool) : runB Try.prog 55 #[vv a, vv b] [] [n, n, n, n, n, n, n, n, f, n, f, n, n, n, n, n, t, n, n] [(67, rt (bb p)), (67, rt (bb q)), (67, rt (bb r))] [(2000000, rt (bb true), [])] =
    some (rt (tp [vc (0) (0) (0), ii (20)]), [], [same1 (ovc [b]), PureX Try.prog 67 #[vv a, ii (536870912)] (rt (bb (p))), (!(p)) = false, PureX Try.prog 67 #[vv b, ii (536870912)] (rt (bb (q))), (!(q)) = false, PureX Try.prog 67 #[vc (wi (a.1 - b.1)) (wi (a.2.1 - b.2.1)) (wi (a.2.2 - b.2.2)), ii (536870912)] (rt (bb (r))), (!(r)) = true]) := by kernel_rfl
theorem sub_n2 (a b : P3) (p q r : Bool) : runB Try.prog 55 #[vv a, vv b] [] [n, n, n, n, n, n, n, n, f, n, t, n, n, n, n, n] [(67, rt (bb p)), (67, rt (bb q)), (67, rt (bb r))] [(2000000, rt (bb true), [])] =
    some (rt (tp [vc (0) (0) (0), ii (20)]), [], [same1 (ovc [b]), PureX Try.prog 67 #[vv a, ii (536870912)] (rt (bb (p))), (!(p)) = false, PureX Try.prog 67 #[vv b, ii (536870912)] (rt (bb (q))), (!(q)) = true]) := by kernel_rfl
theorem sub_n1 (a b : P3) (p q r : Bool) : runB Try.prog 55 #[vv a, vv b] [] [n, n, n, n, n, n, n, n, t, n, n, n, n, n] [(67, rt (bb p)), (67, rt (bb q)), (67, rt (bb r))] [(2000000, rt (bb true), [])] =
    some (rt (tp [vc (0) (0) (0), ii (20)]), [], [same1 (ovc [b]), PureX Try.prog 67 #[vv a, ii (536870912)] (rt (bb (p))), (!(p)) = true]) := by kernel_rfl
theorem dot_ok (a b : P3) (p q : Bool) : runB Try.prog 56 #[vv a, vv b] [] [n, f, n, f, n, n, n, n, n, n, n, n, n] [(67, rt (bb p)), (67, rt (bb q))] [] =
    some (rt (tp [.int .i64 (wi (wi (wi (0 + wi (a.1 * b.1)) + wi (a.2.1 * b.2.1)) + wi (a.2.2 * b.2.2))), ii (0)]), [], [PureX Try.prog 67 #[vv a, ii (536870912)] (rt (bb (p))), (!(p)) = false, PureX Try.prog 67 #[vv b, ii (536870912)] (rt (bb (q))), (!(q)) = false]) := by kernel_rfl
theorem dot_n2 (a b : P3) (p q : Bool) : runB Try.prog 56 #[vv a, vv b] [] [n, f, n, t, n] [(67, rt (bb p)), (67, rt (bb q))] [] =
    some (rt (tp [ii (0), ii (20)]), [], [PureX Try.prog 67 #[vv a, ii (536870912)] (rt (bb (p))), (!(p)) = false, PureX Try.prog 67 #[vv b, ii (536870912)] (rt (bb (q))), (!(q)) = true]) := by kernel_rfl
theorem dot_n1 (a b : P3) (p q : Bool) : runB Try.prog 56 #[vv a, vv b] [] [n, t, n] [(67, rt (bb p)), (67, rt (bb q))] [] =
    some (rt (tp [ii (0), ii (20)]), [], [PureX Try.prog 67 #[vv a, ii (536870912)] (rt (bb (p))), (!(p)) = true]) := by kernel_rfl
theorem far_ok (a b c : P3) (k e : Int) : runB Try.prog 40 #[vv a, vv b] [] [n] [(55, rt (tp [vv c, ii 0])), (56, rt (tp [ii k, ii e]))] [] =
    some (rt (tp [ii (k), ii (e)]), [], [PureX Try.prog 55 #[vv a, vv b] (rt (tp [vv c, ii (0)])), PureX Try.prog 56 #[vv c, vv c] (rt (tp [ii (k), ii (e)]))]) := by kernel_rfl
theorem far_no (a b c : P3) (e : Int) : runB Try.prog 40 #[vv a, vv b] [] [n] [(55, rt (tp [vv c, ii 20]))] [] =
    some (rt (tp [ii (0), ii (20)]), [], [PureX Try.prog 55 #[vv a, vv b] (rt (tp [vv c, ii (20)]))]) := by kernel_rfl
end Go.Proofs.Ytpllklojcjhjaaa

/- Package vec: what comes of each call. -/
namespace Go.Proofs.Ytpllklojcjhjaaa
open Go Go.RowKit
set_option linter.unusedSimpArgs false
set_option linter.unusedVariables false
set_option maxRecDepth 100000

/-- Is each part within m? -/
def wth (a : P3) (m : Int) : Bool := decide ((-m ≤ a.1 ∧ a.1 ≤ m) ∧ (-m ≤ a.2.1 ∧ a.2.1 ≤ m) ∧ (-m ≤ a.2.2 ∧ a.2.2 ≤ m))
theorem wth_iff {a : P3} {m : Int} : wth a m = true ↔ (-m ≤ a.1 ∧ a.1 ≤ m) ∧ (-m ≤ a.2.1 ∧ a.2.1 ≤ m) ∧ (-m ≤ a.2.2 ∧ a.2.2 ≤ m) := by unfold wth; exact decide_eq_true_iff
def finP (a : P3) : Bool := wth a 536870912
theorem fin_iff {a : P3} : finP a = true ↔ (-536870912 ≤ a.1 ∧ a.1 ≤ 536870912) ∧ (-536870912 ≤ a.2.1 ∧ a.2.1 ≤ 536870912) ∧ (-536870912 ≤ a.2.2 ∧ a.2.2 ≤ 536870912) := wth_iff
def bndI (x m : Int) : Int := mxI (wi (0 - m)) (mnI x m)
theorem bnd_v (x m : Int) : PureX Try.prog 91 #[ii x, ii m] (rt (ii (bndI x m))) := runB_pure mix (bnd_raw x m) trivial rfl rfl
theorem bnd_is {x m : Int} (h0 : 0 ≤ m) (h1 : isJ m) : x = bndI x m ↔ -m ≤ x ∧ x ≤ m := by
  unfold bndI mxI mnI wi
  unfold isJ at h1
  rw [wrapI (by omega)]
  repeat' split
  all_goals omega
theorem bnd_in {x m : Int} (h1 : isJ m) (h : -m ≤ x ∧ x ≤ m) : bndI x m = x := ((bnd_is (by omega) h1).2 h).symm
theorem isJ_of {z : Int} (h : -9223372036854775808 ≤ z ∧ z ≤ 9223372036854775807) : isJ z := h
theorem within_v (a : P3) {m : Int} (hm : isJ m) : PureX Try.prog 67 #[vv a, ii m] (rt (bb (wth a m))) := by
  by_cases h0 : 0 ≤ m
  · have r := runB_pure mix (wth_t a m _ _ _) ⟨decide_eq_true h0, bnd_v _ _, bnd_v _ _, bnd_v _ _, trivial⟩ rfl rfl
    have e : ((a.1 == bndI a.1 m) && ((a.2.1 == bndI a.2.1 m) && ((a.2.2 == bndI a.2.2 m) && (true)))) = wth a m := by
      rw [Bool.eq_iff_iff, wth_iff]
      simp only [Bool.and_eq_true, beq_iff_eq, and_true, bnd_is h0 hm]
    rw [e] at r
    exact r
  · have r := runB_pure mix (wth_f a m) ⟨decide_eq_false h0, trivial⟩ rfl rfl
    have e : wth a m = false := by
      cases hx : wth a m
      · rfl
      · have := wth_iff.1 hx; omega
    rw [e]
    exact r
theorem fin_v (a : P3) : PureX Try.prog 67 #[vv a, ii 536870912] (rt (bb (finP a))) := within_v a ⟨by decide, by decide⟩
def plP (a b : P3) : P3 := (wi (a.1 + b.1), wi (a.2.1 + b.2.1), wi (a.2.2 + b.2.2))
def miP (a b : P3) : P3 := (wi (a.1 - b.1), wi (a.2.1 - b.2.1), wi (a.2.2 - b.2.2))
def ngP (a : P3) : P3 := (wi (0 - a.1), wi (0 - a.2.1), wi (0 - a.2.2))
def tmP (a : P3) (m : Int) : P3 := (wi (a.1 * m), wi (a.2.1 * m), wi (a.2.2 * m))
def crP (a b : P3) : P3 := (wi (wi (a.2.1 * b.2.2) - wi (a.2.2 * b.2.1)), wi (wi (a.2.2 * b.1) - wi (a.1 * b.2.2)), wi (wi (a.1 * b.2.1) - wi (a.2.1 * b.1)))
def dtI (a b : P3) : Int := wi (wi (wi (0 + wi (a.1 * b.1)) + wi (a.2.1 * b.2.1)) + wi (a.2.2 * b.2.2))
/-- A point, if it may be, with the error's number. -/
def okP (c : Bool) (r : P3) : P3 × Int := if c = true then (r, 0) else ((0, 0, 0), 20)
def okN (c : Bool) (r : Int) : Int × Int := if c = true then (r, 0) else (0, 20)
def tpP (x : P3 × Int) : Value := tp [vv x.1, ii x.2]
def tpN (x : Int × Int) : Value := tp [ii x.1, ii x.2]
def addP (a b : P3) : P3 × Int := okP (finP a && finP b && finP (plP a b)) (plP a b)
def subP (a b : P3) : P3 × Int := okP (finP a && finP b && finP (miP a b)) (miP a b)
def timP (a : P3) (k : Int) : P3 × Int := okP (finP a && finP (tmP a (bndI k 536870913))) (tmP a (bndI k 536870913))
def crsP (a b : P3) : P3 × Int := okP (finP a && finP b) (crP a b)
def dotN (a b : P3) : Int × Int := okN (finP a && finP b) (dtI a b)
def farN (a b : P3) : Int × Int := if (subP a b).2 = 0 then dotN (subP a b).1 (subP a b).1 else (0, 20)
theorem nt {b : Bool} (h : b = true) : (!b) = false := by rw [h]; rfl
theorem nf {b : Bool} (h : b = false) : (!b) = true := by rw [h]; rfl
theorem add_v (a b : P3) : PureX Try.prog 51 #[vv a, vv b] (rt (tpP (addP a b))) := by
  have sm : same1 (ovc [b]) := ⟨rfl, trivial⟩
  unfold addP okP
  cases h1 : finP a
  · exact runB_pure mix (add_n1 a b _ true true) ⟨sm, fin_v a, nf h1, trivial⟩ rfl rfl
  cases h2 : finP b
  · exact runB_pure mix (add_n2 a b _ _ true) ⟨sm, fin_v a, nt h1, fin_v b, nf h2, trivial⟩ rfl rfl
  cases h3 : finP (plP a b)
  · exact runB_pure mix (add_n3 a b _ _ _) ⟨sm, fin_v a, nt h1, fin_v b, nt h2, fin_v (plP a b), nf h3, trivial⟩ rfl rfl
  exact runB_pure mix (add_ok a b _ _ _) ⟨sm, fin_v a, nt h1, fin_v b, nt h2, fin_v (plP a b), nt h3, trivial⟩ rfl rfl
theorem sub_v (a b : P3) : PureX Try.prog 55 #[vv a, vv b] (rt (tpP (subP a b))) := by
  have sm : same1 (ovc [b]) := ⟨rfl, trivial⟩
  unfold subP okP
  cases h1 : finP a
  · exact runB_pure mix (sub_n1 a b _ true true) ⟨sm, fin_v a, nf h1, trivial⟩ rfl rfl
  cases h2 : finP b
  · exact runB_pure mix (sub_n2 a b _ _ true) ⟨sm, fin_v a, nt h1, fin_v b, nf h2, trivial⟩ rfl rfl
  cases h3 : finP (miP a b)
  · exact runB_pure mix (sub_n3 a b _ _ _) ⟨sm, fin_v a, nt h1, fin_v b, nt h2, fin_v (miP a b), nf h3, trivial⟩ rfl rfl
  exact runB_pure mix (sub_ok a b _ _ _) ⟨sm, fin_v a, nt h1, fin_v b, nt h2, fin_v (miP a b), nt h3, trivial⟩ rfl rfl
theorem dot_v (a b : P3) : PureX Try.prog 56 #[vv a, vv b] (rt (tpN (dotN a b))) := by
  unfold dotN okN
  cases h1 : finP a
  · exact runB_pure mix (dot_n1 a b _ true) ⟨fin_v a, nf h1, trivial⟩ rfl rfl
  cases h2 : finP b
  · exact runB_pure mix (dot_n2 a b _ _) ⟨fin_v a, nt h1, fin_v b, nf h2, trivial⟩ rfl rfl
  exact runB_pure mix (dot_ok a b _ _) ⟨fin_v a, nt h1, fin_v b, nt h2, trivial⟩ rfl rfl
theorem okP_no {c : Bool} {r : P3} (h : (okP c r).2 ≠ 0) : okP c r = ((0, 0, 0), 20) := by
  unfold okP at h ⊢
  split at h
  · exact absurd rfl h
  · rename_i hc; rw [if_neg hc]
theorem far_v (a b : P3) : PureX Try.prog 40 #[vv a, vv b] (rt (tpN (farN a b))) := by
  have hs := sub_v a b
  unfold farN
  by_cases h : (subP a b).2 = 0
  · rw [if_pos h]
    have e : subP a b = ((subP a b).1, 0) := Prod.ext rfl h
    rw [e] at hs
    exact runB_pure mix (far_ok a b (subP a b).1 _ _) ⟨hs, dot_v _ _, trivial⟩ rfl rfl
  · rw [if_neg h]
    have e : subP a b = ((0, 0, 0), 20) := okP_no h
    rw [e] at hs
    exact runB_pure mix (far_no a b (0, 0, 0) 0) ⟨hs, trivial⟩ rfl rfl
end Go.Proofs.Ytpllklojcjhjaaa

/- States: bodies, as values and in blocks; windows on lists of bodies and of numbers; calls that keep new blocks. -/
namespace Go.Proofs.Ytpllklojcjhjaaa
open Go Go.RowKit
set_option linter.unusedSimpArgs false
set_option linter.unusedVariables false

/-- A body: where it is, how fast. -/
abbrev Bd := P3 × P3
def fl6 (b : Bd) : List Value := [ii b.1.1, ii b.1.2.1, ii b.1.2.2, ii b.2.1, ii b.2.2.1, ii b.2.2.2]
def bv (b : Bd) : Value := .agg ⟨fl6 b⟩
/-- A state as a value. -/
def sv (s : Int) (l : Value) : Value := .agg ⟨[ii s, l]⟩
/-- Bodies in a block: in a window, in a block that may grow. -/
def wob (L : List Bd) : Obj := .cells ⟨L.flatMap fl6⟩ 42 (2, 0)
def gob (L : List Bd) : Obj := .cells ⟨L.flatMap fl6⟩ 42 (1, 6)
/-- Bodies as cells, behind others. -/
def cwb (off : Nat) (L : List Bd) : Array Value := ⟨List.replicate off ud ++ L.flatMap fl6⟩
abbrev HWb (off : Nat) (L : List Bd) : Hp := [(1, win off (cwb off L))]
theorem fl6_drop : ∀ (L : List Bd) (i : Nat) (x : Bd), L[i]? = some x → ((L.flatMap fl6).drop (i * 6)).take 6 = fl6 x
  | [], i, x, h => by simp at h
  | y :: L, 0, x, h => by
    simp only [List.getElem?_cons_zero, Option.some.injEq] at h
    subst h
    rfl
  | y :: L, i + 1, x, h => by
    rw [List.getElem?_cons_succ] at h
    have := fl6_drop L i x h
    rw [List.flatMap_cons, show (i + 1) * 6 = 6 + i * 6 by omega, ← List.drop_drop]
    exact this
theorem cwb_take (off : Nat) {L : List Bd} {i : Nat} {x : Bd} (h : L[i]? = some x) : ((cwb off L).toList.drop (off + i * 6)).take 6 = fl6 x := by
  show ((List.replicate off ud ++ L.flatMap fl6).drop (off + i * 6)).take 6 = fl6 x
  rw [List.drop_append, List.length_replicate, List.drop_eq_nil_of_le (by simp), List.nil_append, Nat.add_sub_cancel_left]
  exact fl6_drop L i x h
theorem fl6_plain (L : List Bd) : wfL noB (L.flatMap fl6) = true := by
  rw [wfL_all]
  intro v hv
  obtain ⟨x, -, hx⟩ := List.mem_flatMap.1 hv
  simp only [fl6, List.mem_cons, List.not_mem_nil, or_false] at hx
  rcases hx with rfl | rfl | rfl | rfl | rfl | rfl <;> rfl
theorem cwb_plain (off : Nat) (L : List Bd) : wfA noB (cwb off L) = true := by
  rw [wfA_list, wfL_all]
  intro v hv
  rcases List.mem_append.1 (show v ∈ List.replicate off ud ++ L.flatMap fl6 from hv) with h | h
  · rw [(List.mem_replicate.1 h).2]; rfl
  · exact (wfL_all _ _).1 (fl6_plain L) v h

end Go.Proofs.Ytpllklojcjhjaaa

/- The program's Within, over a list of bodies that lies in a window. -/
namespace Go.Proofs.Ytpllklojcjhjaaa
open Go Go.RowKit
set_option linter.unusedSimpArgs false
set_option linter.unusedVariables false
set_option maxRecDepth 100000

noncomputable def b16 : Code := match Try.f50.body with | some c => c | none => .skip
noncomputable def WL : Code := cK (cK (cB (cA (cB b16))))
theorem b16_eq : Try.f50.body = some (.seq (cA b16) (.seq (.seq (cA (cA (cB b16))) (.block 0 (.loop WL))) (cB (cB b16)))) := by kernel_rfl
/-- The frame within the loop: ahead of a round, and behind it. -/
def TIb (s b1 b2 : Int) (sl : Value) (n' : Nat) (i : Int) (X : Nat → Value) : List Value := [sv s sl, ii b1, ii b2, ptr 3000, ud, ud, bb false, ud, X 8, pto 3000 1, sl, ii n', ii i, X 13, X 14, X 15, X 16, X 17, X 18, X 19, X 20, X 21, X 22, X 23, X 24, X 25, X 26, X 27, X 28]
def TJ (k : Nat) (s b1 b2 : Int) (sl : Value) (n' : Nat) (j : Int) (q : Nat) (d : Bool) (b : Bd) : List Value := [sv s sl, ii b1, ii b2, ptr 3000, ud, ud, bb false, ud, ptr k, pto 3000 1, sl, ii n', ii j, bb d, pto 1 q, bv b, ptr k, vv b.1, ii b1, bb true, bb false, bb false, pto k 3, vv b.2, ii b2, bb true, bb false, bb false, ii j]
def TX (s b1 b2 : Int) (sl : Value) (n' : Nat) (j : Int) (q : Nat) (d : Bool) (b : Bd) (k : Nat) : Value := (TJ 5000 s b1 b2 sl n' j q d b).getD k ud
theorem TJ_I (s b1 b2 : Int) (sl : Value) (n' : Nat) (j : Int) (q : Nat) (d : Bool) (b : Bd) : TJ 5000 s b1 b2 sl n' j q d b = TIb s b1 b2 sl n' j (TX s b1 b2 sl n' j q d b) := rfl
abbrev HS (s : Int) (sl : Value) (off : Nat) (c : Array Value) : Hp := [(3000, .cells ⟨[ii s, sl]⟩ 27 (0, 0)), (1, win off c)]
abbrev HSd (s : Int) (sl : Value) (off : Nat) (c : Array Value) : Hp := (5000, deadO) :: HS s sl off c
abbrev HSb (s : Int) (sl : Value) (off : Nat) (c : Array Value) (b : Bd) : Hp := (4000, .cells ⟨fl6 b⟩ 42 (0, 0)) :: HSd s sl off c
section
variable (off n' cap : Nat) (c : Array Value) (s b1 b2 i : Int) (b : Bd) (X : Nat → Value)
theorem q16_0 : runLS Try.prog 3000 (cA b16) (frame0 Try.f50 #[sv s (slw 1 off n' cap), ii b1, ii b2]) [(1, win off c)] [] [] [] [] = some (.normal, [sv s (slw 1 off n' cap), ii b1, ii b2, ptr 3000, ud, ud, bb false] ++ List.replicate 22 ud, HS s (slw 1 off n' cap) off c, []) := by kernel_rfl
theorem q16_1 : runLS Try.prog 3001 (cA (cA (cB b16))) ([sv s (slw 1 off n' cap), ii b1, ii b2, ptr 3000, ud, ud, bb false] ++ List.replicate 22 ud) (HS s (slw 1 off n' cap) off c) [] [] [] [] = some (.normal, TIb s b1 b2 (slw 1 off n' cap) n' 0 (fun _ => ud), HS s (slw 1 off n' cap) off c, []) := by kernel_rfl
theorem q16_r : runLS Try.prog 4000 WL (TIb s b1 b2 (slw 1 off n' cap) n' i X) (HSd s (slw 1 off n' cap) off c) [t, n, n] [(67, rt (bb true)), (67, rt (bb true))] [] [fl6 b] = some (.normal, TJ 4000 s b1 b2 (slw 1 off n' cap) n' (wi (i + 1)) (off + i.toNat * 6) (decide (i < (n' : Int))) b, HSb s (slw 1 off n' cap) off c b,
    [decide (i < (n' : Int)) = true, 0 ≤ i ∧ i < (n' : Int), off ≤ off + i.toNat * 6, (c.toList.drop (off + i.toNat * 6)).take 6 = fl6 b, PureX Try.prog 67 #[vv b.1, ii b1] (rt (bb true)), PureX Try.prog 67 #[vv b.2, ii b2] (rt (bb true))]) := by kernel_rfl
theorem q16_x : ∃ Y, runLS Try.prog 4000 WL (TIb s b1 b2 (slw 1 off n' cap) n' i X) (HSd s (slw 1 off n' cap) off c) [f] [] [] [] = some (.exit 0, TIb s b1 b2 (slw 1 off n' cap) n' i Y, HSd s (slw 1 off n' cap) off c, [decide (i < (n' : Int)) = false]) :=
  ⟨lt (runLS Try.prog 4000 WL (TIb s b1 b2 (slw 1 off n' cap) n' i X) (HSd s (slw 1 off n' cap) off c) [f] [] [] []), by kernel_rfl⟩
theorem q16_n0 : ∃ T, runLS Try.prog 4000 WL (TIb s b1 b2 (slw 1 off n' cap) n' i X) (HSd s (slw 1 off n' cap) off c) [t, n] [(67, rt (bb false))] [] [fl6 b] = some (.ret, T, HSb s (slw 1 off n' cap) off c b,
    [decide (i < (n' : Int)) = true, 0 ≤ i ∧ i < (n' : Int), off ≤ off + i.toNat * 6, (c.toList.drop (off + i.toNat * 6)).take 6 = fl6 b, PureX Try.prog 67 #[vv b.1, ii b1] (rt (bb false))]) ∧ vresults Try.prog Try.f50 T (HSb s (slw 1 off n' cap) off c b) = some (bb false) :=
  ⟨tmpsOf (runLS Try.prog 4000 WL (TIb s b1 b2 (slw 1 off n' cap) n' i X) (HSd s (slw 1 off n' cap) off c) [t, n] [(67, rt (bb false))] [] [fl6 b]), by kernel_rfl, by kernel_rfl⟩
theorem q16_n1 : ∃ T, runLS Try.prog 4000 WL (TIb s b1 b2 (slw 1 off n' cap) n' i X) (HSd s (slw 1 off n' cap) off c) [t, n, n] [(67, rt (bb true)), (67, rt (bb false))] [] [fl6 b] = some (.ret, T, HSb s (slw 1 off n' cap) off c b,
    [decide (i < (n' : Int)) = true, 0 ≤ i ∧ i < (n' : Int), off ≤ off + i.toNat * 6, (c.toList.drop (off + i.toNat * 6)).take 6 = fl6 b, PureX Try.prog 67 #[vv b.1, ii b1] (rt (bb true)), PureX Try.prog 67 #[vv b.2, ii b2] (rt (bb false))]) ∧ vresults Try.prog Try.f50 T (HSb s (slw 1 off n' cap) off c b) = some (bb false) :=
  ⟨tmpsOf (runLS Try.prog 4000 WL (TIb s b1 b2 (slw 1 off n' cap) n' i X) (HSd s (slw 1 off n' cap) off c) [t, n, n] [(67, rt (bb true)), (67, rt (bb false))] [] [fl6 b]), by kernel_rfl, by kernel_rfl⟩
theorem q16_e : ∃ T, runLS Try.prog 4000 (cB (cB b16)) (TIb s b1 b2 (slw 1 off n' cap) n' i X) (HSd s (slw 1 off n' cap) off c) [] [] [] [] = some (.ret, T, HSd s (slw 1 off n' cap) off c, []) ∧ vresults Try.prog Try.f50 T (HSd s (slw 1 off n' cap) off c) = some (bb true) :=
  ⟨tmpsOf (runLS Try.prog 4000 (cB (cB b16)) (TIb s b1 b2 (slw 1 off n' cap) n' i X) (HSd s (slw 1 off n' cap) off c) [] [] [] []), by kernel_rfl, by kernel_rfl⟩
end
abbrev rhQ : Nat → Nat := rho [(5000, 4000)]
theorem HS_at (ρ : Nat → Nat) (s : Int) (sl : Value) (off : Nat) (c : Array Value) (hs : ren (rnm ρ) sl = sl) (h0 : ρ 3000 = 3000) (h1 : ρ 1 = 1) (H1 : Hp) (hl : ∀ i o, look (HS s sl off c) i = some o → look H1 i = some o) : AtOK H1 ρ (HS s sl off c) := by
  have e1 : renO ρ (.cells ⟨[ii s, sl]⟩ 27 (0, 0)) = .cells ⟨[ii s, ren (rnm ρ) sl]⟩ 27 (0, 0) := rfl
  refine ⟨fun _ => ?_, fun _ => ?_, trivial⟩
  · rw [h0, e1, hs]; exact hl _ _ rfl
  · rw [h1]; exact hl _ _ rfl
theorem slw_ren (off n' cap : Nat) : ren (rnm rhQ) (slw 1 off n' cap) = slw 1 off n' cap := by
  simp only [ren, capR_rnm]
  kernel_rfl
theorem slw_ren0 (off n' cap : Nat) : ren (rnm (rho [])) (slw 1 off n' cap) = slw 1 off n' cap := by
  simp only [ren, capR_rnm]
  kernel_rfl
theorem tj_ren (s b1 b2 : Int) (off n' cap : Nat) (j : Int) (q : Nat) (d : Bool) (b : Bd) : renL (rnm rhQ) (TJ 5000 s b1 b2 (slw 1 off n' cap) n' j q d b) = TJ 4000 s b1 b2 (slw 1 off n' cap) n' j q d b := by
  have e : renL (rnm rhQ) (TJ 5000 s b1 b2 (slw 1 off n' cap) n' j q d b) = [sv s (ren (rnm rhQ) (slw 1 off n' cap)), ii b1, ii b2, ptr 3000, ud, ud, bb false, ud, ptr 4000, pto 3000 1, ren (rnm rhQ) (slw 1 off n' cap), ii n', ii j, bb d, pto 1 q, bv b, ptr 4000, vv b.1, ii b1, bb true, bb false, bb false, pto 4000 3, vv b.2, ii b2, bb true, bb false, bb false, ii j] := by kernel_rfl
  rw [e, slw_ren]
  rfl
theorem ren_q (s b1 b2 : Int) (off n' cap : Nat) (c : Array Value) (j : Int) (q : Nat) (d : Bool) (b : Bd) : Renum (HS s (slw 1 off n' cap) off c) (TJ 4000 s b1 b2 (slw 1 off n' cap) n' j q d b) [] (HSb s (slw 1 off n' cap) off c b) (TJ 5000 s b1 b2 (slw 1 off n' cap) n' j q d b) [] (HSd s (slw 1 off n' cap) off c) rhQ :=
  renum_of (by kernel_rfl) (tj_ren s b1 b2 off n' cap j q d b) ⟨fun h => (by cases h), HS_at _ _ _ _ _ (slw_ren _ _ _) rfl rfl _ (fun i o ho => by
    have hne : ∀ k, k = 4000 ∨ k = 5000 → k ≠ i := fun k hk e => by
      subst e
      rcases hk with rfl | rfl <;> cases ho
    simp only [HSb, HSd, look, if_neg (hne 4000 (.inl rfl)), if_neg (hne 5000 (.inr rfl))]
    exact ho)⟩ (by kernel_rfl) (by kernel_rfl) (by kernel_rfl)
theorem ren_q0 (s b1 b2 : Int) (off n' cap : Nat) (c : Array Value) : Renum (HS s (slw 1 off n' cap) off c) (TIb s b1 b2 (slw 1 off n' cap) n' 0 (fun _ => ud)) [] (HS s (slw 1 off n' cap) off c) (TIb s b1 b2 (slw 1 off n' cap) n' 0 (fun _ => ud)) [] (HSd s (slw 1 off n' cap) off c) (rho []) :=
  renum_of (by kernel_rfl) (by
    have e : renL (rnm (rho [])) (TIb s b1 b2 (slw 1 off n' cap) n' 0 (fun _ => ud)) = [sv s (ren (rnm (rho [])) (slw 1 off n' cap)), ii b1, ii b2, ptr 3000, ud, ud, bb false, ud, ud, pto 3000 1, ren (rnm (rho [])) (slw 1 off n' cap), ii n', ii 0, ud, ud, ud, ud, ud, ud, ud, ud, ud, ud, ud, ud, ud, ud, ud, ud] := by kernel_rfl
    rw [e, slw_ren0]
    rfl) ⟨fun h => (by cases h), HS_at _ _ _ _ _ (slw_ren0 _ _ _) rfl rfl _ (fun i o ho => ho)⟩ (by kernel_rfl) (by kernel_rfl) (by kernel_rfl)

/-- Is a body within? -/
def bwth (b1 b2 : Int) (b : Bd) : Bool := wth b.1 b1 && wth b.2 b2
theorem HS_dom {s : Int} {sl : Value} {off : Nat} {c : Array Value} {G : Hp} (h : ∀ i o, look (HS s sl off c) i = some o → domB G i = true) : ∀ i, domB (HS s sl off c) i = true → domB G i = true := fun i hi => by
  obtain ⟨o, ho⟩ := domB_iff.1 hi
  exact h i o ho
theorem HSd_dom (s : Int) (sl : Value) (off : Nat) (c : Array Value) : ∀ i, domB (HS s sl off c) i = true → domB (HSd s sl off c) i = true := fun i hi => by
  unfold domB at *
  simp only [look] at *
  split
  · rfl
  · exact hi
theorem HSb_dom (s : Int) (sl : Value) (off : Nat) (c : Array Value) (b : Bd) : ∀ i, domB (HS s sl off c) i = true → domB (HSb s sl off c b) i = true := fun i hi => by
  have := HSd_dom s sl off c i hi
  unfold domB at *
  simp only [look] at *
  split
  · rfl
  · exact this
theorem loop16 (s b1 b2 : Int) (h1 : isJ b1) (h2 : isJ b2) (off cap : Nat) (L : List Bd) (hL : L.length ≤ maxLen) : ∀ (j i : Nat) (X : Nat → Value), i + j = L.length →
    ((L.drop i).all (bwth b1 b2) = true → ∃ r Y, LoopI Try.prog WL (HS s (slw 1 off L.length cap) off (cwb off L)) r (TIb s b1 b2 (slw 1 off L.length cap) L.length i X) (HSd s (slw 1 off L.length cap) off (cwb off L)) (.exit 0) (TIb s b1 b2 (slw 1 off L.length cap) L.length L.length Y) (HSd s (slw 1 off L.length cap) off (cwb off L))) ∧
    ((L.drop i).all (bwth b1 b2) = false → ∃ r T b, LoopI Try.prog WL (HS s (slw 1 off L.length cap) off (cwb off L)) r (TIb s b1 b2 (slw 1 off L.length cap) L.length i X) (HSd s (slw 1 off L.length cap) off (cwb off L)) .ret T (HSb s (slw 1 off L.length cap) off (cwb off L) b) ∧ vresults Try.prog Try.f50 T (HSb s (slw 1 off L.length cap) off (cwb off L) b) = some (bb false))
  | 0, i, X, hi => by
    have e : i = L.length := by omega
    subst e
    refine ⟨fun _ => ?_, fun h => ?_⟩
    · obtain ⟨Y, hY⟩ := q16_x off L.length cap (cwb off L) s b1 b2 L.length X
      exact ⟨1, Y, LoopI.last (HSd_dom _ _ _ _) (runLS_step mix hY ⟨decide_eq_false (by omega), trivial⟩)⟩
    · rw [List.drop_length] at h
      cases h
  | j + 1, i, X, hi => by
    have hlt : i < L.length := by omega
    have hx : L[i]? = some L[i] := List.getElem?_eq_getElem hlt
    have hdr : L.drop i = L[i] :: L.drop (i + 1) := List.drop_eq_getElem_cons hlt
    rw [hdr]
    generalize L[i] = x at hx
    have tk := cwb_take off hx
    have hix : 0 ≤ (i : Int) ∧ (i : Int) < (L.length : Int) := by omega
    have b0 : off ≤ off + (i : Int).toNat * 6 := Nat.le_add_right _ _
    have hw : wi ((i : Int) + 1) = ((i + 1 : Nat) : Int) := by simp only [maxLen] at hL; unfold wi; rw [wrapI (by omega)]; omega
    simp only [List.all_cons]
    have v1 := within_v x.1 h1
    have v2 := within_v x.2 h2
    cases k1 : wth x.1 b1
    · rw [k1] at v1
      refine ⟨fun h => (by simp [bwth, k1] at h), fun _ => ?_⟩
      obtain ⟨T, hT, hv⟩ := q16_n0 off L.length cap (cwb off L) s b1 b2 i x X
      exact ⟨1, T, x, LoopI.lastRet (HSd_dom _ _ _ _) (runLS_step mix hT ⟨decide_eq_true hix.2, hix, b0, tk, v1, trivial⟩), hv⟩
    cases k2 : wth x.2 b2
    · rw [k1] at v1
      rw [k2] at v2
      refine ⟨fun h => (by simp [bwth, k1, k2] at h), fun _ => ?_⟩
      obtain ⟨T, hT, hv⟩ := q16_n1 off L.length cap (cwb off L) s b1 b2 i x X
      exact ⟨1, T, x, LoopI.lastRet (HSd_dom _ _ _ _) (runLS_step mix hT ⟨decide_eq_true hix.2, hix, b0, tk, v1, v2, trivial⟩), hv⟩
    rw [k1] at v1
    rw [k2] at v2
    have kb : bwth b1 b2 x = true := by simp [bwth, k1, k2]
    rw [kb, Bool.true_and]
    have st := runLS_step mix (q16_r off L.length cap (cwb off L) s b1 b2 i x X) ⟨decide_eq_true hix.2, hix, b0, tk, v1, v2, trivial⟩
    rw [hw] at st
    have rn := ren_q s b1 b2 off L.length cap (cwb off L) ((i + 1 : Nat) : Int) (off + (i : Int).toNat * 6) (decide ((i : Int) < (L.length : Int))) x
    rw [TJ_I] at rn
    obtain ⟨i1, i2⟩ := loop16 s b1 b2 h1 h2 off cap L hL j (i + 1) (TX s b1 b2 (slw 1 off L.length cap) L.length ((i + 1 : Nat) : Int) (off + (i : Int).toNat * 6) (decide ((i : Int) < (L.length : Int))) x) (by omega)
    refine ⟨fun h => ?_, fun h => ?_⟩
    · obtain ⟨r, Y, hl⟩ := i1 h
      exact ⟨r + 1, Y, LoopI.round (HSd_dom _ _ _ _) st rn hl⟩
    · obtain ⟨r, T, b, hl, hv⟩ := i2 h
      exact ⟨r + 1, T, b, LoopI.round (HSd_dom _ _ _ _) st rn hl, hv⟩
/-- The program's Within, of a list that lies in a window. -/
theorem sw_w (s : Int) {b1 b2 : Int} (h1 : isJ b1) (h2 : isJ b2) (off cap : Nat) (L : List Bd) (hL : L.length ≤ maxLen) : CallsV Try.prog (.func 50) #[sv s (slw 1 off L.length cap), ii b1, ii b2] (HWb off L) (rt (bb (L.all (bwth b1 b2)))) (HWb off L) := by
  have s0 := runLS_step mix (q16_0 off L.length cap (cwb off L) s b1 b2) trivial
  have s1 := runLS_step mix (q16_1 off L.length cap (cwb off L) s b1 b2) trivial
  obtain ⟨l1, l2⟩ := loop16 s b1 b2 h1 h2 off cap L hL L.length 0 (fun _ => ud) (by omega)
  rw [List.drop_zero] at l1 l2
  have q0 := ren_q0 s b1 b2 off L.length cap (cwb off L)
  have hsub : ∀ {G : Hp}, look G 1 = some (win off (cwb off L)) → Sub (HWb off L) G := fun hg i o hi => by
    simp only [look] at hi
    split at hi
    · rename_i e; subst e; rw [hg, ← hi]
    · cases hi
  cases hk : L.all (bwth b1 b2)
  · obtain ⟨r, T, b, hl, hv⟩ := l2 hk
    have lp := StepV.blockrW (id := 0) (LoopI.loop (HSb_dom _ _ _ _ _) (LoopI.preW q0 hl))
    exact callsV_step Try.func50 b16_eq (StepV.seq s0 (StepV.seqrW (StepV.seq s1 lp))) rfl hv rfl (hsub rfl) rfl
  · obtain ⟨r, Y, hl⟩ := l1 hk
    obtain ⟨T, hE, hv⟩ := q16_e off L.length cap (cwb off L) s b1 b2 L.length Y
    have lp := (LoopI.loop (HSd_dom _ _ _ _) (LoopI.preW q0 hl)).block (id := 0)
    exact callsV_step Try.func50 b16_eq (StepV.seq s0 (StepV.seq (StepV.seq s1 lp) (runLS_step mix hE trivial))) rfl hv rfl (hsub rfl) rfl

end Go.Proofs.Ytpllklojcjhjaaa
