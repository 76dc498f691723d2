/- Texts of the seat, joined. -/
import Derived.Test.YtelohlpjgfknoaaZz5
import Derived.Test.YtelohlpjgfknoaaZz3
/- Configurations, as values; lists of numbers in blocks; calls that keep new blocks. -/
namespace Go.Proofs.Ytelohlpjgfknoaa
open Go Go.RowKit
set_option linter.unusedSimpArgs false
set_option linter.unusedVariables false

/-- Code in pieces. -/
def cA : Code → Code
  | .seq a _ => a
  | c => c
def cB : Code → Code
  | .seq _ b => b
  | c => c
def cK : Code → Code
  | .block _ c => c
  | .loop c => c
  | c => c
abbrev ptr (k : Nat) : Value := .pointer (some ⟨k, 0, none⟩)
abbrev pto (k o : Nat) : Value := .pointer (some ⟨k, o, none⟩)
abbrev ud : Value := .tuple ⟨[]⟩
abbrev sl0 : Value := .slice none 0 0
abbrev slw (b off n cap : Nat) : Value := .slice (some ⟨b, off, none⟩) n cap
def tmpsOf (x : Option (Ex × List Value × Hp × List Prop)) : List Value := match x with | some r => r.2.1 | none => []
def lt (x : Option (Ex × List Value × Hp × List Prop)) (j : Nat) : Value := (tmpsOf x).getD j ud

/-- A function that is handed blocks; those of 'keep' are told of behind it; new ones are numbered from n on. -/
def runF (P : Program) (n : Nat) (keep : List Nat) (f : Nat) (args : Array Value) (H : Hp) (orc : List (Option Bool)) (ans : List (Nat × Res)) (bls : List (Nat × Res × Hp)) (lds : List (List Value)) : Option (Res × Hp × List Prop) :=
  (vfun P (smC P) 300 20 (.func f) args H { ctl2 n orc ans bls with lds := lds }).map fun x => (x.1, restrict x.2.1 keep, x.2.2.obl.reverse)
theorem runF_calls {P : Program} (hmix : P.follows .mixedOrders = true) {n : Nat} {keep : List Nat} {f : Nat} {args : Array Value} {H : Hp} {orc : List (Option Bool)} {ans : List (Nat × Res)} {bls : List (Nat × Res × Hp)} {lds : List (List Value)} {r : Res} {H' : Hp} {obl : List Prop}
    (h : runF P n keep f args H orc ans bls lds = some (r, H', obl)) (ho : AllP obl) (ha : wfA (domB H) args = true) (hc : closedH H' = true) : CallsV P (.func f) args H r H' := by
  unfold runF at h
  rw [Option.map_eq_some_iff] at h
  obtain ⟨⟨r', H1, c'⟩, h1, h2⟩ := h
  simp only [Prod.mk.injEq] at h2
  obtain ⟨rfl, rfl, rfl⟩ := h2
  have key := (vfun_ok (smC_ok P) hmix 300 20 _ _ _ _ _ _ _ h1).2 ((allP_reverse _).1 ho) rfl ha
  intro β w hR
  refine (key β w hR).mono ?_
  rintro e w' ⟨β', hb, rfl, hR'⟩
  exact ⟨β', hb, rfl, hR'.part (restrict_sub _ _) hc⟩

/-- A configuration as a value. -/
def cv (l : Value) (g b t' q m : Int) : Value := .agg ⟨[l, ii g, ii b, ii t', ii q, ii m]⟩
/-- Numbers as cells: each; behind others; in a window whose cells are told. -/
def fl1 (x : Int) : List Value := [ii x]
def cwx {α : Type} (fl : α → List Value) (off : Nat) (L : List α) : Array Value := ⟨List.replicate off ud ++ L.flatMap fl⟩
def wib (L : List Int) : Obj := .cells ⟨L.flatMap fl1⟩ 3 (2, 0)
def gib (L : List Int) : Obj := .cells ⟨L.flatMap fl1⟩ 3 (1, 1)
abbrev sr (s : String) : Value := .string s.toUTF8
/-- Pieces of code that end at once. -/
theorem LoopN.lastRet {P : Program} {b : Code} {t t1 : List Value} {D D1 : List VDef} {H H1 : Hp} (h1 : StepV P b t D H .ret t1 D1 H1) : LoopN P b 1 t D H .ret t1 D1 H1 := by
  refine ⟨h1.1, fun n0 A w0 β a w hR => wpIn_mono (h1.2 n0 A w0 β a w hR) ?_⟩
  rintro e a' w' ⟨rfl, hR'⟩
  exact ⟨rfl, hR'⟩
theorem StepV.blockrW {P : Program} {b : Code} {t t1 : List Value} {D D1 : List VDef} {H H1 : Hp} {id : Nat} (h : StepV P b t D H .ret t1 D1 H1) : StepV P (.block id b) t D H .ret t1 D1 H1 := by
  refine ⟨h.1, fun n0 A w0 β a w hR => wpIn_block (wpIn_mono (h.2 n0 A w0 β a w hR) ?_)⟩
  rintro e a' w' ⟨rfl, hR'⟩
  exact ⟨rfl, hR'⟩
theorem StepV.seqrW {P : Program} {x y : Code} {t t1 : List Value} {D D1 : List VDef} {H H1 : Hp} (h1 : StepV P x t D H .ret t1 D1 H1) : StepV P (.seq x y) t D H .ret t1 D1 H1 := by
  refine ⟨h1.1, fun n0 A w0 β a w hR => wpIn_seq (wpIn_mono (h1.2 n0 A w0 β a w hR) ?_)⟩
  rintro e a' w' ⟨rfl, hR'⟩
  exact ⟨rfl, hR'⟩
theorem LoopI.preW {P : Program} {b : Code} {H0 : Hp} {m : Nat} {t t2 t' : List Value} {H H2 H' : Hp} {ex : Ex} {ρ : Nat → Nat} (hr : Renum H0 t [] H t2 [] H2 ρ) (h : LoopI P b H0 m t2 H2 ex t' H') : LoopI P b H0 m t H ex t' H' := by
  intro n0 A w0 β β1 a w hb hR
  exact h n0 A w0 β _ a w (fun i hi => by rw [hr.fix i hi]; exact hb i hi) (RelA.renum (H0 := H0) hR hr)
end Go.Proofs.Ytelohlpjgfknoaa

/- Lists of numbers, wherever they lie: what a call answers of them, and what it makes of them. -/
namespace Go.Proofs.Ytelohlpjgfknoaa
open Go Go.RowKit
set_option linter.unusedSimpArgs false
set_option linter.unusedVariables false
attribute [local irreducible] shf

theorem cap_ne {cap : Nat} (h : cap ≤ maxLen) : cap ≠ capU := fun e => absurd (e ▸ h) (by decide)
theorem shf_at (B off : Nat) : shf (B, capU + off) = off := by rw [shf_eq]; exact Nat.add_sub_cancel_left _ _
/-- Where blocks that are only read lie. -/
def Lie (β : Num) (w : World) (i : Nat) (o : Obj) : Prop :=
  (winO o = true ∧ isLive o = true ∧ ∀ p : Nat → Bool, wfO p o = true) ∧ LiesO β (β i).2 o w.heap[(β i).1]?
/-- A call that reads windows alone, in the world. -/
theorem calls_wins {P : Program} {f : Nat} {args args' : Array Value} {H H' : Hp} {r : Res} {β : Num} {w : World} (hc : CallsV P (.func f) args H r H') (ha : renA β args = args')
    (h : ∀ i o, look H i = some o → Lie β w i o) : Calls P f args' w fun e w' => ∃ β', (∀ i, domB H i = true → β' i = β i) ∧ e = r.out β' ∧ Rel (rng β H) w β' H' w' ∧ Below w.heap.size w w' := by
  have hwb : ∀ i, liveB H i = true → winB H i = true := fun i hi => by
    obtain ⟨o, ho, hv⟩ := liveB_iff.1 hi
    rw [winB_look ho]; exact (h i o ho).1.1
  have hR : Rel (rng β H) w β H w := by
    refine ⟨fun i o ho => (h i o ho).2, fun i j hi hj hw _ => absurd (hwb i hi) (by rw [hw]; decide), fun i hi => .inl (rng_own.2 ⟨i, hi, rfl⟩), fun i hi => ⟨fun _ => ⟨?_, rng_win.2 ⟨i, hi, hwb i hi, rfl⟩⟩, fun _ => hwb i hi⟩, fun i o ho => (h i o ho).1.2.2 _, Kp.refl _ _⟩
    obtain ⟨o, ho, hv⟩ := liveB_iff.1 hi
    obtain ⟨y, hy⟩ := liesO_some hv (h i o ho).2
    exact (Array.getElem?_eq_some_iff.1 hy).1
  have hh := hc β w hR
  rw [ha] at hh
  refine hh.mono ?_
  rintro e w' ⟨β', hb, rfl, hR'⟩
  refine ⟨β', hb, rfl, hR', hR'.kp.below (Nat.le_refl _) (fun k h1 h2 => ?_)⟩
  obtain ⟨i, hi, e⟩ := rng_own.1 h1
  exact absurd (rng_win.2 ⟨i, hi, hwb i hi, e⟩) h2
theorem lie_1 {β : Num} {w : World} {i : Nat} {o : Obj} (h : Lie β w i o) : ∀ j x, look [(i, o)] j = some x → Lie β w j x := by
  intro j x hx
  simp only [look] at hx
  split at hx
  · rename_i e
    simp only [Option.some.injEq] at hx
    rw [← hx, ← e]
    exact h
  · cases hx
theorem lie_2 {β : Num} {w : World} {i k : Nat} {o y : Obj} (h : Lie β w i o) (g : Lie β w k y) : ∀ j x, look [(i, o), (k, y)] j = some x → Lie β w j x := by
  intro j x hx
  by_cases e : i = j
  · simp only [look, if_pos e, Option.some.injEq] at hx
    rw [← hx, ← e]
    exact h
  · simp only [look, if_neg e] at hx
    exact lie_1 g j x (by simpa only [look] using hx)
theorem lie_3 {β : Num} {w : World} {i k m : Nat} {o y z : Obj} (h : Lie β w i o) (g : Lie β w k y) (q : Lie β w m z) : ∀ j x, look [(i, o), (k, y), (m, z)] j = some x → Lie β w j x := by
  intro j x hx
  by_cases e : i = j
  · simp only [look, if_pos e, Option.some.injEq] at hx
    rw [← hx, ← e]
    exact h
  · simp only [look, if_neg e] at hx
    exact lie_2 g q j x (by simpa only [look] using hx)
theorem lie_win {β : Num} {w : World} {i B off : Nat} {c : Array Value} (e : β i = (B, 0)) (hc : wfA noB c = true) (hw : WinAt off c w.heap[B]?) : Lie β w i (win off c) := by
  refine ⟨⟨rfl, rfl, fun _ => rfl⟩, ?_⟩
  rw [e]
  exact ⟨fun h => (by cases h), fun _ => ⟨Nat.zero_le _, hw⟩, hc⟩
theorem lie_seen {β : Num} {w : World} {i B off : Nat} {c : Array Value} {T : TypeId} (e : β i = (B, capU + off)) (hc : wfA noB c = true)
    (hw : ∃ (cur : Array Value) (T : TypeId) (fr : Nat × Nat), w.heap[B]? = some (.cells cur T fr) ∧ ∀ j v, c[j]? = some v → cur[j + off]? = some v) : Lie β w i (.cells c T (2, 0)) := by
  refine ⟨⟨rfl, rfl, fun p => ?_⟩, ?_⟩
  · simp only [wfO, Bool.and_eq_true]
    exact ⟨wfA_mono (p := noB) (fun _ h => (by cases h)) _ hc, by decide⟩
  · rw [e]
    refine ⟨fun h => (by cases h), fun h => (by cases h), fun _ _ => ?_⟩
    obtain ⟨cur, T', fr, h1, h2⟩ := hw
    refine ⟨cur, T', fr, h1, fun j v hj => ?_⟩
    rw [renA_plain _ hc] at hj
    have e2 : (B, capU + off).2 - capU = off := (shf_eq _).symm.trans (shf_at B off)
    rw [e2]
    exact h2 j v hj
theorem ren_win {β : Num} {i B off n' cap : Nat} (e : β i = (B, 0)) (hc : cap ≤ maxLen) : ren β (slw i off n' cap) = slw B off n' cap := by
  simp only [ren, renP, e, shf_zero, Nat.add_zero, capR_ne (x := (B, 0)) (cap_ne hc)]
theorem ren_seen {β : Num} {i B off n' cap : Nat} (e : β i = (B, capU + off)) (hc : cap ≤ maxLen) : ren β (slw i 0 n' cap) = slw B off n' cap := by
  simp only [ren, renP, e, shf_at, Nat.zero_add, capR_ne (x := (B, capU + off)) (cap_ne hc)]
theorem cwx_at {α : Type} {fl : α → List Value} {off j : Nat} {L : List α} (h : off ≤ j) : (cwx fl off L)[j]? = (L.flatMap fl)[j - off]? := by
  show (Array.mk (List.replicate off ud ++ L.flatMap fl))[j]? = _
  simp only [List.getElem?_toArray]
  rw [List.getElem?_append_right (by simpa using h), List.length_replicate]
theorem seen_of_win {α : Type} {fl : α → List Value} {off : Nat} {L : List α} {x : Option Obj} (h : WinAt off (cwx fl off L) x) :
    ∃ (cur : Array Value) (T : TypeId) (fr : Nat × Nat), x = some (.cells cur T fr) ∧ ∀ j v, (Array.mk (L.flatMap fl))[j]? = some v → cur[j + off]? = some v := by
  obtain ⟨cur, T, fr, h1, h2⟩ := h
  refine ⟨cur, T, fr, h1, fun j v hj => h2 _ v (Nat.le_add_left _ _) ?_⟩
  rw [cwx_at (Nat.le_add_left _ _), Nat.add_sub_cancel]
  simpa using hj
theorem fl1_plain (N : List Int) : wfL noB (N.flatMap fl1) = true := by
  induction N with
  | nil => rfl
  | cons x r ih => exact ih
theorem fl1_map (N : List Int) : N.flatMap fl1 = N.map ii := by
  induction N with
  | nil => rfl
  | cons x r ih => rw [List.flatMap_cons, ih]; rfl
theorem fl1_len (N : List Int) : (N.flatMap fl1).length = N.length := by rw [fl1_map, List.length_map]
theorem cwx_plain (off : Nat) (N : List Int) : wfA noB (cwx fl1 off N) = true := by
  show wfL noB (List.replicate off ud ++ N.flatMap fl1) = true
  rw [wfL_all]
  intro v h
  rcases List.mem_append.1 h with h | h
  · rw [(List.mem_replicate.1 h).2]; rfl
  · exact (wfL_all _ _).1 (fl1_plain N) v h

/-- A list of numbers lies in the world. -/
def LieL (w : World) (v : Value) (L : List Int) : Prop :=
  (v = sl0 ∧ L = []) ∨ ∃ B off cap, v = slw B off L.length cap ∧ L.length ≤ cap ∧ cap ≤ maxLen ∧ WinAt off (cwx fl1 off L) w.heap[B]?
theorem LieL.below {w w' : World} {v : Value} {L : List Int} (h : LieL w v L) (hb : Below w.heap.size w w') : LieL w' v L := by
  rcases h with h | ⟨B, off, cap, e, h1, h2, h3⟩
  · exact .inl h
  · refine .inr ⟨B, off, cap, e, h1, h2, ?_⟩
    obtain ⟨cur, T, fr, h4, h5⟩ := h3
    rw [hb.block B (Array.getElem?_eq_some_iff.1 h4).1]
    exact ⟨cur, T, fr, h4, h5⟩
section
variable {A : Nat → Prop} {w0 : World} {β : Num} {H : Hp} {w : World} {L : List Int} {k off cap : Nat}
theorem ll_nil : LieL w (ren β sl0) [] := .inl ⟨rfl, rfl⟩
theorem ll_win (hR : Rel A w0 β H w) (hk : look H k = some (win off (cwx fl1 off L))) (hl : L.length ≤ cap) (hc : cap ≤ maxLen) : LieL w (ren β (slw k off L.length cap)) L := by
  obtain ⟨h1, h2⟩ := (hR.lies k _ hk).2.1 rfl
  exact .inr ⟨(β k).1, off, cap, by simp only [ren, renP, shf0 h1, Nat.add_zero, capR_ne (x := β k) (cap_ne hc)], hl, hc, h2⟩
theorem ll_seen (hR : Rel A w0 β H w) (hk : look H k = some (wib L)) (hl : L.length ≤ cap) (hc : cap ≤ maxLen) : LieL w (ren β (slw k 0 L.length cap)) L := by
  obtain ⟨cur, T, fr, h1, h2⟩ := (hR.lies k _ hk).2.2 (by simp) (by simp)
  refine .inr ⟨(β k).1, shf (β k), cap, by simp only [ren, renP, Nat.zero_add, capR_ne (x := β k) (cap_ne hc)], hl, hc, cur, T, fr, h1, fun j v hj hv => ?_⟩
  rw [cwx_at hj] at hv
  have := h2 (j - shf (β k)) v (by rw [renA_plain _ (show wfA noB ⟨L.flatMap fl1⟩ = true from fl1_plain L)]; simpa using hv)
  rw [← shf_eq, Nat.sub_add_cancel hj] at this
  exact this
theorem ll_open {cap' : Nat} {T : TypeId} {x : Option Obj} (h : OpenAt cap' 1 T ⟨L.flatMap fl1⟩ x) : L.length ≤ cap' ∧ cap' ≤ maxLen ∧ WinAt 0 (cwx fl1 0 L) x := by
  obtain ⟨cur, h1, h2, h3, h4, h5⟩ := h
  have hsz : (Array.mk (L.flatMap fl1)).size = L.length := by simp only [List.size_toArray]; exact fl1_len L
  rw [hsz] at h4 h5
  have h5 : cur.toList.take L.length = L.flatMap fl1 := h5
  refine ⟨by omega, h2, cur, _, _, h1, fun j v hj hv => ?_⟩
  rw [cwx_at hj, Nat.sub_zero, ← h5, List.getElem?_take] at hv
  split at hv
  · simpa using hv
  · cases hv
theorem ll_opq (hR : Rel A w0 β H w) {T u2 : Nat} {u3 : Bool} {c : Array Value} (hk : look H k = some (.chan 1 c false T u2 u3)) (hc : c = ⟨L.flatMap fl1⟩) : LieL w (ren β (slw k 0 L.length capU)) L := by
  subst hc
  obtain ⟨h1, h2, h3⟩ := ll_open ((hR.lies k _ hk).1 rfl)
  exact .inr ⟨(β k).1, 0, (β k).2, by simp only [ren, renP, shf0 (le_capU h2), Nat.add_zero, capR, if_true], h1, h2, h3⟩
theorem ll_grow (hR : Rel A w0 β H w) (hk : look H k = some (gib L)) : LieL w (ren β (slw k 0 L.length capU)) L := by
  have h := (hR.lies k _ hk).2.1 rfl
  rw [renA_plain _ (show wfA noB ⟨L.flatMap fl1⟩ = true from fl1_plain L)] at h
  obtain ⟨h1, h2, h3⟩ := ll_open h
  exact .inr ⟨(β k).1, 0, (β k).2, by simp only [ren, renP, shf0 (le_capU h2), Nat.add_zero, capR, if_true], h1, h2, h3⟩
theorem ll_cells (hR : Rel A w0 β H w) {T : TypeId} {M : List Int} (hk : look H k = some (.cells ⟨M.flatMap fl1⟩ T (0, 0))) (hM : M.take L.length = L) (hl : L.length ≤ cap) (hc : cap ≤ maxLen) : LieL w (ren β (slw k 0 L.length cap)) L := by
  obtain ⟨h1, h2⟩ := (hR.lies k _ hk).1 rfl
  rw [renA_plain _ (show wfA noB ⟨M.flatMap fl1⟩ = true from fl1_plain M)] at h2
  refine .inr ⟨(β k).1, 0, cap, by simp only [ren, renP, shf0 h1, Nat.add_zero, capR_ne (x := β k) (cap_ne hc)], hl, hc, _, _, _, h2, fun j v hj hv => ?_⟩
  rw [cwx_at hj, Nat.sub_zero, fl1_map, ← hM, List.map_take, List.getElem?_take] at hv
  split at hv
  · rw [← fl1_map] at hv; simpa using hv
  · cases hv
end

/-- The answer, wherever the list lies. -/
def Sem1 (P : Program) (f : Nat) (args : Value → Array Value) (L : List Int) (v : Value) : Prop :=
  ∀ w s, LieL w s L → Calls P f (args s) w fun e w' => e = .returned v ∧ Below w.heap.size w w'
def Sem2 (P : Program) (f : Nat) (args : Value → Value → Array Value) (L M : List Int) (v : Value) : Prop :=
  ∀ w s s', LieL w s L → LieL w s' M → Calls P f (args s s') w fun e w' => e = .returned v ∧ Below w.heap.size w w'
/-- A new list in the answer. -/
def New1 (P : Program) (f : Nat) (args : Value → Array Value) (L : List Int) (mk : Value → Value) (R : List Int) : Prop :=
  ∀ w s, LieL w s L → Calls P f (args s) w fun e w' => ∃ B cap, e = .returned (mk (slw B 0 R.length cap)) ∧ w.heap.size ≤ B ∧ OpenAt cap 1 3 ⟨R.flatMap fl1⟩ w'.heap[B]? ∧ Below w.heap.size w w'
section
variable {P : Program} {f : Nat} {args : Value → Array Value} {L : List Int} {v : Value}
theorem pure_calls {f : Nat} {args args' : Array Value} {v : Value} (h : PureX P f args (rt v)) (hv : wfV noB v = true) (w : World) : Calls P f args w fun e w' => e = .returned v ∧ Below w.heap.size w w' := by
  refine (h w).mono ?_
  rintro e w' ⟨rfl, hb⟩
  exact ⟨by simp only [Res.out, ren_plain idN hv], hb⟩
theorem sem1_mk (ha : ∀ β s, renA β (args s) = args (ren β s)) (hv : wfV noB v = true) (hnil : L = [] → PureX P f (args sl0) (rt v))
    (hwin : ∀ off cap, L.length ≤ cap → cap ≤ maxLen → CallsV P (.func f) (args (slw 1 off L.length cap)) [(1, win off (cwx fl1 off L))] (rt v) [(1, win off (cwx fl1 off L))]) : Sem1 P f args L v := by
  intro w s hs
  rcases hs with ⟨rfl, hL⟩ | ⟨B, off, cap, rfl, h1, h2, h3⟩
  · exact pure_calls (args' := #[]) (hnil hL) hv w
  · have := calls_wins (β := fun _ => (B, 0)) (hwin off cap h1 h2) (by rw [ha, ren_win (β := fun _ => (B, 0)) (i := 1) rfl h2]) (lie_1 (lie_win rfl (cwx_plain _ _) h3))
    refine this.mono ?_
    rintro e w' ⟨β', _, rfl, _, hb⟩
    exact ⟨by simp only [Res.out, ren_plain β' hv], hb⟩
theorem sem1_seen (ha : ∀ β s, renA β (args s) = args (ren β s)) (hv : wfV noB v = true) (hnil : L = [] → PureX P f (args sl0) (rt v))
    (h : ∀ cap, L.length ≤ cap → cap ≤ maxLen → CallsV P (.func f) (args (slw 1 0 L.length cap)) [(1, wib L)] (rt v) [(1, wib L)]) : Sem1 P f args L v := by
  intro w s hs
  rcases hs with ⟨rfl, hL⟩ | ⟨B, off, cap, rfl, h1, h2, h3⟩
  · exact pure_calls (args' := #[]) (hnil hL) hv w
  · have := calls_wins (β := fun _ => (B, capU + off)) (h cap h1 h2) (by rw [ha, ren_seen (β := fun _ => (B, capU + off)) (i := 1) rfl h2]) (lie_1 (lie_seen rfl (fl1_plain L) (seen_of_win h3)))
    refine this.mono ?_
    rintro e w' ⟨β', _, rfl, _, hb⟩
    exact ⟨by simp only [Res.out, ren_plain β' hv], hb⟩
theorem sem1_calls (h : Sem1 P f args L v) (ha : ∀ β s, renA β (args s) = args (ren β s)) (hv : wfV noB v = true) {H : Hp} {s : Value}
    (hs : ∀ β w, Rel (rng β H) w β H w → LieL w (ren β s) L) : CallsV P (.func f) (args s) H (rt v) H := by
  intro β w hR
  simp only [ha]
  refine (h w _ (hs β w hR)).mono ?_
  rintro e w' ⟨rfl, hb⟩
  exact ⟨β, fun _ _ => rfl, by simp only [Res.out, ren_plain β hv], hR.below hb⟩
/-- Two lists. -/
theorem sem2_mk {args : Value → Value → Array Value} {M : List Int} (ha : ∀ β s s', renA β (args s s') = args (ren β s) (ren β s')) (hv : wfV noB v = true) (hnn : L = [] → M = [] → PureX P f (args sl0 sl0) (rt v))
    (hnw : L = [] → ∀ off cap, M.length ≤ cap → cap ≤ maxLen → CallsV P (.func f) (args sl0 (slw 2 off M.length cap)) [(2, win off (cwx fl1 off M))] (rt v) [(2, win off (cwx fl1 off M))])
    (hwn : M = [] → ∀ off cap, L.length ≤ cap → cap ≤ maxLen → CallsV P (.func f) (args (slw 1 off L.length cap) sl0) [(1, win off (cwx fl1 off L))] (rt v) [(1, win off (cwx fl1 off L))])
    (hww : ∀ off cap off' cap', L.length ≤ cap → cap ≤ maxLen → M.length ≤ cap' → cap' ≤ maxLen → CallsV P (.func f) (args (slw 1 off L.length cap) (slw 2 off' M.length cap')) [(1, win off (cwx fl1 off L)), (2, win off' (cwx fl1 off' M))] (rt v) [(1, win off (cwx fl1 off L)), (2, win off' (cwx fl1 off' M))]) :
    Sem2 P f args L M v := by
  intro w s s' hs hs'
  rcases hs with ⟨rfl, hL⟩ | ⟨B, off, cap, rfl, h1, h2, h3⟩ <;> rcases hs' with ⟨rfl, hM⟩ | ⟨B', off', cap', rfl, g1, g2, g3⟩
  · exact pure_calls (args' := #[]) (hnn hL hM) hv w
  · have := calls_wins (β := fun _ => (B', 0)) (hnw hL off' cap' g1 g2) (by rw [ha, ren_win (β := fun _ => (B', 0)) (i := 2) rfl g2]) (lie_1 (lie_win rfl (cwx_plain _ _) g3))
    refine this.mono ?_
    rintro e w' ⟨β', _, rfl, _, hb⟩
    exact ⟨by simp only [Res.out, ren_plain β' hv], hb⟩
  · have := calls_wins (β := fun _ => (B, 0)) (hwn hM off cap h1 h2) (by rw [ha, ren_win (β := fun _ => (B, 0)) (i := 1) rfl h2]) (lie_1 (lie_win rfl (cwx_plain _ _) h3))
    refine this.mono ?_
    rintro e w' ⟨β', _, rfl, _, hb⟩
    exact ⟨by simp only [Res.out, ren_plain β' hv], hb⟩
  · have := calls_wins (β := fun i => if i = 1 then (B, 0) else (B', 0)) (hww off cap off' cap' h1 h2 g1 g2) (by rw [ha, ren_win (β := fun i => if i = 1 then (B, 0) else (B', 0)) (i := 1) rfl h2, ren_win (β := fun i => if i = 1 then (B, 0) else (B', 0)) (i := 2) rfl g2]) (lie_2 (lie_win rfl (cwx_plain _ _) h3) (lie_win rfl (cwx_plain _ _) g3))
    refine this.mono ?_
    rintro e w' ⟨β', _, rfl, _, hb⟩
    exact ⟨by simp only [Res.out, ren_plain β' hv], hb⟩
theorem sem2_calls {args : Value → Value → Array Value} {M : List Int} (h : Sem2 P f args L M v) (ha : ∀ β s s', renA β (args s s') = args (ren β s) (ren β s')) (hv : wfV noB v = true) {H : Hp} {s s' : Value}
    (hs : ∀ β w, Rel (rng β H) w β H w → LieL w (ren β s) L ∧ LieL w (ren β s') M) : CallsV P (.func f) (args s s') H (rt v) H := by
  intro β w hR
  simp only [ha]
  refine (h w _ _ (hs β w hR).1 (hs β w hR).2).mono ?_
  rintro e w' ⟨rfl, hb⟩
  exact ⟨β, fun _ _ => rfl, by simp only [Res.out, ren_plain β hv], hR.below hb⟩
/-- A new block, of a call that left all else. -/
theorem Rel.fresh {A : Nat → Prop} {w0 : World} {β : Num} {H : Hp} {w w' : World} (h : Rel A w0 β H w) (hb : Below w.heap.size w w') {n : Nat} (hn : domB H n = false) {o : Obj} {B cap : Nat} (ho : wfO (domB H) o = true) (hB : w.heap.size ≤ B) (hx : LiesO β cap o w'.heap[B]?) (hno : winO o = false) :
    Rel A w0 (upd1 β n (B, cap)) (hput H n o) w' := by
  have hag : ∀ i, domB H i = true → upd1 β n (B, cap) i = β i := fun i hi => upd1_ne (fun e => by rw [e, hn] at hi; cases hi)
  have hdom : ∀ i, liveB (hput H n o) i = true → i = n ∨ liveB H i = true := fun i hi => by
    rw [liveB_hput] at hi
    by_cases e : i = n
    · exact .inl e
    · rw [if_neg e] at hi; exact .inr hi
  have h' := h.below hb
  refine ⟨fun i x hx' => ?_, fun i j hi hj hwi e => ?_, fun i hi => ?_, fun i hi => ?_, fun i x hx' => ?_, h'.kp⟩
  · rw [look_hput] at hx'
    by_cases hi : i = n
    · subst hi
      rw [if_pos rfl] at hx'
      simp only [Option.some.injEq] at hx'
      subst hx'
      rw [upd1_self]
      exact liesO_congr (fun j hj => (hag j hj).symm) ho hx
    · rw [if_neg hi] at hx'
      rw [hag i (domB_of hx')]
      exact liesO_congr (fun j hj => (hag j hj).symm) (h.wf i x hx') (h'.lies i x hx')
  · rcases hdom i hi with hi' | hi' <;> rcases hdom j hj with hj' | hj'
    · rw [hi', hj']
    · rw [hi', upd1_self, hag j (liveB_dom hj')] at e
      have := h.lt hj'
      simp only at e
      omega
    · rw [hj', upd1_self, hag i (liveB_dom hi')] at e
      have := h.lt hi'
      simp only at e
      omega
    · rw [hag i (liveB_dom hi'), hag j (liveB_dom hj')] at e
      rw [winB_hput, if_neg (fun e2 => by rw [e2] at hi'; rw [liveB_dom hi'] at hn; cases hn)] at hwi
      exact h.inj i j hi' hj' hwi e
  · rcases hdom i hi with hi' | hi'
    · rw [hi', upd1_self]; exact .inr (Nat.le_trans h.kp.size hB)
    · rw [hag i (liveB_dom hi')]; exact h.own i hi'
  · by_cases hin : i = n
    · subst hin
      rw [winB_hput, if_pos rfl, hno, upd1_self]
      have := h.kp.size
      exact ⟨fun hh => (by cases hh), fun hh => absurd hh.1 (by show ¬ B < _; omega)⟩
    · rcases hdom i hi with hi' | hi'
      · exact absurd hi' hin
      · rw [winB_hput, if_neg hin, hag i (liveB_dom hi')]; exact h.win i hi'
  · rw [look_hput] at hx'
    refine wfO_mono (p := domB H) (fun j hj => by rw [domB_hput, hj, Bool.or_true]) ?_
    by_cases hi : i = n
    · rw [if_pos hi] at hx'
      simp only [Option.some.injEq] at hx'
      subst hx'
      exact ho
    · rw [if_neg hi] at hx'
      exact h.wf i x hx'
theorem look_cons_hput {H : Hp} {k : Nat} {o : Obj} (hk : domB H k = false) (i : Nat) : look ((k, o) :: H) i = look (hput H k o) i := by
  rw [look_hput]
  simp only [look]
  by_cases h : k = i
  · rw [if_pos h, if_pos h.symm]
  · rw [if_neg h, if_neg (fun e => h e.symm)]
theorem new1_calls {mk : Value → Value} {R : List Int} (h : New1 P f args L mk R) (ha : ∀ β s, renA β (args s) = args (ren β s)) (hm : ∀ β s, ren β (mk s) = mk (ren β s)) {H : Hp} {s : Value} {k : Nat} (hk : domB H k = false)
    (hs : ∀ β w, Rel (rng β H) w β H w → LieL w (ren β s) L) : CallsV P (.func f) (args s) H (rt (mk (slw k 0 R.length capU))) ((k, .chan 1 ⟨R.flatMap fl1⟩ false 3 0 false) :: H) := by
  intro β w hR
  simp only [ha]
  refine (h w _ (hs β w hR)).mono ?_
  rintro e w' ⟨B, cap, rfl, hB, ho, hb⟩
  have hcm : cap ≤ maxLen := by obtain ⟨_, _, h2, _⟩ := ho; exact h2
  have hF := hR.fresh hb hk (o := .chan 1 ⟨R.flatMap fl1⟩ false 3 0 false) (cap := cap) rfl hB ⟨fun _ => ho, fun h => (by cases h), fl1_plain R⟩ rfl
  have hag : ∀ i, domB H i = true → upd1 β k (B, cap) i = β i := fun i hi => upd1_ne (fun e => by rw [e, hk] at hi; cases hi)
  refine ⟨upd1 β k (B, cap), hag, ?_, hF.congr (fun _ _ => rfl) (look_cons_hput hk)⟩
  simp only [Res.out, hm, ren, renP, upd1_self, capR, if_true, shf0 (x := (B, cap)) (le_capU hcm), Nat.add_zero]
/-- .. out of a run of letters. -/
theorem new1_of {mk : Value → Value} {R : List Int} {k cc : Nat} {o : Obj} (ha : ∀ β s, renA β (args s) = args (ren β s)) (hm : ∀ β s, ren β (mk s) = mk (ren β s)) (hL : L ≠ [])
    (ho : (o = gib R ∧ cc = capU) ∨ (o = .cells ⟨R.flatMap fl1⟩ 3 (0, 0) ∧ cc = R.length ∧ R.length ≤ maxLen)) (hk : k ≠ 1)
    (h : ∀ cap, L.length ≤ cap → cap ≤ maxLen → CallsV P (.func f) (args (slw 1 0 L.length cap)) [(1, wib L)] (rt (mk (slw k 0 R.length cc))) [(k, o), (1, wib L)]) : New1 P f args L mk R := by
  intro w s hs
  rcases hs with ⟨rfl, e⟩ | ⟨B, off, cap, rfl, h1, h2, h3⟩
  · exact absurd e hL
  have := calls_wins (β := fun _ => (B, capU + off)) (h cap h1 h2) (by rw [ha, ren_seen (β := fun _ => (B, capU + off)) (i := 1) rfl h2]) (lie_1 (lie_seen rfl (fl1_plain L) (seen_of_win h3)))
  refine this.mono ?_
  rintro e w' ⟨β', hb', rfl, hR, hb⟩
  have lk1 : look [(k, o), (1, wib L)] 1 = some (wib L) := by simp [look, hk]
  have lkk : look [(k, o), (1, wib L)] k = some o := by simp [look]
  have hno : winO o = false ∧ isLive o = true := by rcases ho with ⟨rfl, _⟩ | ⟨rfl, _⟩ <;> exact ⟨rfl, rfl⟩
  have hge : w.heap.size ≤ (β' k).1 := by
    rcases hR.own k (liveB_of lkk hno.2) with h4 | h4
    · exfalso
      obtain ⟨j, hj, e⟩ := rng_own.1 h4
      have hj1 : j = 1 := by
        unfold liveB at hj
        simp only [look] at hj
        split at hj
        · rename_i o' ho'
          split at ho'
          · rename_i e1; exact e1.symm
          · cases ho'
        · cases hj
      subst hj1
      have e2 : (β' k).1 = (β' 1).1 := by rw [hb' 1 rfl]; exact e.symm
      exact hk (hR.inj k 1 (liveB_of lkk hno.2) (liveB_of lk1 rfl) (winB_of lkk hno.1) e2)
    · exact h4
  have hl := hR.lies k o lkk
  have hpl : renA β' ⟨R.flatMap fl1⟩ = ⟨R.flatMap fl1⟩ := renA_plain _ (show wfA noB ⟨R.flatMap fl1⟩ = true from fl1_plain R)
  rcases ho with ⟨rfl, rfl⟩ | ⟨rfl, rfl, hmax⟩
  · have h5 := hl.2.1 rfl
    rw [hpl] at h5
    have hcm : (β' k).2 ≤ maxLen := by obtain ⟨_, _, h2, _⟩ := h5; exact h2
    exact ⟨(β' k).1, (β' k).2, by simp only [Res.out, hm, ren, renP, capR, if_true, shf0 (le_capU hcm), Nat.add_zero], hge, h5, hb⟩
  · obtain ⟨h6, h5⟩ := hl.1 rfl
    rw [hpl] at h5
    refine ⟨(β' k).1, R.length, by simp only [Res.out, hm, ren, renP, shf0 h6, Nat.add_zero, capR_ne (x := β' k) (cap_ne hmax)], hge, ⟨_, h5, hmax, ?_, Nat.le_refl _, ?_⟩, hb⟩
    · simp only [List.size_toArray, fl1_len, Nat.mul_one]
    · rw [← Array.length_toList]; exact List.take_length
/-- .. out of a run over a window that is not looked into. -/
theorem new1_ofw {mk : Value → Value} {R : List Int} {k : Nat} (ha : ∀ β s, renA β (args s) = args (ren β s)) (hm : ∀ β s, ren β (mk s) = mk (ren β s)) (hL : L ≠ [])
    (hk : k ≠ 1)
    (h : ∀ off cap, L.length ≤ cap → cap ≤ maxLen → CallsV P (.func f) (args (slw 1 off L.length cap)) [(1, win off (cwx fl1 off L))] (rt (mk (slw k 0 R.length capU))) [(k, .chan 1 ⟨R.flatMap fl1⟩ false 3 0 false), (1, win off (cwx fl1 off L))]) : New1 P f args L mk R := by
  intro w s hs
  rcases hs with ⟨rfl, e⟩ | ⟨B, off, cap, rfl, h1, h2, h3⟩
  · exact absurd e hL
  have := calls_wins (β := fun _ => (B, 0)) (h off cap h1 h2) (by rw [ha, ren_win (β := fun _ => (B, 0)) (i := 1) rfl h2]) (lie_1 (lie_win rfl (cwx_plain _ _) h3))
  refine this.mono ?_
  rintro e w' ⟨β', hb', rfl, hR, hb⟩
  have lk1 : look [(k, .chan 1 ⟨R.flatMap fl1⟩ false 3 0 false), (1, win off (cwx fl1 off L))] 1 = some (win off (cwx fl1 off L)) := by simp [look, hk]
  have lkk : look [(k, .chan 1 ⟨R.flatMap fl1⟩ false 3 0 false), (1, win off (cwx fl1 off L))] k = some (.chan 1 ⟨R.flatMap fl1⟩ false 3 0 false) := by simp [look]
  have hno : winO (.chan 1 ⟨R.flatMap fl1⟩ false 3 0 false) = false ∧ isLive (.chan 1 ⟨R.flatMap fl1⟩ false 3 0 false) = true := ⟨rfl, rfl⟩
  have hge : w.heap.size ≤ (β' k).1 := by
    rcases hR.own k (liveB_of lkk hno.2) with h4 | h4
    · exfalso
      obtain ⟨j, hj, e⟩ := rng_own.1 h4
      have hj1 : j = 1 := by
        unfold liveB at hj
        simp only [look] at hj
        split at hj
        · rename_i o' ho'
          split at ho'
          · rename_i e1; exact e1.symm
          · cases ho'
        · cases hj
      subst hj1
      have e2 : (β' k).1 = (β' 1).1 := by rw [hb' 1 rfl]; exact e.symm
      exact hk (hR.inj k 1 (liveB_of lkk hno.2) (liveB_of lk1 rfl) (winB_of lkk hno.1) e2)
    · exact h4
  have h5 := (hR.lies k _ lkk).1 rfl
  have hcm : (β' k).2 ≤ maxLen := by obtain ⟨_, _, h2, _⟩ := h5; exact h2
  exact ⟨(β' k).1, (β' k).2, by simp only [Res.out, hm, ren, renP, capR, if_true, shf0 (le_capU hcm), Nat.add_zero], hge, h5, hb⟩
/-- The same blocks in another order. -/
theorem callsV_perm {f : Nat} {args : Array Value} {H H' G : Hp} {r : Res} (h : CallsV P (.func f) args H r H') (hl : ∀ i, look G i = look H' i) : CallsV P (.func f) args H r G := by
  intro β w hR
  refine (h β w hR).mono ?_
  rintro e w' ⟨β', hb, rfl, hR'⟩
  exact ⟨β', hb, rfl, hR'.congr (fun _ _ => rfl) hl⟩
end
end Go.Proofs.Ytelohlpjgfknoaa

/- Configurations: what the document says of them, as plain functions. -/
namespace Go.Proofs.Ytelohlpjgfknoaa
open Go Go.RowKit
set_option linter.unusedSimpArgs false
set_option linter.unusedVariables false

abbrev wi (x : Int) : Int := IntKind.i64.wrap x
abbrev isI (x : Int) : Prop := -9223372036854775808 ≤ x ∧ x ≤ 9223372036854775807
abbrev str (l : List UInt8) : Value := .string ⟨⟨l⟩⟩
abbrev nBodies : List UInt8 := [98, 111, 100, 105, 101, 115]
abbrev nMass : List UInt8 := [109, 97, 115, 115]
abbrev nConst : List UInt8 := [99, 111, 110, 115, 116, 97, 110, 116]
abbrev nBox : List UInt8 := [98, 111, 120]
abbrev nTop : List UInt8 := [116, 111, 112]
abbrev nNear : List UInt8 := [110, 101, 97, 114]
abbrev nMeth : List UInt8 := [109, 101, 116, 104, 111, 100]
/-- Is a number from one to another? -/
def inZ (x lo hi : Int) : Bool := decide (lo ≤ x) && decide (x ≤ hi)
theorem inZ_iff {x lo hi : Int} : inZ x lo hi = true ↔ lo ≤ x ∧ x ≤ hi := by
  unfold inZ
  simp only [Bool.and_eq_true, decide_eq_true_eq]
def lightL (L : List Int) : Bool := L.all fun x => inZ x 1 1024
/-- The name of the first that is not so. -/
def whyL (L : List Int) (g b t' q m : Int) : List UInt8 :=
  if inZ (L.length : Int) 1 4 = false then nBodies else if lightL L = false then nMass else if inZ g 1 1048576 = false then nConst else if inZ b 1 1048576 = false then nBox
  else if inZ t' 1 65536 = false then nTop else if inZ q 1 (wi (2 * b)) = false then nNear else if inZ m 0 4 = false then nMeth else []
def chk (l : List UInt8) : Int := if l = [] then 0 else 110
def okL (L : List Int) (g b t' q m : Int) : Prop := whyL L g b t' q m = []
def rowL (L : List Int) (g b t' q m : Int) : List Int := (L.length : Int) :: (L ++ [g, b, t', q, m])
def totL (L : List Int) : Int := L.foldl (fun s x => wi (s + x)) 0
def pairsN (n : Int) : Int := wi ((wi (n * wi (n - 1))).tdiv 2)
theorem ok_parts {L : List Int} {g b t' q m : Int} (h : okL L g b t' q m) : (1 ≤ L.length ∧ L.length ≤ 4) ∧ lightL L = true ∧ inZ g 1 1048576 = true ∧ inZ b 1 1048576 = true ∧ inZ t' 1 65536 = true ∧ inZ q 1 (wi (2 * b)) = true ∧ inZ m 0 4 = true := by
  unfold okL whyL at h
  repeat' split at h
  all_goals first
    | (cases h; done)
    | skip
  rename_i h1 h2 h3 h4 h5 h6 h7
  simp only [Bool.not_eq_false] at h1 h2 h3 h4 h5 h6 h7
  have := inZ_iff.1 h1
  exact ⟨⟨by omega, by omega⟩, h2, h3, h4, h5, h6, h7⟩
theorem ren_cv (g b t' q m : Int) : ∀ (β : Num) (s : Value), renA β #[cv s g b t' q m] = #[cv (ren β s) g b t' q m] := fun _ _ => rfl
end Go.Proofs.Ytelohlpjgfknoaa
