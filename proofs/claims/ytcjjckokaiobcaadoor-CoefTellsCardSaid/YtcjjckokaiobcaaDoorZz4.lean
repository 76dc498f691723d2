/- Texts of the seat, joined. -/
import Derived.Test.YtcjjckokaiobcaaDoorZz3
import Derived.LoopNIn
import Derived.Test.YtcjjckokaiobcaaDoorProg
/- A walk by computation: calls whose answers are foretold. -/
namespace Go.Proofs.YtcjjckokaiobcaaDoor
open Go Go.RowKit
set_option linter.unusedSimpArgs false
set_option linter.unusedVariables false

/-- A call of plain values, wherever. -/
def PureX (P : Program) (f : FuncId) (args : Array Value) (r : Res) : Prop := ∀ w, GL w → Calls P f args w fun e w' => e = r.out idN ∧ Below w.heap.size w w'

theorem Rel.below {A : Nat → Prop} {w0 : World} {β : Num} {H : Hp} {w w' : World} (h : Rel A w0 β H w) (hb : Below w.heap.size w w') : Rel A w0 β H w' :=
  ⟨fun i o ho => by
    by_cases hl : isLive o = true
    · rw [hb.block _ (h.lt (liveB_of ho hl))]; exact h.lies i o ho
    · cases o with
      | coro p => exact trivial
      | _ => exact absurd rfl hl, h.inj, h.own, h.win, h.wf, h.kp.trans_below hb⟩

/-- The next call's answer as it is foretold; that is then owed. -/
def smA (P : Program) : CallF := fun fn args H c =>
  match fn, c.ans with
  | .func f, (g, r) :: rest => if Nat.beq f g && (wfA noB args && resOK noB r) then some (r, H, { c with ans := rest, obl := PureX P f args r :: c.obl }) else none
  | _, _ => none
theorem smA_ok (P : Program) : CallOK P (smA P) := by
  intro fn args H c r H' c' h
  unfold smA at h
  split at h
  case h_2 => cases h
  rename_i f g r0 rest hfn
  split at h
  case isFalse => cases h
  rename_i hc
  simp only [Option.some.injEq, Prod.mk.injEq] at h
  obtain ⟨rfl, rfl, rfl⟩ := h
  simp only [Bool.and_eq_true] at hc
  refine ⟨fun z => z.2, fun z _ _ β w hR => ?_⟩
  have hp := z.1 w hR.kp.glw
  have ha : renA β args = args := renA_plain β hc.2.1
  show Calls P f (renA β args) w _
  rw [ha]
  refine hp.mono ?_
  rintro e w' ⟨rfl, hb⟩
  refine ⟨β, fun _ _ => rfl, ?_, hR.below hb⟩
  cases r0 with
  | ret v =>
    simp only [Res.out]
    rw [ren_plain _ hc.2.2, ren_plain _ hc.2.2]
  | pan ch => rfl

def ctl1 (orc : List (Option Bool)) (ans : List (Nat × Res)) : Ctl := { n := 0, orc := orc, obl := [], log := [], ans := ans }
def Owed : List Prop → Prop
  | [] => True
  | p :: l => p ∧ Owed l
theorem allP_append : ∀ (l m : List Prop), AllP (l ++ m) ↔ AllP l ∧ AllP m
  | [], m => by simp [AllP]
  | p :: l, m => by simp only [List.cons_append, AllP, allP_append l m, and_assoc]
theorem allP_reverse : ∀ (l : List Prop), AllP l.reverse ↔ AllP l
  | [] => Iff.rfl
  | p :: l => by rw [List.reverse_cons, allP_append, allP_reverse l]; simp only [AllP, and_true]; exact and_comm

def runA (P : Program) (f : Nat) (args : Array Value) (orc : List (Option Bool)) (ans : List (Nat × Res)) : Option (Res × List Prop) :=
  (vfun P (smA P) 300 20 (.func f) args [] (ctl1 orc ans)).map fun x => (x.1, x.2.2.obl.reverse)
theorem runA_pure {P : Program} (hmix : P.follows .mixedOrders = true) {f : Nat} {args : Array Value} {orc : List (Option Bool)} {ans : List (Nat × Res)} {r : Res} {obl : List Prop}
    (h : runA P f args orc ans = some (r, obl)) (ho : AllP obl) (ha : wfA noB args = true) (hr : resOK noB r = true) : PureX P f args r := by
  intro w hg
  unfold runA at h
  rw [Option.map_eq_some_iff] at h
  obtain ⟨⟨r', H', c'⟩, h1, h2⟩ := h
  simp only [Prod.mk.injEq] at h2
  obtain ⟨rfl, rfl⟩ := h2
  have hd : domB [] = noB := rfl
  have := (vfun_ok (smA_ok P) hmix 300 20 _ _ _ _ _ _ _ h1).2 ((allP_reverse _).1 ho) rfl (by rw [hd]; exact ha) idN w (Rel.nil _ _ _ (gl_nil hg))
  have ha2 : renA idN args = args := renA_plain _ ha
  simp only [ha2] at this
  refine this.mono ?_
  rintro e w' ⟨β', _, rfl, hR⟩
  refine ⟨?_, hR.kp.below (Nat.le_refl _) ?_⟩
  · cases r' with
    | ret v =>
      simp only [Res.out]
      rw [ren_plain β' hr, ren_plain _ hr]
    | pan ch => rfl
  · rintro k ⟨i, hi, _⟩
    cases hi

end Go.Proofs.YtcjjckokaiobcaaDoor

/- A walk by computation: calls that are handed blocks, whose answers are foretold. -/
namespace Go.Proofs.YtcjjckokaiobcaaDoor
open Go Go.RowKit
set_option linter.unusedSimpArgs false
set_option linter.unusedVariables false

/-- The next call's answer as it is foretold, with the blocks behind it. -/
def smB (P : Program) : CallF := fun fn args H c =>
  match smA P fn args H c with
  | some r => some r
  | none =>
    match fn, c.bls with
    | .func f, (g, r, H') :: rest => if Nat.beq f g then some (r, H', { c with bls := rest, obl := CallsV P (.func f) args H r H' :: c.obl }) else none
    | _, _ => none
theorem smB_ok (P : Program) : CallOK P (smB P) := by
  intro fn args H c r H' c' h
  unfold smB at h
  split at h
  · rename_i r' hr
    cases h
    exact smA_ok P _ _ _ _ _ _ _ hr
  · split at h
    case h_2 => cases h
    rename_i f g r0 G rest hfn
    split at h
    case isFalse => cases h
    simp only [Option.some.injEq, Prod.mk.injEq] at h
    obtain ⟨rfl, rfl, rfl⟩ := h
    exact ⟨fun z => z.2, fun z _ _ => z.1⟩

def ctl2 (n : Nat) (orc : List (Option Bool)) (ans : List (Nat × Res)) (bls : List (Nat × Res × Hp)) : Ctl := { n := n, orc := orc, obl := [], log := [], ans := ans, bls := bls }
/-- A function that is handed blocks: what it hands back, how they then lie, what is owed. -/
def runB (P : Program) (f : Nat) (args : Array Value) (H : Hp) (orc : List (Option Bool)) (ans : List (Nat × Res)) (bls : List (Nat × Res × Hp)) : Option (Res × Hp × List Prop) :=
  (vfun P (smB P) 300 20 (.func f) args H (ctl2 1000 orc ans bls)).map fun x => (x.1, x.2.1.filter (fun e => domB H e.1), x.2.2.obl.reverse)

theorem runB_calls {P : Program} (hmix : P.follows .mixedOrders = true) {f : Nat} {args : Array Value} {H : Hp} {orc : List (Option Bool)} {ans : List (Nat × Res)} {bls : List (Nat × Res × Hp)} {r : Res} {H' : Hp} {obl : List Prop}
    (h : runB P f args H orc ans bls = some (r, H', obl)) (ho : AllP obl) (ha : wfA (domB H) args = true) (hc : closedH H' = true) (hr : resOK noB r = true) : CallsV P (.func f) args H r H' := by
  unfold runB at h
  rw [Option.map_eq_some_iff] at h
  obtain ⟨⟨r', H1, c'⟩, h1, h2⟩ := h
  simp only [Prod.mk.injEq] at h2
  obtain ⟨rfl, rfl, rfl⟩ := h2
  have key := (vfun_ok (smB_ok P) hmix 300 20 _ _ _ _ _ _ _ h1).2 ((allP_reverse _).1 ho) rfl ha
  intro β w hR
  refine (key β w hR).mono ?_
  rintro e w' ⟨β', hb, rfl, hR'⟩
  refine ⟨β', hb, rfl, hR'.part (fun i o hi => ?_) hc⟩
  rw [look_filter (fun k => domB H k)] at hi
  split at hi
  · exact hi
  · cases hi

/-- Blocks told otherwise. -/
theorem CallsV.to {P : Program} {f : Nat} {args : Array Value} {H H' G : Hp} {r s : Res} (h : CallsV P (.func f) args H r H') (hr : r = s) (hH : H' = G) : CallsV P (.func f) args H s G := by
  subst hr; subst hH; exact h

theorem runB_pure {P : Program} (hmix : P.follows .mixedOrders = true) {f : Nat} {args : Array Value} {orc : List (Option Bool)} {ans : List (Nat × Res)} {bls : List (Nat × Res × Hp)} {r : Res} {obl : List Prop}
    (h : runB P f args [] orc ans bls = some (r, [], obl)) (ho : AllP obl) (ha : wfA noB args = true) (hr : resOK noB r = true) : PureX P f args r := by
  intro w hg
  have := runB_calls hmix h ho ha rfl hr idN w (Rel.nil _ _ _ (gl_nil hg))
  have ha2 : renA idN args = args := renA_plain _ ha
  simp only [ha2] at this
  refine this.mono ?_
  rintro e w' ⟨β', _, rfl, hR⟩
  refine ⟨?_, hR.kp.below (Nat.le_refl _) ?_⟩
  · cases r with
    | ret v =>
      simp only [Res.out]
      rw [ren_plain β' hr, ren_plain _ hr]
    | pan ch => rfl
  · rintro k ⟨i, hi, _⟩
    cases hi

end Go.Proofs.YtcjjckokaiobcaaDoor

/- A walk by computation: functions that leave by a panic out of a region that draws its order. -/
namespace Go.Proofs.YtcjjckokaiobcaaDoor
open Go Go.RowKit
set_option linter.unusedSimpArgs false
set_option linter.unusedVariables false

/-- A function that ends so. -/
def runP (P : Program) (f : Nat) (args : Array Value) (H : Hp) (orc : List (Option Bool)) (ans : List (Nat × Res)) (bls : List (Nat × Res × Hp)) : Option (Res × Hp × List Prop) :=
  match P.funcs[f]? with
  | some fc =>
    match fc.body with
    | some body => (vpan P (vfun P (smB P) 300 19) none 300 300 body (frame0 fc args) H (ctl2 2000 orc ans bls)).map fun x => (.pan x.1, x.2.1.filter (fun e => domB H e.1), x.2.2.obl.reverse)
    | none => none
  | none => none
theorem runP_calls {P : Program} (hmix : P.follows .mixedOrders = true) {f : Nat} {args : Array Value} {H : Hp} {orc : List (Option Bool)} {ans : List (Nat × Res)} {bls : List (Nat × Res × Hp)} {r : Res} {H' : Hp} {obl : List Prop}
    (h : runP P f args H orc ans bls = some (r, H', obl)) (ho : AllP obl) (ha : wfA (domB H) args = true) (hc : closedH H' = true) : CallsV P (.func f) args H r H' := by
  unfold runP at h
  split at h
  case h_2 => cases h
  rename_i fc hf
  split at h
  case h_2 => cases h
  rename_i body hb
  rw [Option.map_eq_some_iff] at h
  obtain ⟨⟨ch, H1, c'⟩, h1, h2⟩ := h
  simp only [Prod.mk.injEq] at h2
  obtain ⟨rfl, rfl, rfl⟩ := h2
  obtain ⟨m1, d1, r1⟩ := vpan_spec (vfun_ok (smB_ok P) hmix 300 19) hmix none 300 300 body _ _ _ _ _ _ h1
  intro β w hR
  refine (callsIn_wide (n := 0)).1 (callsIn_of_wp_marks hf hb trivial (wpIn_mono (r1 ((allP_reverse _).1 ho) (fun l hl => by cases hl) 0 (rng β H) w β _ w (frame0_rel hR ha)) ?_))
  rintro e a' w' ⟨rfl, β', hb', hd, hR'⟩
  have hfin : LeavesInM Fence.wide 0 P fc a'.tmps (fun e w' => ∃ β', (∀ i, domB H i = true → β' i = β i) ∧ e = (Res.pan ch).out β' ∧ Rel (rng β H) w β' (H1.filter fun e => domB H e.1) w') a'.defers (.panicking ch) w' := by
    rw [hd]
    refine ⟨β', hb', rfl, hR'.part (fun i o hi => ?_) hc⟩
    rw [look_filter (fun k => domB H k)] at hi
    split at hi
    · exact hi
    · cases hi
  exact hfin

end Go.Proofs.YtcjjckokaiobcaaDoor

/- A walk by computation: loops of unknown length, round by round. -/
namespace Go.Proofs.YtcjjckokaiobcaaDoor
open Go Go.RowKit
set_option linter.unusedSimpArgs false
set_option linter.unusedVariables false

section
variable {P : Program}
/-- From here code comes to there. -/
def StepV (P : Program) (b : Code) (t : List Value) (D : List VDef) (H : Hp) (ex : Ex) (t' : List Value) (D' : List VDef) (H' : Hp) : Prop :=
  (∀ i, domB H i = true → domB H' i = true) ∧ ∀ (n0 : Nat) (A : Nat → Prop) (w0 : World) (β : Num) (a : Act) (w : World), RelA A w0 β D t H a w → b.wpIn Fence.wide n0 P (Came A w0 β H ex t' D' H') a w
theorem stepV_of {call : CallF} (hcall : CallOK P call) (hmix : P.follows .mixedOrders = true) {m : Nat} {b : Code} {t t' : List Value} {D D' : List VDef} {H H' : Hp} {c c' : Ctl} {ex : Ex}
    (h : vcode P call none m b t D H c = some (ex, t', D', H', c')) (ho : AllP c'.obl) : StepV P b t D H ex t' D' H' := by
  obtain ⟨m1, d1, r1⟩ := vcode_does hcall hmix none m _ _ _ _ _ _ _ _ _ _ h
  exact ⟨d1, fun n0 A w0 β a w hR => r1 ho (fun l hl => by cases hl) n0 A w0 β a w hR⟩
theorem StepV.seq {x y : Code} {t t1 t2 : List Value} {D D1 D2 : List VDef} {H H1 H2 : Hp} {ex : Ex} (h1 : StepV P x t D H .normal t1 D1 H1) (h2 : StepV P y t1 D1 H1 ex t2 D2 H2) : StepV P (.seq x y) t D H ex t2 D2 H2 := by
  refine ⟨fun i hi => h2.1 i (h1.1 i hi), fun n0 A w0 β a w hR => wpIn_seq (wpIn_mono (h1.2 n0 A w0 β a w hR) ?_)⟩
  rintro e a' w' ⟨rfl, β', hb, hR'⟩
  refine wpIn_mono (h2.2 n0 A w0 β' a' w' hR') ?_
  rintro e a'' w'' ⟨rfl, β'', hb', hR''⟩
  exact ⟨rfl, β'', fun i hi => (hb' i (h1.1 i hi)).trans (hb i hi), hR''⟩
theorem StepV.block {b : Code} {t t1 : List Value} {D D1 : List VDef} {H H1 : Hp} {id : Nat} (h : StepV P b t D H (.exit id) t1 D1 H1) : StepV P (.block id b) t D H .normal t1 D1 H1 := by
  refine ⟨h.1, fun n0 A w0 β a w hR => wpIn_block (wpIn_mono (h.2 n0 A w0 β a w hR) ?_)⟩
  rintro e a' w' ⟨rfl, hR'⟩
  simp only [Ex.out, Exit.inBlock, if_pos rfl]
  exact ⟨rfl, hR'⟩
theorem roundsIn_mono {F : Fence} {n : Nat} {b : Code} {Q Q' : Exit → Act → World → Prop} (hq : ∀ e a w, Q e a w → Q' e a w) : ∀ (m : Nat) (a : Act) (w : World), Code.roundsIn F n P b Q m a w → Code.roundsIn F n P b Q' m a w
  | 0, _, _, h => h
  | m + 1, a, w, h => wpIn_mono h (fun e a' w' h => by
    cases e with
    | normal => exact roundsIn_mono hq m a' w' h
    | _ => exact hq _ _ _ h)
/-- .. a loop, in so many rounds. -/
def LoopN (P : Program) (b : Code) (m : Nat) (t : List Value) (D : List VDef) (H : Hp) (ex : Ex) (t' : List Value) (D' : List VDef) (H' : Hp) : Prop :=
  (∀ i, domB H i = true → domB H' i = true) ∧ ∀ (n0 : Nat) (A : Nat → Prop) (w0 : World) (β : Num) (a : Act) (w : World), RelA A w0 β D t H a w → Code.roundsIn Fence.wide n0 P b (Came A w0 β H ex t' D' H') m a w
theorem LoopN.round {b : Code} {m : Nat} {t t1 t2 : List Value} {D D1 D2 : List VDef} {H H1 H2 : Hp} {ex : Ex} (h1 : StepV P b t D H .normal t1 D1 H1) (h2 : LoopN P b m t1 D1 H1 ex t2 D2 H2) : LoopN P b (m + 1) t D H ex t2 D2 H2 := by
  refine ⟨fun i hi => h2.1 i (h1.1 i hi), fun n0 A w0 β a w hR => wpIn_mono (h1.2 n0 A w0 β a w hR) ?_⟩
  rintro e a' w' ⟨rfl, β', hb, hR'⟩
  refine roundsIn_mono ?_ m a' w' (h2.2 n0 A w0 β' a' w' hR')
  rintro e a'' w'' ⟨rfl, β'', hb', hR''⟩
  exact ⟨rfl, β'', fun i hi => (hb' i (h1.1 i hi)).trans (hb i hi), hR''⟩
theorem LoopN.last {b : Code} {t t1 : List Value} {D D1 : List VDef} {H H1 : Hp} {id : Nat} (h1 : StepV P b t D H (.exit id) t1 D1 H1) : LoopN P b 1 t D H (.exit id) t1 D1 H1 := by
  refine ⟨h1.1, fun n0 A w0 β a w hR => wpIn_mono (h1.2 n0 A w0 β a w hR) ?_⟩
  rintro e a' w' ⟨rfl, hR'⟩
  exact ⟨rfl, hR'⟩
theorem LoopN.loop {b : Code} {m : Nat} {t t1 : List Value} {D D1 : List VDef} {H H1 : Hp} {ex : Ex} (h : LoopN P b m t D H ex t1 D1 H1) : StepV P (.loop b) t D H ex t1 D1 H1 :=
  ⟨h.1, fun n0 A w0 β a w hR => wpIn_loop_rounds m (h.2 n0 A w0 β a w hR)⟩
/-- A function that has come to its end. -/
theorem callsV_step {f : Nat} {fc : Func} {body : Code} (hf : P.funcs[f]? = some fc) (hb : fc.body = some body) {args : Array Value} {H H1 H' : Hp} {ex : Ex} {t1 : List Value} {v : Value}
    (h : StepV P body (frame0 fc args) [] H ex t1 [] H1) (he : exEnds ex = true) (hv : vresults P fc t1 H1 = some v) (ha : wfA (domB H) args = true) (hs : Sub H' H1) (hc : closedH H' = true) : CallsV P (.func f) args H (.ret v) H' := by
  intro β w hR
  refine (callsIn_wide (n := 0)).1 (callsIn_of_wp_marks hf hb trivial (wpIn_mono (h.2 0 (rng β H) w β _ w (frame0_rel hR ha)) ?_))
  rintro e a' w' ⟨rfl, β', hb', hRc⟩
  have hR' : RelA (rng β H) w β' [] t1 H1 a' w' := by
    cases ex with
    | pan ch => cases he
    | _ => exact hRc
  have hfin : LeavesInM Fence.wide 0 P fc a'.tmps (fun e w' => ∃ β', (∀ i, domB H i = true → β' i = β i) ∧ e = (Res.ret v).out β' ∧ Rel (rng β H) w β' H' w') a'.defers .returning w' := by
    rw [hR'.tm, hR'.df]
    exact ⟨ren β' v, vresults_run hR'.rel hv, β', hb', rfl, hR'.rel.part hs hc⟩
  cases ex with
  | normal => exact hfin
  | ret => exact hfin
  | _ => cases he

/-- Answers with blocks, of functions and of rounds of loops (1000000 and the record's number). -/
def smC (P : Program) : CallF := fun fn args H c =>
  match smB P fn args H c with
  | some r => some r
  | none =>
    match fn, c.bls with
    | .yield l, (g, r, H') :: rest => if Nat.beq (1000000 + l) g then some (r, H', { c with bls := rest, obl := CallsV P (.yield l) args H r H' :: c.obl }) else none
    | _, _ => none
theorem smC_ok (P : Program) : CallOK P (smC P) := by
  intro fn args H c r H' c' h
  unfold smC at h
  split at h
  · rename_i r' hr
    cases h
    exact smB_ok P _ _ _ _ _ _ _ hr
  · split at h
    case h_2 => cases h
    rename_i l g r0 G rest hfn
    split at h
    case isFalse => cases h
    simp only [Option.some.injEq, Prod.mk.injEq] at h
    obtain ⟨rfl, rfl, rfl⟩ := h
    exact ⟨fun z => z.2, fun z _ _ => z.1⟩
/-- A round of a loop. -/
def runY (P : Program) (l : Nat) (args : Array Value) (H : Hp) (orc : List (Option Bool)) (ans : List (Nat × Res)) (bls : List (Nat × Res × Hp)) : Option (Res × Hp × List Prop) :=
  (vfun P (smB P) 300 20 (.yield l) args H (ctl2 2000 orc ans bls)).map fun x => (x.1, x.2.1.filter (fun e => domB H e.1), x.2.2.obl.reverse)
theorem runY_calls {P : Program} (hmix : P.follows .mixedOrders = true) {l : Nat} {args : Array Value} {H : Hp} {orc : List (Option Bool)} {ans : List (Nat × Res)} {bls : List (Nat × Res × Hp)} {r : Res} {H' : Hp} {obl : List Prop}
    (h : runY P l args H orc ans bls = some (r, H', obl)) (ho : AllP obl) (hl : domB H l = true) (ha : wfA (domB H) args = true) (hc : closedH H' = true) : CallsV P (.yield l) args H r H' := by
  unfold runY at h
  rw [Option.map_eq_some_iff] at h
  obtain ⟨⟨r', H1, c'⟩, h1, h2⟩ := h
  simp only [Prod.mk.injEq] at h2
  obtain ⟨rfl, rfl, rfl⟩ := h2
  have key := (vfun_ok (smB_ok P) hmix 300 20 _ _ _ _ _ _ _ h1).2 ((allP_reverse _).1 ho) hl ha
  intro β w hR n
  have k2 := key β w hR n
  obtain ⟨fn, tmps, assign, body, hy, hr⟩ := k2
  refine ⟨fn, tmps, assign, body, hy, RoundIn.mono hr ?_⟩
  rintro e w' ⟨β', hb, rfl, hR'⟩
  refine ⟨β', hb, rfl, hR'.part (fun i o hi => ?_) hc⟩
  rw [look_filter (fun k => domB H k)] at hi
  split at hi
  · exact hi
  · cases hi
/-- Code from a state on, computed. -/
def runS (P : Program) (b : Code) (t : List Value) (H : Hp) (orc : List (Option Bool)) (ans : List (Nat × Res)) (bls : List (Nat × Res × Hp)) : Option (Ex × List Value × Hp × List Prop) :=
  match vcode P (vfun P (smC P) 300 19) none 300 b t [] H (ctl2 3000 orc ans bls) with
  | some (ex, t', [], H', c') => some (ex, t', H', c'.obl.reverse)
  | _ => none
theorem runS_step {P : Program} (hmix : P.follows .mixedOrders = true) {b : Code} {t t' : List Value} {H H' : Hp} {orc : List (Option Bool)} {ans : List (Nat × Res)} {bls : List (Nat × Res × Hp)} {ex : Ex} {obl : List Prop}
    (h : runS P b t H orc ans bls = some (ex, t', H', obl)) (ho : AllP obl) : StepV P b t [] H ex t' [] H' := by
  unfold runS at h
  split at h
  case h_2 => cases h
  rename_i ex1 t1 H1 c1 hv
  simp only [Option.some.injEq, Prod.mk.injEq] at h
  obtain ⟨rfl, rfl, rfl, rfl⟩ := h
  exact stepV_of (vfun_ok (smC_ok P) hmix 300 19) hmix hv ((allP_reverse _).1 ho)
end

end Go.Proofs.YtcjjckokaiobcaaDoor

/- A walk by computation: loops whose rounds leave blocks behind: blocks get their old numbers again. -/
namespace Go.Proofs.YtcjjckokaiobcaaDoor
open Go Go.RowKit
set_option linter.unusedSimpArgs false
set_option linter.unusedVariables false

def rnm (ρ : Nat → Nat) : Num := fun i => (ρ i, capU)
theorem capR_rnm (ρ : Nat → Nat) (i c : Nat) : capR (rnm ρ i) c = c := by
  unfold capR rnm
  split
  · rename_i h; exact h.symm
  · rfl
theorem renF_comp (β : Num) (ρ : Nat → Nat) (f : Fn) : renF β (renF (rnm ρ) f) = renF (fun i => β (ρ i)) f := by cases f <;> rfl
theorem renP_rnm (β : Num) (ρ : Nat → Nat) (a : Addr) : renP β (renP (rnm ρ) a) = renP (fun i => β (ρ i)) a := by
  have e : shf (rnm ρ a.block) = 0 := shf0 (Nat.le_refl _)
  simp only [renP, e, Nat.add_zero]
  rfl
mutual
theorem ren_comp (β : Num) (ρ : Nat → Nat) : ∀ v, ren β (ren (rnm ρ) v) = ren (fun i => β (ρ i)) v
  | .bool b => rfl
  | .int k m => rfl
  | .float k m => rfl
  | .complex k x y => rfl
  | .string s => rfl
  | .pointer none => rfl
  | .pointer (some a) => by simp only [ren, renP_rnm]
  | .slice none l c => rfl
  | .slice (some a) l c => by
    simp only [ren, capR_rnm, renP_rnm]
    rfl
  | .map none => rfl
  | .map (some r) => rfl
  | .chan none => rfl
  | .chan (some r) => rfl
  | .func fn first captured => by simp only [ren, renF_comp, renA_comp β ρ first, renA_comp β ρ captured]
  | .nilFunc => rfl
  | .iface t v => by simp only [ren, ren_comp β ρ v]
  | .nilIface => rfl
  | .agg cs => by simp only [ren, renA_comp β ρ cs]
  | .tuple cs => by simp only [ren, renA_comp β ρ cs]
theorem renA_comp (β : Num) (ρ : Nat → Nat) : ∀ v, renA β (renA (rnm ρ) v) = renA (fun i => β (ρ i)) v
  | ⟨l⟩ => by simp only [renA, renL_comp β ρ l]
theorem renL_comp (β : Num) (ρ : Nat → Nat) : ∀ v, renL β (renL (rnm ρ) v) = renL (fun i => β (ρ i)) v
  | [] => rfl
  | v :: l => by simp only [renL, ren_comp β ρ v, renL_comp β ρ l]
end
/-- A block whose blocks get other numbers. -/
def renO (ρ : Nat → Nat) : Obj → Obj
  | .cells c T fr => .cells (renA (rnm ρ) c) T fr
  | .loop r => .loop { r with tmps := renA (rnm ρ) r.tmps, defers := ρ r.defers }
  | .map es clock => .map (renEs (rnm ρ) es) clock
  | o => o
theorem renEs_comp (β : Num) (ρ : Nat → Nat) (es : Array MapEntry) : renEs β (renEs (rnm ρ) es) = renEs (fun i => β (ρ i)) es := by
  unfold renEs
  simp only [List.map_map]
  congr 1
  refine List.map_congr_left (fun e _ => ?_)
  simp only [Function.comp, ren_comp]
theorem lies_comp {β : Num} {ρ : Nat → Nat} {o : Obj} {cap : Nat} {x : Option Obj} (h : LiesO β cap (renO ρ o) x) : LiesO (fun i => β (ρ i)) cap o x := by
  cases o with
  | cells c T fr =>
    simp only [renO, LiesO, renA_comp] at h ⊢
    exact h
  | loop r =>
    simp only [renO, LiesO, renA_comp] at h ⊢
    exact h
  | map es clock =>
    simp only [renO, LiesO, renEs_comp] at h ⊢
    exact h
  | _ => exact h
/-- The same state by other numbers, some blocks left out. -/
structure Renum (H0 : Hp) (t1 : List Value) (D1 : List VDef) (H1 : Hp) (t2 : List Value) (D2 : List VDef) (H2 : Hp) (ρ : Nat → Nat) : Prop where
  fix : ∀ i, domB H0 i = true → ρ i = i
  tm : renL (rnm ρ) t2 = t1
  df : D2.map (renD (rnm ρ)) = D1.map (renD idN)
  at_ : ∀ i o, look H2 i = some o → isLive o = true → look H1 (ρ i) = some (renO ρ o)
  inj : ∀ i j, liveB H2 i = true → liveB H2 j = true → ρ i = ρ j → i = j
  wf : closedH H2 = true
  wt : wfL (domB H2) t2 = true
  wd : wfDs (domB H2) D2 = true
theorem renD_comp (β : Num) (ρ : Nat → Nat) (d : VDef) (e : VDef) (h : renD (rnm ρ) d = renD idN e) : renD (fun i => β (ρ i)) d = renD β e := by
  cases d with
  | mark r =>
    cases e with
    | mark s =>
      simp only [renD, Deferred.mk.injEq, Target.collected.injEq] at h
      have h1 : ρ r = s := h.1
      simp only [renD, h1]
    | fn f cap args => simp [renD] at h
  | fn f cap args =>
    cases e with
    | mark s => simp [renD] at h
    | fn g cap' args' =>
      simp only [renD, Deferred.mk.injEq, Target.fn.injEq, Fn.func.injEq, renA_id] at h
      obtain ⟨⟨rfl, h1⟩, h2⟩ := h
      simp only [renD, ← renA_comp, h1, h2]
theorem RelA.renum {A : Nat → Prop} {w0 : World} {β : Num} {H0 H1 H2 : Hp} {t1 t2 : List Value} {a : Act} {w : World} {ρ : Nat → Nat} (h : RelA A w0 β [] t1 H1 a w) (hr : Renum H0 t1 [] H1 t2 [] H2 ρ) : RelA A w0 (fun i => β (ρ i)) [] t2 H2 a w := by
  have hlv : ∀ i, liveB H2 i = true → liveB H1 (ρ i) = true := fun i hi => by
    obtain ⟨o, ho, hl⟩ := liveB_iff.1 hi
    refine liveB_of (hr.at_ i o ho hl) ?_
    cases o with
    | coro p => cases hl
    | _ => rfl
  have hwv : ∀ i, liveB H2 i = true → winB H2 i = winB H1 (ρ i) := fun i hi => by
    obtain ⟨o, ho, hl⟩ := liveB_iff.1 hi
    rw [winB_look ho, winB_look (hr.at_ i o ho hl)]
    cases o <;> rfl
  refine ⟨?_, h.df, hr.wt, hr.wd, ?_⟩
  · rw [h.tm, ← hr.tm, renL_comp]
  · refine ⟨fun i o ho => ?_, fun i j hi hj hw e => hr.inj i j hi hj (h.rel.inj _ _ (hlv i hi) (hlv j hj) (by rw [← hwv i hi]; exact hw) e), fun i hi => h.rel.own _ (hlv i hi), fun i hi => (by rw [hwv i hi]; exact h.rel.win _ (hlv i hi)), closedH_spec hr.wf, h.rel.kp⟩
    by_cases hl : isLive o = true
    · exact lies_comp (h.rel.lies _ _ (hr.at_ i o ho hl))
    · cases o with
      | coro p => exact trivial
      | _ => exact absurd rfl hl

section
variable {P : Program}
/-- Code from a state on, computed; new blocks are numbered from n on. -/
def runNS (P : Program) (n : Nat) (b : Code) (t : List Value) (H : Hp) (orc : List (Option Bool)) (ans : List (Nat × Res)) (bls : List (Nat × Res × Hp)) : Option (Ex × List Value × Hp × List Prop) :=
  match vcode P (vfun P (smC P) 300 19) none 300 b t [] H (ctl2 n orc ans bls) with
  | some (ex, t', [], H', c') => some (ex, t', H', c'.obl.reverse)
  | _ => none
theorem runNS_step (hmix : P.follows .mixedOrders = true) {n : Nat} {b : Code} {t t' : List Value} {H H' : Hp} {orc : List (Option Bool)} {ans : List (Nat × Res)} {bls : List (Nat × Res × Hp)} {ex : Ex} {obl : List Prop}
    (h : runNS P n b t H orc ans bls = some (ex, t', H', obl)) (ho : AllP obl) : StepV P b t [] H ex t' [] H' := by
  unfold runNS at h
  split at h
  case h_2 => cases h
  rename_i ex1 t1 H1 c1 hv
  simp only [Option.some.injEq, Prod.mk.injEq] at h
  obtain ⟨rfl, rfl, rfl, rfl⟩ := h
  exact stepV_of (vfun_ok (smC_ok P) hmix 300 19) hmix hv ((allP_reverse _).1 ho)
/-- A loop in so many rounds, seen from the blocks H0 that were there ahead of it. -/
def LoopI (P : Program) (b : Code) (H0 : Hp) (m : Nat) (t : List Value) (H : Hp) (ex : Ex) (t' : List Value) (H' : Hp) : Prop :=
  ∀ (n0 : Nat) (A : Nat → Prop) (w0 : World) (β β1 : Num) (a : Act) (w : World), (∀ i, domB H0 i = true → β1 i = β i) → RelA A w0 β1 [] t H a w → Code.roundsIn Fence.wide n0 P b (Came A w0 β H0 ex t' [] H') m a w
theorem LoopI.round {b : Code} {H0 : Hp} {m : Nat} {t t1 t2 t' : List Value} {H H1 H2 H' : Hp} {ex : Ex} {ρ : Nat → Nat} (hd : ∀ i, domB H0 i = true → domB H i = true) (h1 : StepV P b t [] H .normal t1 [] H1) (hr : Renum H0 t1 [] H1 t2 [] H2 ρ) (h2 : LoopI P b H0 m t2 H2 ex t' H') :
    LoopI P b H0 (m + 1) t H ex t' H' := by
  intro n0 A w0 β β1 a w hb hR
  refine wpIn_mono (h1.2 n0 A w0 β1 a w hR) ?_
  rintro e a' w' ⟨rfl, β', hb', hR'⟩
  have hR2 := RelA.renum (H0 := H0) hR' hr
  exact h2 n0 A w0 β _ a' w' (fun i hi => by rw [hr.fix i hi, hb' i (hd i hi), hb i hi]) hR2
theorem LoopI.last {b : Code} {H0 : Hp} {t t' : List Value} {H H' : Hp} {id : Nat} (hd : ∀ i, domB H0 i = true → domB H i = true) (h1 : StepV P b t [] H (.exit id) t' [] H') : LoopI P b H0 1 t H (.exit id) t' H' := by
  intro n0 A w0 β β1 a w hb hR
  refine wpIn_mono (h1.2 n0 A w0 β1 a w hR) ?_
  rintro e a' w' ⟨rfl, β', hb', hR'⟩
  exact ⟨rfl, β', fun i hi => (hb' i (hd i hi)).trans (hb i hi), hR'⟩
theorem LoopI.lastRet {b : Code} {H0 : Hp} {t t' : List Value} {H H' : Hp} (hd : ∀ i, domB H0 i = true → domB H i = true) (h1 : StepV P b t [] H .ret t' [] H') : LoopI P b H0 1 t H .ret t' H' := by
  intro n0 A w0 β β1 a w hb hR
  refine wpIn_mono (h1.2 n0 A w0 β1 a w hR) ?_
  rintro e a' w' ⟨rfl, β', hb', hR'⟩
  exact ⟨rfl, β', fun i hi => (hb' i (hd i hi)).trans (hb i hi), hR'⟩
theorem LoopI.loop {b : Code} {m : Nat} {t t1 : List Value} {H H1 : Hp} {ex : Ex} (hd : ∀ i, domB H i = true → domB H1 i = true) (h : LoopI P b H m t H ex t1 H1) : StepV P (.loop b) t [] H ex t1 [] H1 :=
  ⟨hd, fun n0 A w0 β a w hR => wpIn_loop_rounds m (h n0 A w0 β β a w (fun _ _ => rfl) hR)⟩
end

end Go.Proofs.YtcjjckokaiobcaaDoor

/- A walk by computation: code of a known function: ranges over a function whose rounds may panic. -/
namespace Go.Proofs.YtcjjckokaiobcaaDoor
open Go Go.RowKit
set_option linter.unusedSimpArgs false
set_option linter.unusedVariables false

section
variable {P : Program}
/-- What code does in a frame of one function. -/
def wpF (P : Program) (fid : FuncId) (c : Code) (Q : Exit → Act → World → Prop) (a : Act) (w : World) : Prop :=
  ∀ (b : Frame) (k : List Item) (cs : List Frame), b.roundOf = none → b.fn = fid →
    ∃ e a' w', Q e a' w' ∧ ArrivesIn (Machine.fenced P Fence.wide) P (lone (b.atR a (.code c :: k)) cs w) b k cs e a' w'
section
variable {fid : FuncId} {Q Q' : Exit → Act → World → Prop} {a : Act} {w : World}
theorem wpF_of {c : Code} (h : c.wpIn Fence.wide 0 P Q a w) : wpF P fid c Q a w := fun b k cs hro _ => h b k cs hro trivial (room_wide _)
theorem wpF_mono {c : Code} (h : wpF P fid c Q a w) (hq : ∀ e a w, Q e a w → Q' e a w) : wpF P fid c Q' a w := fun b k cs hro hb =>
  let ⟨e, a', w', q, r⟩ := h b k cs hro hb; ⟨e, a', w', hq _ _ _ q, r⟩
theorem wpF_seq {x y : Code} (h : wpF P fid x (Exit.then (wpF P fid y Q) Q) a w) : wpF P fid (.seq x y) Q a w := by
  intro b k cs hro hb
  have h0 : (lone (b.atR a (.code (.seq x y) :: k)) cs w).fenced P Fence.wide := fenced_wide P _
  obtain ⟨e, a₁, w₁, hq, harr⟩ := h b (.code y :: k) cs hro hb
  cases e with
  | normal =>
    obtain ⟨e₂, a₂, w₂, hq₂, harr₂⟩ := hq b k cs hro hb
    exact ⟨e₂, a₂, w₂, hq₂, .of_steps (.head h0 stepR_seq harr) harr₂⟩
  | exit id => exact ⟨_, a₁, w₁, hq, .of_steps (.one h0 stepR_seq) (.pass (x := .code y) rfl (fun _ _ => .inl (by simp)) harr)⟩
  | goto l => exact ⟨_, a₁, w₁, hq, .of_steps (.one h0 stepR_seq) (.pass (x := .code y) rfl (fun _ _ => .inl (by simp)) harr)⟩
  | ret => exact ⟨_, a₁, w₁, hq, .of_steps (.one h0 stepR_seq) (.pass (x := .code y) rfl (fun _ _ => .inl (by simp)) harr)⟩
  | panic ch => exact ⟨_, a₁, w₁, hq, .of_steps (.one h0 stepR_seq) (.pass (x := .code y) rfl (fun _ _ => .inl (by simp)) harr)⟩
  | outgrown => exact ⟨_, a₁, w₁, hq, .of_steps (.one h0 stepR_seq) (.pass (x := .code y) rfl (fun _ _ => .inl (by simp)) harr)⟩
theorem wpF_block_normal {id : Nat} {c : Code} (h : wpF P fid c (fun e a w => e = .normal ∧ Q .normal a w) a w) : wpF P fid (.block id c) Q a w := by
  intro b k cs hro hb
  have h0 : (lone (b.atR a (.code (.block id c) :: k)) cs w).fenced P Fence.wide := fenced_wide P _
  obtain ⟨e, a₁, w₁, ⟨rfl, hq⟩, harr⟩ := h b (.inBlock id :: k) cs hro hb
  exact ⟨.normal, a₁, w₁, hq, .head h0 stepR_block (StepsIn.trans harr (.one (fenced_wide P _) stepR_inBlock))⟩
theorem wpF_block_panic {id : Nat} {c : Code} {ch : List PanicEntry} (h : wpF P fid c (fun e a w => e = .panic ch ∧ Q (.panic ch) a w) a w) : wpF P fid (.block id c) Q a w := by
  intro b k cs hro hb
  have h0 : (lone (b.atR a (.code (.block id c) :: k)) cs w).fenced P Fence.wide := fenced_wide P _
  obtain ⟨e, a₁, w₁, ⟨rfl, hq⟩, todo, harr⟩ := h b (.inBlock id :: k) cs hro hb
  exact ⟨.panic ch, a₁, w₁, hq, todo, .head h0 stepR_block harr⟩
theorem wpF_range {g : Operand} {ps : Array Tmp} {assign body : Code}
    (h : ∃ (l : Nat) (mark : List Deferred) (w₁ : World) (d : Deferred) (w₁' : World) (f : FuncId) (args : Array Value) (w₂ : World),
      (Instr.enterLoop fid a.tmps ps assign body none).run P w = .ok (l, mark) w₁ ∧
      (resolve a.eval (rangeCall g l) 0).run P w₁ = .ok d w₁' ∧
      (invoke d.target d.args).run P w₁' = .ok (.enter f args) w₂ ∧
      Calls P f args w₂ (fun e w₃ => match e with
        | .returned _ => ∃ w₄, (Instr.endLoop l).run P w₃ = .ok none w₄ ∧ Q .normal { a with defers := mark ++ a.defers } w₄
        | .panicked chain => Q (.panic chain) { a with defers := mark ++ a.defers } w₃
        | .outgrown => False)) :
    wpF P fid (Code.rangeFunc g ps assign body) Q a w := by
  intro b k cs hro hb
  obtain ⟨l, mark, w₁, d, w₁', f, args, w₂, he, hres, hinv, hcall⟩ := h
  rw [← hb, ← hro] at he
  have henter := stepR_rangeFunc (P := P) (b := b) (a := a) (k := k) (cs := cs) (w := w) he hres hinv
  obtain ⟨e, w₃, fr, hR, hsteps, hfn, hleave⟩ := ((callsIn_wide (n := 0)).2 hcall).2 (b.atR { a with defers := mark ++ a.defers } (.inRangeFunc l :: k) :: cs) (room_wide _)
  cases e with
  | outgrown => exact hR.elim
  | returned v =>
    obtain ⟨w₄, hend, hj⟩ := hR
    have sback : StepsIn (Machine.fenced P Fence.wide) P (lone (b.atR a (.code (.rangeFunc g ps assign body) :: k)) cs w) (lone (b.atR { a with defers := mark ++ a.defers } k) cs w₄) := by
      have e1 := stepR_endRangeFunc (P := P) (b := b) (a := { a with defers := mark ++ a.defers }) (k := k) (cs := cs) hend
      refine .head (fenced_wide P _) henter (StepsIn.trans hsteps (.head (fenced_wide P _) ?_ (.one (fenced_wide P _) e1)))
      rw [← finish_atR_inRangeFunc l v]; exact step_leave_returned hleave
    exact ⟨.normal, _, w₄, hj, sback⟩
  | panicked chain =>
    refine ⟨.panic chain, _, w₃, hR, .inRangeFunc l :: k, .head (fenced_wide P _) henter (StepsIn.trans hsteps (.one (fenced_wide P _) ?_))⟩
    rw [← Frame.raise_atR]; exact step_leave_panicked hleave
end
theorem calls_of_wpF {f : FuncId} {fn : Func} {c : Code} {args : Array Value} {w : World} {R : Ending → World → Prop}
    (hf : P.funcs[f]? = some fn) (hb : fn.body = some c)
    (h : wpF P f c (bodyPostM Fence.wide 0 P fn R) { tmps := args ++ Array.replicate (fn.ntmps - args.size) undef, defers := [] } w) : Calls P f args w R := by
  refine (callsIn_wide (n := 0)).1 ⟨trivial, fun cs hr => ?_⟩
  let b : Frame := { (default : Frame) with fn := f, kind := .normal, roundOf := none }
  have henter : Frame.enter P f args .normal =
      b.atR { tmps := args ++ Array.replicate (fn.ntmps - args.size) undef, defers := [] } [.code c] := by
    simp [Frame.enter, Frame.atR, hf, hb, b]
  have hF : Fence.wide.fn f := trivial
  obtain ⟨e, a', w', hq, harr⟩ := h b [] cs rfl rfl
  rw [← henter] at harr
  cases e with
  | normal =>
    obtain ⟨e', w'', fr', hR, hs, hfn, hl⟩ := leaves_stepsInM a'.defers .returning w' { b.atR a' [] with mode := .returning } cs rfl rfl rfl hf rfl hF hr hq
    exact ⟨e', w'', fr', hR, ComesIn.of_steps (StepsIn.trans harr (.one (fenced_wide P _) (stepR_end rfl))) hs, hfn, hl⟩
  | ret =>
    obtain ⟨todo, hs₀⟩ := harr.1 rfl
    obtain ⟨e', w'', fr', hR, hs, hfn, hl⟩ := leaves_stepsInM a'.defers .returning w' { b.atR a' todo with mode := .returning } cs rfl rfl rfl hf rfl hF hr hq
    exact ⟨e', w'', fr', hR, ComesIn.of_steps hs₀ hs, hfn, hl⟩
  | panic chain =>
    obtain ⟨todo, hs₀⟩ := harr
    obtain ⟨e', w'', fr', hR, hs, hfn, hl⟩ := leaves_stepsInM a'.defers (.panicking chain) w' { b.atR a' todo with mode := .panicking chain } cs rfl rfl rfl hf rfl hF hr hq
    exact ⟨e', w'', fr', hR, ComesIn.of_steps hs₀ hs, hfn, hl⟩
  | exit id => exact hq.elim
  | goto l => exact hq.elim
  | outgrown => exact ⟨.outgrown, w', b, hq, harr.resolve_left (by simp [b]), rfl, trivial⟩

/-- From here code of a function comes to there. -/
def StepF (P : Program) (fid : FuncId) (b : Code) (t : List Value) (D : List VDef) (H : Hp) (ex : Ex) (t' : List Value) (D' : List VDef) (H' : Hp) : Prop :=
  (∀ i, domB H i = true → domB H' i = true) ∧ ∀ (A : Nat → Prop) (w0 : World) (β : Num) (a : Act) (w : World), RelA A w0 β D t H a w → wpF P fid b (Came A w0 β H ex t' D' H') a w
section
variable {fid : FuncId} {t t1 t2 : List Value} {D D1 D2 : List VDef} {H H1 H2 : Hp} {ex : Ex}
theorem StepF.of {b : Code} (h : StepV P b t D H ex t1 D1 H1) : StepF P fid b t D H ex t1 D1 H1 := ⟨h.1, fun A w0 β a w hR => wpF_of (h.2 0 A w0 β a w hR)⟩
theorem StepF.seq {x y : Code} (h1 : StepF P fid x t D H .normal t1 D1 H1) (h2 : StepF P fid y t1 D1 H1 ex t2 D2 H2) : StepF P fid (.seq x y) t D H ex t2 D2 H2 := by
  refine ⟨fun i hi => h2.1 i (h1.1 i hi), fun A w0 β a w hR => wpF_seq (wpF_mono (h1.2 A w0 β a w hR) ?_)⟩
  rintro e a' w' ⟨rfl, β', hb, hR'⟩
  refine wpF_mono (h2.2 A w0 β' a' w' hR') ?_
  rintro e a'' w'' ⟨rfl, β'', hb', hR''⟩
  exact ⟨rfl, β'', fun i hi => (hb' i (h1.1 i hi)).trans (hb i hi), hR''⟩
theorem StepF.seq_pan {x y : Code} {ch : List PanicEntry} (h1 : StepF P fid x t D H (.pan ch) t1 D1 H1) : StepF P fid (.seq x y) t D H (.pan ch) t1 D1 H1 := by
  refine ⟨h1.1, fun A w0 β a w hR => wpF_seq (wpF_mono (h1.2 A w0 β a w hR) ?_)⟩
  rintro e a' w' ⟨rfl, hR'⟩
  exact ⟨rfl, hR'⟩
theorem StepF.block {b : Code} {id : Nat} (h : StepF P fid b t D H .normal t1 D1 H1) : StepF P fid (.block id b) t D H .normal t1 D1 H1 := by
  refine ⟨h.1, fun A w0 β a w hR => wpF_block_normal (wpF_mono (h.2 A w0 β a w hR) ?_)⟩
  rintro e a' w' ⟨rfl, hR'⟩
  exact ⟨rfl, rfl, hR'⟩
theorem StepF.block_pan {b : Code} {id : Nat} {ch : List PanicEntry} (h : StepF P fid b t D H (.pan ch) t1 D1 H1) : StepF P fid (.block id b) t D H (.pan ch) t1 D1 H1 := by
  refine ⟨h.1, fun A w0 β a w hR => wpF_block_panic (ch := ch) (wpF_mono (h.2 A w0 β a w hR) ?_)⟩
  rintro e a' w' ⟨rfl, hR'⟩
  exact ⟨rfl, rfl, hR'⟩
/-- The blocks with a loop's record, whose function is known. -/
def recH (H : Hp) (t : List Value) (ps : Array Tmp) (assign body : Code) (c : Nat) (fid : FuncId) : Hp :=
  hput (hput H c (.deferred (some []))) (c + 1) (.loop { state := .ready, pending := none, fn := fid, tmps := t.toArray, params := ps, assign, body, defers := c })
theorem StepF.range {g : Operand} {ps : Array Tmp} {assign body : Code} {c : Nat} {f : FuncId} {first cap : Array Value} {rs : Res} {r : Loop}
    (hg : opdOK g = true) (hgv : vev t g = .func (.func f) first cap) (hbody : hasBody P f = true) (hn : domB H c = false) (hn1 : domB H (c + 1) = false) (hcl : closedH (recH H t ps assign body c fid) = true)
    (hcall : CallsV P (.func f) (first ++ #[.func (.yield (c + 1)) #[] #[]] ++ cap) (recH H t ps assign body c fid) rs H2) (hd : ∀ i, domB (recH H t ps assign body c fid) i = true → domB H2 i = true)
    (hlr : look H2 (c + 1) = some (.loop r)) (hend : (∃ v, rs = .ret v ∧ r.state ≠ .busy ∧ r.pending = none ∧ ex = .normal ∧ H1 = hput H2 (c + 1) (.loop { r with state := .exhausted })) ∨ (∃ ch, rs = .pan ch ∧ ex = .pan ch ∧ H1 = H2)) :
    StepF P fid (.rangeFunc g ps assign body) t D H ex t (.mark c :: D) H1 := by
  have hdr : ∀ i, domB H i = true → domB (recH H t ps assign body c fid) i = true := fun i hi => by unfold recH; rw [domB_hput, domB_hput, hi]; simp
  have hdc : domB (recH H t ps assign body c fid) c = true := by unfold recH; rw [domB_hput, domB_hput]; simp
  have hdc1 : domB (recH H t ps assign body c fid) (c + 1) = true := by unfold recH; rw [domB_hput]; simp
  have hdH1 : ∀ i, domB H2 i = true → domB H1 i = true := fun i hi => by
    rcases hend with ⟨_, _, _, _, _, rfl⟩ | ⟨_, _, _, rfl⟩
    · rw [domB_hput, hi, Bool.or_true]
    · exact hi
  refine ⟨fun i hi => hdH1 i (hd i (hdr i hi)), fun A w0 β a w hR => ?_⟩
  have hd1 : ∀ i, domB H i = true → domB (hput H c (.deferred (some []))) i = true := fun i hi => by rw [domB_hput, hi, Bool.or_true]
  have hag : ∀ i, domB H i = true → upd1 β c (w.heap.size, 0) i = β i := fun i hi => upd1_ne (fun e => by rw [e, hn] at hi; cases hi)
  have hn1' : domB (hput H c (.deferred (some []))) (c + 1) = false := by
    rw [domB_hput, hn1, decide_eq_false (by omega)]; rfl
  have hwt : wfA (domB (hput H c (.deferred (some [])))) t.toArray = true := wfL_mono hd1 t hR.wt
  have r1 := hR.rel.new hn (o := .deferred (some [])) (x := .deferred (some [])) (cap := 0) rfl rfl
  have r2 := r1.new hn1' (o := .loop { state := .ready, pending := none, fn := fid, tmps := t.toArray, params := ps, assign, body, defers := c })
    (x := .loop { state := .ready, pending := none, fn := fid, tmps := renA (upd1 β c (w.heap.size, 0)) t.toArray, params := ps, assign, body, defers := (upd1 β c (w.heap.size, 0) c).1 }) (cap := 0)
    (by simp only [wfO, Bool.and_eq_true]; exact ⟨hwt, by rw [domB_hput]; simp⟩) ⟨fid, fun _ => rfl, rfl⟩
  generalize hβ1 : upd1 (upd1 β c (w.heap.size, 0)) (c + 1) ((w.alloc (.deferred (some []))).heap.size, 0) = β1 at r2
  have hb1 : ∀ i, domB H i = true → β1 i = β i := fun i hi => by
    rw [← hβ1, upd1_ne (fun e => by rw [e, hn1] at hi; cases hi), hag i hi]
  have e2 : upd1 β c (w.heap.size, 0) c = (w.heap.size, 0) := upd1_self
  have hc0 : β1 c = (w.heap.size, 0) := by rw [← hβ1, upd1_ne (by omega), e2]
  have hc1 : β1 (c + 1) = (w.heap.size + 1, 0) := by rw [← hβ1, upd1_self]; simp
  have e1 : a.tmps = renA (upd1 β c (w.heap.size, 0)) t.toArray := by
    rw [hR.tm, ← renL_congr hag t hR.wt]; rfl
  rw [e2, ← e1] at r2
  have r2' : Rel A w0 β1 (recH H t ps assign body c fid) _ := r2
  clear r2
  generalize hHR : recH H t ps assign body c fid = HR at hdr hdc hdc1 hcl hcall hd r2'
  have hga : a.eval g = .func (.func f) (renA β first) (renA β cap) := by rw [hR.eval hg, hgv]; rfl
  have hgw := vev_wf hR.wt hg
  rw [hgv] at hgw
  simp only [wfV, Bool.and_eq_true] at hgw
  have hent := run_enterLoop_outer (P := P) (w := w) fid a.tmps ps assign body
  generalize hW1 : ((w.alloc (Obj.deferred (some []))).alloc (Obj.loop { state := .ready, pending := none, fn := fid, tmps := a.tmps, params := ps, assign := assign, body := body, defers := w.heap.size })) = W1 at r2' hent
  refine wpF_range ⟨w.heap.size + 1, [{ target := .collected w.heap.size, args := #[] }], W1, { target := .fn (.func f) (renA β cap), args := renA β first ++ #[.func (.yield (w.heap.size + 1)) #[] #[]] }, W1, f, renA β1 (first ++ #[.func (.yield (c + 1)) #[] #[]] ++ cap), W1, hent, ?_, ?_, ?_⟩
  · simp only [resolve, rangeCall, hga, Deferred.ofValue]
    simp [Act.eval]
  · simp only [invoke]
    rw [callFunc_run hbody, renA_map, renA_map, renA_map, Array.map_append, Array.map_append]
    have ef := renA_congr hb1 first hgw.1.2
    have ec := renA_congr hb1 cap hgw.2
    rw [renA_map, renA_map] at ef ec
    rw [ef, ec]
    simp [ren, renF, renA, renL, hc1]
  · have hcv1 := hcall β1 _ (r2'.sub (fun _ _ h => h) hcl)
    refine hcv1.mono ?_
    rintro e w2 ⟨β', hx, rfl, hk⟩
    obtain ⟨hbk1, hbk2⟩ := r2'.back (fun _ _ h => h) hk hx hd (fun i _ => by cases h : domB HR i <;> simp)
    have hlk : ∀ i, look H2 i = look (merge H2 HR) i := fun i => by
      rw [look_merge]
      cases hh : look H2 i with
      | some o => rfl
      | none =>
        simp only
        cases hh2 : look HR i with
        | none => rfl
        | some o =>
          have := hd i (domB_of hh2)
          unfold domB at this
          rw [hh] at this
          cases this
    have hbk := hbk1.congr (fun _ _ => rfl) hlk
    clear hbk1 hbk2
    generalize hβ2 : (fun i => if domB HR i = true then β1 i else β' i) = β2 at hbk
    have hx2 : ∀ i, domB HR i = true → β2 i = β1 i := fun i hi => by rw [← hβ2]; exact if_pos hi
    have hag2 : ∀ i, domB H i = true → β2 i = β i := fun i hi => (hx2 i (hdr i hi)).trans (hb1 i hi)
    have mk : ∀ (H' : Hp) (w4 : World), (∀ i, domB H2 i = true → domB H' i = true) → Rel A w0 β2 H' w4 → RelA A w0 β2 (.mark c :: D) t H' { a with defers := [{ target := .collected w.heap.size, args := #[] }] ++ a.defers } w4 := fun H' w4 hH' hR4 =>
      ⟨by rw [renL_congr hag2 t hR.wt]; exact hR.tm, by
        show _ :: a.defers = _
        rw [List.map_cons, hR.df, renDs_congr hag2 hR.wd]
        simp only [renD, hx2 c hdc, hc0], wfL_mono (fun i hi => hH' i (hd i (hdr i hi))) t hR.wt, by
        unfold wfDs
        rw [List.all_cons, Bool.and_eq_true]
        exact ⟨hH' c (hd c hdc), wfDs_mono (fun i hi => hH' i (hd i (hdr i hi))) hR.wd⟩, hR4⟩
    rcases hend with ⟨v, rfl, hbusy, hpend, rfl, rfl⟩ | ⟨ch, rfl, rfl, rfl⟩
    · simp only [Res.out]
      obtain ⟨fn', hfn', hrec⟩ := hbk.lies (c + 1) _ hlr
      rw [hx2 (c + 1) hdc1, hc1] at hrec
      have hwfr := hbk.wf (c + 1) _ hlr
      have hfin := run_endLoop (P := P) hrec hbusy
      have hR3 := hbk.obj (b := c + 1) (liveB_of hlr rfl) (winB_of hlr rfl) (o := .loop { r with state := .exhausted }) (x := .loop { r with state := .exhausted, fn := fn', tmps := renA β2 r.tmps, defers := (β2 r.defers).1 }) hwfr ⟨fn', hfn', rfl⟩
      rw [hx2 (c + 1) hdc1, hc1] at hR3
      generalize hW4 : w2.putObj (w.heap.size + 1) _ = W4 at hfin hR3
      rw [hpend] at hfin
      exact ⟨_, hfin, rfl, β2, hag2, mk _ _ (fun i hi => by rw [domB_hput, hi, Bool.or_true]) hR3⟩
    · simp only [Res.out]
      exact ⟨rfl, β2, hag2, t, .inr rfl, mk _ _ (fun _ h => h) hbk⟩
/-- A function that has come to its end, with what then waits. -/
theorem callsV_stepF {f : Nat} {fc : Func} {body : Code} (hf : P.funcs[f]? = some fc) (hb : fc.body = some body) {args : Array Value} {G H' : Hp} {u : FrameMode} {r : Res} {c' : Ctl}
    (hmix : P.follows .mixedOrders = true) (h : StepF P f body (frame0 fc args) [] H ex t1 D1 H1) (hu : modeOf ex = some u) (hD : D1 ≠ []) (hv : vleave P noSm 1 fc t1 D1 u H1 (ctl0 []) = some (r, H', c')) (ho : AllP c'.obl) (ha : wfA (domB H) args = true)
    (hs : Sub G H') (hc : closedH G = true) : CallsV P (.func f) args H r G := by
  intro β w hR
  obtain ⟨m1, d1, r1⟩ := vleave_does noSm_ok hmix _ _ _ _ _ _ _ hv
  refine calls_of_wpF hf hb (wpF_mono (h.2 (rng β H) w β _ w (frame0_rel hR ha)) ?_)
  rintro e a' w' ⟨rfl, β', hb', hRc⟩
  have hR' : RelA (rng β H) w β' D1 t1 H1 a' w' := by
    cases ex with
    | pan ch =>
      obtain ⟨t2, h1, h2⟩ := hRc
      rcases h1 with h1 | h1
      · exact absurd h1 hD
      · rw [← h1]; exact h2
    | _ => exact hRc
  have hfin : LeavesInM Fence.wide 0 P fc a'.tmps (fun e w' => ∃ β', (∀ i, domB H i = true → β' i = β i) ∧ e = r.out β' ∧ Rel (rng β H) w β' G w') a'.defers u w' := by
    rw [hR'.tm, hR'.df]
    refine leavesInM_mono ?_ _ _ _ (r1 ho 0 (rng β H) w β' w' hR'.rel hR'.wd hR'.wt)
    rintro e w'' ⟨β'', hb2, he, hR2⟩
    exact ⟨β'', fun i hi => (hb2 i (h.1 i hi)).trans (hb' i hi), he, hR2.part hs hc⟩
  cases ex with
  | normal => simp only [modeOf, Option.some.injEq] at hu; subst hu; exact hfin
  | ret => simp only [modeOf, Option.some.injEq] at hu; subst hu; exact hfin
  | pan ch => simp only [modeOf, Option.some.injEq] at hu; subst hu; exact hfin
  | exit id => cases hu
  | goto l => cases hu
end
end

end Go.Proofs.YtcjjckokaiobcaaDoor

/- A walk by computation: steps and loops over blocks that are not looked into. -/
namespace Go.Proofs.YtcjjckokaiobcaaDoor
open Go Go.RowKit
set_option linter.unusedSimpArgs false
set_option linter.unusedVariables false

section
variable {P : Program}
theorem domB_opq {H : Hp} {k z : Nat} {c : Array Value} {T : TypeId} (h : domB H k = true) (i : Nat) : domB (hput H k (opq z c T)) i = domB H i := by
  rw [domB_hput]
  by_cases hi : i = k
  · subst hi; rw [h, Bool.or_true]
  · rw [decide_eq_false hi, Bool.false_or]
theorem RelA.opaq {A : Nat → Prop} {w0 : World} {β : Num} {D : List VDef} {t : List Value} {H : Hp} {a : Act} {w : World} (h : RelA A w0 β D t H a w) {k z : Nat} {c : Array Value} {T : TypeId} (hb : look H k = some (.cells c T (1, z))) (hc : wfA noB c = true) : RelA A w0 β D t (hput H k (opq z c T)) a w :=
  ⟨h.tm, h.df, wfL_mono (fun i hi => by rw [domB_opq (domB_of hb)]; exact hi) _ h.wt, wfDs_mono (fun i hi => by rw [domB_opq (domB_of hb)]; exact hi) h.wd, h.rel.opaq hb hc⟩
theorem StepV.opaq {b : Code} {t t1 : List Value} {D D1 : List VDef} {H H1 : Hp} {ex : Ex} (h : StepV P b t D H ex t1 D1 H1) {k z : Nat} {c : Array Value} {T : TypeId} (hb : look H1 k = some (.cells c T (1, z))) (hc : wfA noB c = true) : StepV P b t D H ex t1 D1 (hput H1 k (opq z c T)) := by
  refine ⟨fun i hi => by rw [domB_opq (domB_of hb)]; exact h.1 i hi, fun n0 A w0 β a w hR => wpIn_mono (h.2 n0 A w0 β a w hR) ?_⟩
  rintro e a' w' ⟨rfl, β', hb', hC⟩
  refine ⟨rfl, β', hb', ?_⟩
  cases ex with
  | pan ch => obtain ⟨t2, h1, h2⟩ := hC; exact ⟨t2, h1, h2.opaq hb hc⟩
  | _ => exact RelA.opaq hC hb hc
theorem StepV.renum {b : Code} {t t1 t2 : List Value} {H H1 H2 : Hp} {ex : Ex} {ρ : Nat → Nat} (h : StepV P b t [] H ex t1 [] H1) (hr : Renum H t1 [] H1 t2 [] H2 ρ) (hd : ∀ i, domB H i = true → domB H2 i = true) (he : exEnds ex = true ∨ ex = .normal ∨ ∃ id, ex = .exit id) : StepV P b t [] H ex t2 [] H2 := by
  refine ⟨hd, fun n0 A w0 β a w hR => wpIn_mono (h.2 n0 A w0 β a w hR) ?_⟩
  rintro e a' w' ⟨rfl, β', hb', hC⟩
  refine ⟨rfl, fun i => β' (ρ i), fun i hi => by show β' (ρ i) = β i; rw [hr.fix i hi]; exact hb' i hi, ?_⟩
  cases ex with
  | pan ch => rcases he with he | he | ⟨_, he⟩ <;> cases he
  | _ => exact RelA.renum (H0 := H) hC hr
theorem StepV.to {b : Code} {t t1 t2 : List Value} {D D1 : List VDef} {H H1 H2 : Hp} {ex : Ex} (h : StepV P b t D H ex t1 D1 H1) (ht : t1 = t2) (hH : H1 = H2) : StepV P b t D H ex t2 D1 H2 := by
  subst ht; subst hH; exact h
/-- As runNS, with what is read of blocks that are not looked into. -/
def runLS (P : Program) (n : Nat) (b : Code) (t : List Value) (H : Hp) (orc : List (Option Bool)) (ans : List (Nat × Res)) (bls : List (Nat × Res × Hp)) (lds : List (List Value)) : Option (Ex × List Value × Hp × List Prop) :=
  match vcode P (vfun P (smC P) 300 19) none 300 b t [] H { ctl2 n orc ans bls with lds := lds } with
  | some (ex, t', [], H', c') => some (ex, t', H', c'.obl.reverse)
  | _ => none
theorem runLS_step (hmix : P.follows .mixedOrders = true) {n : Nat} {b : Code} {t t' : List Value} {H H' : Hp} {orc : List (Option Bool)} {ans : List (Nat × Res)} {bls : List (Nat × Res × Hp)} {lds : List (List Value)} {ex : Ex} {obl : List Prop}
    (h : runLS P n b t H orc ans bls lds = some (ex, t', H', obl)) (ho : AllP obl) : StepV P b t [] H ex t' [] H' := by
  unfold runLS at h
  split at h
  case h_2 => cases h
  rename_i ex1 t1 H1 c1 hv
  simp only [Option.some.injEq, Prod.mk.injEq] at h
  obtain ⟨rfl, rfl, rfl, rfl⟩ := h
  exact stepV_of (vfun_ok (smC_ok P) hmix 300 19) hmix hv ((allP_reverse _).1 ho)
/-- As runB, with what is read of blocks that are not looked into. -/
def runLB (P : Program) (f : Nat) (args : Array Value) (H : Hp) (orc : List (Option Bool)) (ans : List (Nat × Res)) (bls : List (Nat × Res × Hp)) (lds : List (List Value)) : Option (Res × Hp × List Prop) :=
  (vfun P (smB P) 300 20 (.func f) args H { ctl2 1000 orc ans bls with lds := lds }).map fun x => (x.1, x.2.1.filter (fun e => domB H e.1), x.2.2.obl.reverse)
theorem runLB_calls (hmix : P.follows .mixedOrders = true) {f : Nat} {args : Array Value} {H : Hp} {orc : List (Option Bool)} {ans : List (Nat × Res)} {bls : List (Nat × Res × Hp)} {lds : List (List Value)} {r : Res} {H' : Hp} {obl : List Prop}
    (h : runLB P f args H orc ans bls lds = some (r, H', obl)) (ho : AllP obl) (ha : wfA (domB H) args = true) (hc : closedH H' = true) (hr : resOK noB r = true) : CallsV P (.func f) args H r H' := by
  unfold runLB at h
  rw [Option.map_eq_some_iff] at h
  obtain ⟨⟨r', H1, c'⟩, h1, h2⟩ := h
  simp only [Prod.mk.injEq] at h2
  obtain ⟨rfl, rfl, rfl⟩ := h2
  have key := (vfun_ok (smB_ok P) hmix 300 20 _ _ _ _ _ _ _ h1).2 ((allP_reverse _).1 ho) rfl ha
  intro β w hR
  refine (key β w hR).mono ?_
  rintro e w' ⟨β', hb, rfl, hR'⟩
  refine ⟨β', hb, rfl, hR'.part (fun i o hi => ?_) hc⟩
  rw [look_filter (fun k => domB H k)] at hi
  split at hi
  · exact hi
  · cases hi
end

end Go.Proofs.YtcjjckokaiobcaaDoor

/- A walk by computation: blocks told in another order, and by other numbers. -/
namespace Go.Proofs.YtcjjckokaiobcaaDoor
open Go Go.RowKit
set_option linter.unusedSimpArgs false
set_option linter.unusedVariables false

def EqAt (G H : Hp) : Hp → Prop
  | [] => True
  | (k, _) :: r => look G k = look H k ∧ EqAt G H r
theorem eqAt_mem {G H : Hp} : ∀ {L : Hp}, EqAt G H L → ∀ e ∈ L, look G e.1 = look H e.1
  | [], _, _, h => by cases h
  | (k, o) :: r, h, e, he => by
    rcases List.mem_cons.1 he with rfl | he
    · exact h.1
    · exact eqAt_mem h.2 e he
theorem look_eq {G H : Hp} (h1 : EqAt G H G) (h2 : EqAt G H H) (i : Nat) : look G i = look H i := by
  by_cases a : domB G i = true
  · obtain ⟨e, he, rfl⟩ := memK G i a
    exact eqAt_mem h1 e he
  · by_cases b : domB H i = true
    · obtain ⟨e, he, rfl⟩ := memK H i b
      exact eqAt_mem h2 e he
    · have a' : look G i = none := by unfold domB at a; cases hg : look G i <;> simp_all
      have b' : look H i = none := by unfold domB at b; cases hg : look H i <;> simp_all
      rw [a', b']

section
variable {P : Program}
theorem RelA.congrH {A : Nat → Prop} {w0 : World} {β : Num} {D : List VDef} {t : List Value} {H G : Hp} {a : Act} {w : World} (h : RelA A w0 β D t H a w) (hl : ∀ i, look G i = look H i) : RelA A w0 β D t G a w := by
  have hd : ∀ i, domB G i = domB H i := fun i => by unfold domB; rw [hl]
  exact ⟨h.tm, h.df, wfL_mono (fun i hi => by rw [hd]; exact hi) _ h.wt, wfDs_mono (fun i hi => by rw [hd]; exact hi) h.wd, h.rel.congr (fun _ _ => rfl) hl⟩
theorem StepV.perm {b : Code} {t t1 : List Value} {D D1 : List VDef} {H H1 G : Hp} {ex : Ex} (h : StepV P b t D H ex t1 D1 H1) (hl : ∀ i, look G i = look H1 i) : StepV P b t D H ex t1 D1 G := by
  refine ⟨fun i hi => by have := h.1 i hi; unfold domB at this ⊢; rw [hl]; exact this, fun n0 A w0 β a w hR => wpIn_mono (h.2 n0 A w0 β a w hR) ?_⟩
  rintro e a' w' ⟨rfl, β', hb', hC⟩
  refine ⟨rfl, β', hb', ?_⟩
  cases ex with
  | pan ch => obtain ⟨t2, h1, h2⟩ := hC; exact ⟨t2, h1, h2.congrH hl⟩
  | _ => exact RelA.congrH hC hl
theorem StepV.pre {b : Code} {t t1 : List Value} {D D1 : List VDef} {H H1 G : Hp} {ex : Ex} (h : StepV P b t D H ex t1 D1 H1) (hl : ∀ i, look G i = look H i) : StepV P b t D G ex t1 D1 H1 := by
  have hd : ∀ i, domB G i = domB H i := fun i => by unfold domB; rw [hl]
  refine ⟨fun i hi => h.1 i (by rw [← hd]; exact hi), fun n0 A w0 β a w hR => wpIn_mono (h.2 n0 A w0 β a w (hR.congrH (fun i => (hl i).symm))) ?_⟩
  rintro e a' w' ⟨rfl, β', hb', hC⟩
  exact ⟨rfl, β', fun i hi => hb' i (by rw [← hd]; exact hi), hC⟩
end

/-- Another number for some blocks. -/
def rho (l : List (Nat × Nat)) (i : Nat) : Nat := match l.lookup i with | some j => j | none => i
def AtOK (H1 : Hp) (ρ : Nat → Nat) : Hp → Prop
  | [] => True
  | (k, o) :: r => (isLive o = true → look H1 (ρ k) = some (renO ρ o)) ∧ AtOK H1 ρ r
theorem atOK_look {H1 : Hp} {ρ : Nat → Nat} : ∀ {H2 : Hp}, AtOK H1 ρ H2 → ∀ i o, look H2 i = some o → isLive o = true → look H1 (ρ i) = some (renO ρ o)
  | [], _, _, _, h, _ => by cases h
  | (k, x) :: r, h, i, o, ho, hl => by
    simp only [look] at ho
    split at ho
    · rename_i e
      simp only [Option.some.injEq] at ho
      subst ho
      subst e
      exact h.1 hl
    · exact atOK_look h.2 i o ho hl
def injB (ρ : Nat → Nat) : List Nat → Bool
  | [] => true
  | k :: r => (r.all fun j => j == k || !(ρ j == ρ k)) && injB ρ r
theorem injB_ok {ρ : Nat → Nat} : ∀ {l : List Nat}, injB ρ l = true → ∀ i ∈ l, ∀ j ∈ l, ρ i = ρ j → i = j
  | [], _, _, h, _, _, _ => by cases h
  | k :: r, h, i, hi, j, hj, e => by
    simp only [injB, Bool.and_eq_true, List.all_eq_true, Bool.or_eq_true, beq_iff_eq, Bool.not_eq_true', beq_eq_false_iff_ne] at h
    rcases List.mem_cons.1 hi with rfl | hi' <;> rcases List.mem_cons.1 hj with rfl | hj'
    · rfl
    · rcases h.1 j hj' with h1 | h1
      · exact h1.symm
      · exact absurd e.symm h1
    · rcases h.1 i hi' with h1 | h1
      · exact h1
      · exact absurd e h1
    · exact injB_ok h.2 i hi' j hj' e
def liveKs : Hp → List Nat
  | [] => []
  | (k, o) :: r => if isLive o then k :: liveKs r else liveKs r
theorem liveKs_ok : ∀ {H : Hp} {i : Nat}, liveB H i = true → i ∈ liveKs H
  | [], _, h => by simp [liveB, look] at h
  | (k, o) :: r, i, h => by
    unfold liveB at h
    simp only [look] at h
    by_cases e : k = i
    · subst e
      simp only [if_true] at h
      simp [liveKs, h]
    · rw [if_neg e] at h
      have := liveKs_ok (H := r) (i := i) h
      unfold liveKs
      split
      · exact List.mem_cons_of_mem _ this
      · exact this
theorem renum_of {H0 H1 H2 : Hp} {t1 t2 : List Value} {ρ : Nat → Nat} (hfix : H0.all (fun e => ρ e.1 == e.1) = true) (htm : renL (rnm ρ) t2 = t1) (hat : AtOK H1 ρ H2) (hinj : injB ρ (liveKs H2) = true) (hwf : closedH H2 = true) (hwt : wfL (domB H2) t2 = true) : Renum H0 t1 [] H1 t2 [] H2 ρ := by
  refine ⟨fun i hi => ?_, htm, rfl, atOK_look hat, fun i j hi hj e => injB_ok hinj i (liveKs_ok hi) j (liveKs_ok hj) e, hwf, hwt, rfl⟩
  obtain ⟨e, he, rfl⟩ := memK H0 i hi
  have := List.all_eq_true.1 hfix e he
  simpa using this

end Go.Proofs.YtcjjckokaiobcaaDoor

/- A walk by computation: functions whose own ranges over a function may be left by a panic. -/
namespace Go.Proofs.YtcjjckokaiobcaaDoor
open Go Go.RowKit
set_option linter.unusedSimpArgs false
set_option linter.unusedVariables false

section
variable {P : Program} {fid : FuncId} {t t1 t2 : List Value} {D D1 D2 : List VDef} {H H1 H2 : Hp} {ex : Ex}
theorem StepF.seq_ret {x y : Code} (h1 : StepF P fid x t D H .ret t1 D1 H1) : StepF P fid (.seq x y) t D H .ret t1 D1 H1 := by
  refine ⟨h1.1, fun A w0 β a w hR => wpF_seq (wpF_mono (h1.2 A w0 β a w hR) ?_)⟩
  rintro e a' w' ⟨rfl, hR'⟩
  exact ⟨rfl, hR'⟩

/-- Code of a known function. -/
def vcodeF (P : Program) (call : CallF) (fid : FuncId) : Nat → Code → List Value → List VDef → Hp → Ctl → Option (Ex × List Value × List VDef × Hp × Ctl)
  | 0, _, _, _, _, _ => none
  | n + 1, k, t, D, H, c =>
    match k with
    | .seq x y =>
      match vcodeF P call fid n x t D H c with
      | some (.normal, t1, D1, H1, c1) => vcodeF P call fid n y t1 D1 H1 c1
      | some (.pan ch, t1, D1, H1, c1) => some (.pan ch, t1, D1, H1, c1)
      | some (.ret, t1, D1, H1, c1) => some (.ret, t1, D1, H1, c1)
      | _ => none
    | .block id x =>
      match vcodeF P call fid n x t D H c with
      | some (.normal, t1, D1, H1, c1) => some (.normal, t1, D1, H1, c1)
      | some (.pan ch, t1, D1, H1, c1) => some (.pan ch, t1, D1, H1, c1)
      | _ => none
    | .rangeFunc g ps assign body =>
      if opdOK g then
        match vev t g with
        | .func (.func f) first cap =>
          if hasBody P f && (!domB H c.n && (!domB H (c.n + 1) && (closedH (recH H t ps assign body c.n fid) && wfA (domB (recH H t ps assign body c.n fid)) (first ++ #[.func (.yield (c.n + 1)) #[] #[]] ++ cap)))) then
            match call (.func f) (first ++ #[.func (.yield (c.n + 1)) #[] #[]] ++ cap) (recH H t ps assign body c.n fid) { c with n := c.n + 2 } with
            | some (rs, H2, c2) =>
              if (recH H t ps assign body c.n fid).all fun e => domB H2 e.1 then
                match look H2 (c.n + 1) with
                | some (.loop r) =>
                  match rs with
                  | .ret v =>
                    if r.state = .busy then none
                    else
                      match r.pending with
                      | none => some (.normal, t, .mark c.n :: D, hput H2 (c.n + 1) (.loop { r with state := .exhausted }), c2)
                      | some _ => none
                  | .pan ch => some (.pan ch, t, .mark c.n :: D, H2, c2)
                | _ => none
              else none
            | none => none
          else none
        | _ => none
      else none
    | k => vcode P call none n k t D H c

theorem all_dom {G H : Hp} (h : (G.all fun e => domB H e.1) = true) : ∀ i, domB G i = true → domB H i = true := fun i hi => by
  obtain ⟨e, he, rfl⟩ := memK _ _ hi
  exact List.all_eq_true.1 h e he

theorem vcodeF_does {call : CallF} (hcall : CallOK P call) (hmix : P.follows .mixedOrders = true) : ∀ (n : Nat) (k : Code) (t : List Value) (D : List VDef) (H : Hp) (c : Ctl) (ex : Ex) (t' : List Value) (D' : List VDef) (H' : Hp) (c' : Ctl),
    vcodeF P call fid n k t D H c = some (ex, t', D', H', c') → (AllP c'.obl → AllP c.obl) ∧ (AllP c'.obl → StepF P fid k t D H ex t' D' H') := by
  intro n
  induction n with
  | zero => intro k t D H c ex t' D' H' c' h; cases h
  | succ n ih =>
    intro k t D H c ex t' D' H' c' h
    have other : vcode P call none n k t D H c = some (ex, t', D', H', c') → (AllP c'.obl → AllP c.obl) ∧ (AllP c'.obl → StepF P fid k t D H ex t' D' H') := fun h =>
      ⟨(vcode_does hcall hmix none n _ _ _ _ _ _ _ _ _ _ h).1, fun ho => StepF.of (stepV_of hcall hmix h ho)⟩
    cases k with
    | seq x y =>
      simp only [vcodeF] at h
      cases hx : vcodeF P call fid n x t D H c with
      | none => rw [hx] at h; cases h
      | some r =>
        obtain ⟨ex1, t1, D1, H1, c1⟩ := r
        obtain ⟨m1, s1⟩ := ih _ _ _ _ _ _ _ _ _ _ hx
        rw [hx] at h
        cases ex1 with
        | normal =>
          simp only at h
          obtain ⟨m2, s2⟩ := ih _ _ _ _ _ _ _ _ _ _ h
          exact ⟨fun z => m1 (m2 z), fun z => StepF.seq (s1 (m2 z)) (s2 z)⟩
        | pan ch =>
          simp only [Option.some.injEq, Prod.mk.injEq] at h
          obtain ⟨rfl, rfl, rfl, rfl, rfl⟩ := h
          exact ⟨m1, fun z => StepF.seq_pan (s1 z)⟩
        | ret =>
          simp only [Option.some.injEq, Prod.mk.injEq] at h
          obtain ⟨rfl, rfl, rfl, rfl, rfl⟩ := h
          exact ⟨m1, fun z => StepF.seq_ret (s1 z)⟩
        | exit i => cases h
        | goto l => cases h
    | block id x =>
      simp only [vcodeF] at h
      cases hx : vcodeF P call fid n x t D H c with
      | none => rw [hx] at h; cases h
      | some r =>
        obtain ⟨ex1, t1, D1, H1, c1⟩ := r
        obtain ⟨m1, s1⟩ := ih _ _ _ _ _ _ _ _ _ _ hx
        rw [hx] at h
        cases ex1 with
        | normal =>
          simp only [Option.some.injEq, Prod.mk.injEq] at h
          obtain ⟨rfl, rfl, rfl, rfl, rfl⟩ := h
          exact ⟨m1, fun z => StepF.block (s1 z)⟩
        | pan ch =>
          simp only [Option.some.injEq, Prod.mk.injEq] at h
          obtain ⟨rfl, rfl, rfl, rfl, rfl⟩ := h
          exact ⟨m1, fun z => StepF.block_pan (s1 z)⟩
        | ret => cases h
        | exit i => cases h
        | goto l => cases h
    | rangeFunc g ps assign body =>
      simp only [vcodeF] at h
      split at h
      case isFalse => cases h
      rename_i hg
      split at h
      case h_2 => cases h
      rename_i f first cap hgv
      split at h
      case isFalse => cases h
      rename_i hc
      simp only [Bool.and_eq_true, Bool.not_eq_true'] at hc
      obtain ⟨hbody, hn, hn1, hcl, hwa⟩ := hc
      split at h
      case h_2 => cases h
      rename_i rs H2 c2 hcl2
      split at h
      case isFalse => cases h
      rename_i hall
      split at h
      case h_2 => cases h
      rename_i r hlr
      obtain ⟨m1, k1⟩ := hcall _ _ _ _ _ _ _ hcl2
      split at h
      · rename_i v
        split at h
        · cases h
        · rename_i hbusy
          split at h
          · rename_i hpend
            simp only [Option.some.injEq, Prod.mk.injEq] at h
            obtain ⟨rfl, rfl, rfl, rfl, rfl⟩ := h
            exact ⟨m1, fun z => StepF.range hg hgv hbody hn hn1 hcl (k1 z rfl hwa) (all_dom hall) hlr (.inl ⟨v, rfl, hbusy, hpend, rfl, rfl⟩)⟩
          · cases h
      · rename_i ch
        simp only [Option.some.injEq, Prod.mk.injEq] at h
        obtain ⟨rfl, rfl, rfl, rfl, rfl⟩ := h
        exact ⟨m1, fun z => StepF.range hg hgv hbody hn hn1 hcl (k1 z rfl hwa) (all_dom hall) hlr (.inr ⟨ch, rfl, rfl, rfl⟩)⟩
    | _ => exact other h

/-- A function that has come to its end, with what then waits, whatever it is. -/
theorem callsV_stepG {call : CallF} (hcall : CallOK P call) {m : Nat} {f : Nat} {fc : Func} {body : Code} (hf : P.funcs[f]? = some fc) (hb : fc.body = some body) {args : Array Value} {G H' : Hp} {u : FrameMode} {r : Res} {c c' : Ctl}
    (hmix : P.follows .mixedOrders = true) (h : StepF P f body (frame0 fc args) [] H ex t1 D1 H1) (hu : modeOf ex = some u) (hD : D1 ≠ []) (hv : vleave P call m fc t1 D1 u H1 c = some (r, H', c')) (ho : AllP c'.obl) (ha : wfA (domB H) args = true)
    (hs : Sub G H') (hc : closedH G = true) : CallsV P (.func f) args H r G := by
  intro β w hR
  obtain ⟨m1, d1, r1⟩ := vleave_does hcall hmix _ _ _ _ _ _ _ hv
  refine calls_of_wpF hf hb (wpF_mono (h.2 (rng β H) w β _ w (frame0_rel hR ha)) ?_)
  rintro e a' w' ⟨rfl, β', hb', hRc⟩
  have hR' : RelA (rng β H) w β' D1 t1 H1 a' w' := by
    cases ex with
    | pan ch =>
      obtain ⟨t2, h1, h2⟩ := hRc
      rcases h1 with h1 | h1
      · exact absurd h1 hD
      · rw [← h1]; exact h2
    | _ => exact hRc
  have hfin : LeavesInM Fence.wide 0 P fc a'.tmps (fun e w' => ∃ β', (∀ i, domB H i = true → β' i = β i) ∧ e = r.out β' ∧ Rel (rng β H) w β' G w') a'.defers u w' := by
    rw [hR'.tm, hR'.df]
    refine leavesInM_mono ?_ _ _ _ (r1 ho 0 (rng β H) w β' w' hR'.rel hR'.wd hR'.wt)
    rintro e w'' ⟨β'', hb2, he, hR2⟩
    exact ⟨β'', fun i hi => (hb2 i (h.1 i hi)).trans (hb' i hi), he, hR2.part hs hc⟩
  cases ex with
  | normal => simp only [modeOf, Option.some.injEq] at hu; subst hu; exact hfin
  | ret => simp only [modeOf, Option.some.injEq] at hu; subst hu; exact hfin
  | pan ch => simp only [modeOf, Option.some.injEq] at hu; subst hu; exact hfin
  | exit id => cases hu
  | goto l => cases hu

/-- A function whose own ranges may be left by a panic; as runF. -/
def runR (P : Program) (n : Nat) (keep : List Nat) (f : Nat) (args : Array Value) (H : Hp) (orc : List (Option Bool)) (ans : List (Nat × Res)) (bls : List (Nat × Res × Hp)) (lds : List (List Value)) : Option (Res × Hp × List Prop) :=
  match P.funcs[f]? with
  | some fc =>
    match fc.body with
    | some body =>
      match vcodeF P (vfun P (smC P) 300 19) f 300 body (frame0 fc args) [] H { ctl2 n orc ans bls with lds := lds } with
      | some (ex, t', d :: D', H', c') =>
        match modeOf ex with
        | some u => (vleave P (vfun P (smC P) 300 19) 300 fc t' (d :: D') u H' c').map fun x => (x.1, restrict x.2.1 keep, x.2.2.obl.reverse)
        | none => none
      | _ => none
    | none => none
  | none => none
theorem runR_calls (hmix : P.follows .mixedOrders = true) {n : Nat} {keep : List Nat} {f : Nat} {args : Array Value} {H : Hp} {orc : List (Option Bool)} {ans : List (Nat × Res)} {bls : List (Nat × Res × Hp)} {lds : List (List Value)} {r : Res} {H' : Hp} {obl : List Prop}
    (h : runR P n keep f args H orc ans bls lds = some (r, H', obl)) (ho : AllP obl) (ha : wfA (domB H) args = true) (hc : closedH H' = true) : CallsV P (.func f) args H r H' := by
  unfold runR at h
  split at h
  case h_2 => cases h
  rename_i fc hf
  split at h
  case h_2 => cases h
  rename_i body hb
  split at h
  case h_2 => cases h
  rename_i ex t' d D' H1 c1 hv
  split at h
  case h_2 => cases h
  rename_i u hu
  rw [Option.map_eq_some_iff] at h
  obtain ⟨⟨r', H2, c2⟩, h1, h2⟩ := h
  simp only [Prod.mk.injEq] at h2
  obtain ⟨rfl, rfl, rfl⟩ := h2
  have hcall := vfun_ok (smC_ok P) hmix 300 19
  have ho' := (allP_reverse _).1 ho
  obtain ⟨ml, _, _⟩ := vleave_does hcall hmix _ _ _ _ _ _ _ h1
  obtain ⟨mc, sc⟩ := vcodeF_does (fid := f) hcall hmix _ _ _ _ _ _ _ _ _ _ _ hv
  exact callsV_stepG hcall hf hb hmix (sc (ml ho')) hu (List.cons_ne_nil _ _) h1 ho' ha (restrict_sub _ _) hc
theorem runR_pure (hmix : P.follows .mixedOrders = true) {n : Nat} {keep : List Nat} {f : Nat} {args : Array Value} {orc : List (Option Bool)} {ans : List (Nat × Res)} {bls : List (Nat × Res × Hp)} {lds : List (List Value)} {r : Res} {obl : List Prop}
    (h : runR P n keep f args [] orc ans bls lds = some (r, [], obl)) (ho : AllP obl) (ha : wfA noB args = true) (hr : resOK noB r = true) : PureX P f args r := by
  intro w hg
  have := runR_calls hmix h ho ha rfl idN w (Rel.nil _ _ _ (gl_nil hg))
  have ha2 : renA idN args = args := renA_plain _ ha
  simp only [ha2] at this
  refine this.mono ?_
  rintro e w' ⟨β', _, rfl, hR⟩
  refine ⟨?_, hR.kp.below (Nat.le_refl _) ?_⟩
  · cases r with
    | ret v =>
      simp only [Res.out]
      rw [ren_plain β' hr, ren_plain _ hr]
    | pan ch => rfl
  · rintro k ⟨i, hi, _⟩
    cases hi
end

end Go.Proofs.YtcjjckokaiobcaaDoor

/- Sums and differences of wide numbers. -/
namespace Go.Proofs.YtcjjckokaiobcaaDoor
open Go Go.RowKit
set_option linter.unusedSimpArgs false
set_option linter.unusedVariables false

abbrev Bw : Nat := 18446744073709551616
abbrev Mw : Nat := 115792089237316195423570985008687907853269984665640564039457584007913129639936
def W4 (a b c d : Nat) : Value := .agg #[.int .u64 (Int.ofNat a), .int .u64 (Int.ofNat b), .int .u64 (Int.ofNat c), .int .u64 (Int.ofNat d)]
def tp (l : List Value) : Value := .tuple ⟨l⟩
abbrev rt (v : Value) : Res := .ret v
abbrev bb (b : Bool) : Value := .bool b
abbrev u (a : Nat) : Value := .int .u64 (Int.ofNat a)
abbrev n : Option Bool := none
abbrev t : Option Bool := some true
abbrev f : Option Bool := some false
def ad (x y c : Nat) : Nat := (x + y + c) % Bw
def ac (x y c : Nat) : Nat := (x + y + c) / Bw
def sb (x y c : Nat) : Nat := (x + Bw - y - c) % Bw
def sc (x y c : Nat) : Nat := if x < y + c then 1 else 0

theorem mix : Tryd.prog.follows .mixedOrders = true := by kernel_rfl
theorem w4_ok (a b c d : Nat) : wfV noB (W4 a b c d) = true := rfl
theorem args_ok : ∀ {l : List Value}, (l.all fun v => wfV noB v) = true → wfA noB ⟨l⟩ = true
  | [], _ => rfl
  | v :: l, h => by
    rw [List.all_cons, Bool.and_eq_true] at h
    show (wfV noB v && wfL noB l) = true
    have := args_ok h.2
    rw [Bool.and_eq_true]
    exact ⟨h.1, this⟩

theorem top_bit {a : Nat} (ha : a < 18446744073709551616) : (!(IntKind.u64.wrap ↑((BitVec.ofInt 64 (Int.ofNat a) &&& BitVec.ofInt 64 9223372036854775808).toNat) == 0)) = decide (9223372036854775808 ≤ a) := by
  have h1 : (BitVec.ofInt 64 (Int.ofNat a) &&& BitVec.ofInt 64 9223372036854775808).toNat = (a / 2 ^ 63 % 2) * 2 ^ 63 := by
    rw [BitVec.toNat_and]
    have e1 : (BitVec.ofInt 64 (Int.ofNat a)).toNat = a := by
      simp [BitVec.toNat_ofInt]
      omega
    have e2 : (BitVec.ofInt 64 9223372036854775808).toNat = 2 ^ 63 := by rfl
    rw [e1, e2]
    apply Nat.eq_of_testBit_eq
    intro i
    rw [Nat.testBit_and, Nat.testBit_two_pow]
    by_cases h : 63 = i
    · subst h
      simp only [decide_true, Bool.and_true]
      rw [Nat.testBit_mul_two_pow]
      simp [Nat.testBit, Nat.shiftRight_eq_div_pow]
    · simp only [h, decide_false, Bool.and_false]
      rw [Nat.testBit_mul_two_pow]
      by_cases h2 : 63 ≤ i
      · simp only [h2, decide_true, Bool.true_and]
        have h3 : a / 2 ^ 63 % 2 < 2 ^ (i - 63) := Nat.lt_of_lt_of_le (Nat.mod_lt _ (by decide)) (by
          have : 2 ^ 1 ≤ 2 ^ (i - 63) := Nat.pow_le_pow_right (by decide) (by omega)
          simpa using this)
        exact (Nat.testBit_lt_two_pow h3).symm
      · simp [h2]
  rw [h1]
  have hd : a / 2 ^ 63 < 2 := by omega
  have hk : a / 2 ^ 63 = 0 ∨ a / 2 ^ 63 = 1 := by omega
  rcases hk with hk | hk
  · rw [hk]
    have : ¬ 9223372036854775808 ≤ a := by omega
    simp only [this, decide_false]
    decide
  · rw [hk]
    have : 9223372036854775808 ≤ a := by omega
    simp only [this, decide_true]
    decide
end Go.Proofs.YtcjjckokaiobcaaDoor

/- Intervals, as values and in blocks; calls by other numbers of blocks. -/
namespace Go.Proofs.YtcjjckokaiobcaaDoor
open Go Go.RowKit
set_option linter.unusedSimpArgs false
set_option linter.unusedVariables false

abbrev ii (x : Int) : Value := .int .i64 x
def iv (l h : Int) (b : Bool) : Value := .agg ⟨[.int .i64 l, .int .i64 h, .bool b]⟩
abbrev bad : Value := iv 0 0 true
/-- May an interval be? -/
def okI (l h : Int) (b : Bool) : Bool := !b && decide (-1152921504606846976 ≤ l) && decide (l ≤ h) && decide (h ≤ 1152921504606846976)

/-- Blocks by other numbers. -/
def renH (ρ : Nat → Nat) (H : Hp) : Hp := H.map fun e => (ρ e.1, renO ρ e.2)
theorem look_renH {ρ : Nat → Nat} {i : Nat} : ∀ {H : Hp}, (∀ e ∈ H, ρ e.1 = ρ i → e.1 = i) → look (renH ρ H) (ρ i) = (look H i).map (renO ρ)
  | [], _ => rfl
  | (k, o) :: r, hi => by
    have ih := look_renH (ρ := ρ) (i := i) (H := r) (fun e he => hi e (List.mem_cons_of_mem _ he))
    simp only [renH, List.map_cons, look] at ih ⊢
    by_cases h : k = i
    · subst h; simp
    · rw [if_neg h, if_neg (fun e => h (hi (k, o) List.mem_cons_self e))]
      exact ih
theorem live_renO {ρ : Nat → Nat} {o : Obj} : isLive (renO ρ o) = isLive o := by cases o <;> rfl
theorem win_renO {ρ : Nat → Nat} {o : Obj} : winO (renO ρ o) = winO o := by cases o <;> rfl
theorem mem_domB {H : Hp} {e : Nat × Obj} (h : e ∈ H) : domB H e.1 = true := by
  induction H with
  | nil => cases h
  | cons x r ih =>
    obtain ⟨k, o⟩ := x
    unfold domB
    simp only [look]
    by_cases hk : k = e.1
    · simp [hk]
    · rw [if_neg hk]
      rcases List.mem_cons.1 h with rfl | h
      · exact absurd rfl hk
      · exact ih h
theorem comp_lies {β : Num} {ρ : Nat → Nat} {o : Obj} {cap : Nat} {x : Option Obj} (h : LiesO (fun i => β (ρ i)) cap o x) : LiesO β cap (renO ρ o) x := by
  cases o with
  | cells c T fr =>
    simp only [renO, LiesO, renA_comp] at h ⊢
    exact h
  | loop r =>
    simp only [renO, LiesO, renA_comp] at h ⊢
    exact h
  | map es clock =>
    simp only [renO, LiesO, renEs_comp] at h ⊢
    exact h
  | _ => exact h
theorem CallsV.num {P : Program} {f : Nat} {args : Array Value} {H H' : Hp} {r : Res} (h : CallsV P (.func f) args H r H') (ρ : Nat → Nat) (hi : ∀ i j, domB H i = true → domB H j = true → ρ i = ρ j → i = j)
    (hd : ∀ i, domB H' i = true → domB H i = true) (hc : closedH H = true) (hc' : closedH (renH ρ H') = true) (hr : resOK noB r = true) :
    CallsV P (.func f) (renA (rnm ρ) args) (renH ρ H) r (renH ρ H') := by
  intro β w hR
  have inj : ∀ {G : Hp}, (∀ i, domB G i = true → domB H i = true) → ∀ i, domB H i = true → ∀ e ∈ G, ρ e.1 = ρ i → e.1 = i := fun hG i hi' e he hh => hi _ _ (hG _ (mem_domB he)) hi' hh
  have lk : ∀ i, domB H i = true → look (renH ρ H) (ρ i) = (look H i).map (renO ρ) := fun i hi' => look_renH (inj (fun _ h => h) i hi')
  have lv : ∀ i, liveB H i = true → liveB (renH ρ H) (ρ i) = true := fun i hl => by
    obtain ⟨o, ho, hl'⟩ := liveB_iff.1 hl
    refine liveB_of (o := renO ρ o) ?_ (by rw [live_renO]; exact hl')
    rw [lk i (domB_of ho), ho]
    rfl
  have wn : ∀ i, domB H i = true → winB (renH ρ H) (ρ i) = winB H i := fun i hi' => by
    unfold winB
    rw [lk i hi']
    cases look H i with
    | none => rfl
    | some o => exact win_renO
  have ofR : ∀ j, liveB (renH ρ H) j = true → ∃ i, liveB H i = true ∧ ρ i = j := by
    intro j hj
    obtain ⟨e, he, hej⟩ := memK _ _ (liveB_dom hj)
    simp only [renH, List.mem_map] at he
    obtain ⟨x, hx, rfl⟩ := he
    simp only at hej
    subst hej
    refine ⟨x.1, ?_, rfl⟩
    obtain ⟨o, ho, hl⟩ := liveB_iff.1 hj
    rw [lk x.1 (mem_domB hx)] at ho
    cases hlx : look H x.1 with
    | none => rw [hlx] at ho; cases ho
    | some y =>
      rw [hlx] at ho
      simp only [Option.map_some, Option.some.injEq] at ho
      subst ho
      rw [live_renO] at hl
      exact liveB_of hlx hl
  have hR1 : Rel (rng (fun i => β (ρ i)) H) w (fun i => β (ρ i)) H w := by
    refine ⟨fun i o ho => lies_comp (hR.lies _ _ (by rw [lk i (domB_of ho), ho]; rfl)), fun i j h1 h2 hw e => hi i j (liveB_dom h1) (liveB_dom h2) (hR.inj _ _ (lv i h1) (lv j h2) (by rw [wn i (liveB_dom h1)]; exact hw) e), fun i h1 => .inl (rng_own.2 ⟨i, h1, rfl⟩), fun i h1 => ⟨fun hw => ⟨hR.lt (lv i h1), rng_win.2 ⟨i, h1, hw, rfl⟩⟩, fun hw => ?_⟩, closedH_spec hc, Kp.refl _ _ (gl_of hR fun i hi => ⟨ρ i, lv i hi, rfl, wn i (liveB_dom hi)⟩)⟩
    obtain ⟨j, hj, hjw, e⟩ := rng_win.1 hw.2
    rw [← wn i (liveB_dom h1), ← hR.win_eq (lv j hj) (lv i h1) e, wn j (liveB_dom hj)]
    exact hjw
  have k1 := h (fun i => β (ρ i)) w hR1
  simp only at k1 ⊢
  rw [renA_comp]
  refine k1.mono ?_
  rintro e w' ⟨γ, hγ, rfl, hR'⟩
  refine ⟨β, fun _ _ => rfl, ?_, ?_⟩
  · cases r with
    | ret v =>
      simp only [Res.out]
      rw [ren_plain γ hr, ren_plain β hr]
    | pan ch => rfl
  · have hR2 := hR'.congr (γ := fun i => β (ρ i)) (G := H') (fun i hi' => (hγ i (hd i hi')).symm) (fun _ => rfl)
    have ofN : ∀ j, domB (renH ρ H') j = true → ∃ i, domB H' i = true ∧ ρ i = j := fun j hj => by
      obtain ⟨e, he, hej⟩ := memK _ _ hj
      simp only [renH, List.mem_map] at he
      obtain ⟨x, hx, rfl⟩ := he
      exact ⟨x.1, mem_domB hx, hej⟩
    have lk' : ∀ i, domB H' i = true → look (renH ρ H') (ρ i) = (look H' i).map (renO ρ) := fun i hi' => look_renH (inj hd i (hd i hi'))
    have lv' : ∀ i, domB H' i = true → liveB (renH ρ H') (ρ i) = true → liveB H' i = true := fun i hi' hl => by
      obtain ⟨o, ho, hl'⟩ := liveB_iff.1 hl
      rw [lk' i hi'] at ho
      cases hlx : look H' i with
      | none => rw [hlx] at ho; cases ho
      | some y =>
        rw [hlx] at ho
        simp only [Option.map_some, Option.some.injEq] at ho
        subst ho
        rw [live_renO] at hl'
        exact liveB_of hlx hl'
    have wn' : ∀ i, domB H' i = true → winB (renH ρ H') (ρ i) = winB H' i := fun i hi' => by
      unfold winB
      rw [lk' i hi']
      cases look H' i with
      | none => rfl
      | some o => exact win_renO
    have rgo : ∀ k, rng (fun i => β (ρ i)) H (2 * k) ↔ rng β (renH ρ H) (2 * k) := fun k => by
      rw [rng_own, rng_own]
      constructor
      · rintro ⟨i, h1, e⟩; exact ⟨ρ i, lv i h1, e⟩
      · rintro ⟨j, hj, e⟩
        obtain ⟨i, h1, rfl⟩ := ofR j hj
        exact ⟨i, h1, e⟩
    have rgw : ∀ k, rng (fun i => β (ρ i)) H (2 * k + 1) ↔ rng β (renH ρ H) (2 * k + 1) := fun k => by
      rw [rng_win, rng_win]
      constructor
      · rintro ⟨i, h1, hw, e⟩; exact ⟨ρ i, lv i h1, by rw [wn i (liveB_dom h1)]; exact hw, e⟩
      · rintro ⟨j, hj, hw, e⟩
        obtain ⟨i, h1, rfl⟩ := ofR j hj
        rw [wn i (liveB_dom h1)] at hw
        exact ⟨i, h1, hw, e⟩
    refine ⟨fun j o ho => ?_, fun j1 j2 h1 h2 hw e => ?_, fun j hj => ?_, fun j hj => ?_, closedH_spec hc', ?_⟩
    · obtain ⟨i, hi', rfl⟩ := ofN j (domB_of ho)
      rw [lk' i hi'] at ho
      cases hlx : look H' i with
      | none => rw [hlx] at ho; cases ho
      | some y =>
        rw [hlx] at ho
        simp only [Option.map_some, Option.some.injEq] at ho
        subst ho
        exact comp_lies (hR2.lies i y hlx)
    · obtain ⟨i1, hi1, rfl⟩ := ofN j1 (liveB_dom h1)
      obtain ⟨i2, hi2, rfl⟩ := ofN j2 (liveB_dom h2)
      rw [hR2.inj i1 i2 (lv' i1 hi1 h1) (lv' i2 hi2 h2) (by rw [← wn' i1 hi1]; exact hw) e]
    · obtain ⟨i, hi', rfl⟩ := ofN j (liveB_dom hj)
      exact (hR2.own i (lv' i hi' hj)).imp_left (rgo _).1
    · obtain ⟨i, hi', rfl⟩ := ofN j (liveB_dom hj)
      rw [wn' i hi', ← rgw]
      exact hR2.win i (lv' i hi' hj)
    · refine ⟨hR2.kp.os, hR2.kp.tape, hR2.kp.output, hR2.kp.size, fun k hk hA => hR2.kp.block k hk (by rw [rgo, rgw]; exact hA), hR.kp.gl⟩

/-- .. told by what comes. -/
theorem CallsV.num2 {P : Program} {f : Nat} {args args2 : Array Value} {H H' H2 H2' : Hp} {r : Res} (h : CallsV P (.func f) args H r H') (ρ : Nat → Nat) (hi : ∀ i j, domB H i = true → domB H j = true → ρ i = ρ j → i = j)
    (hd : ∀ i, domB H' i = true → domB H i = true) (hc : closedH H = true) (hc' : closedH (renH ρ H') = true) (hr : resOK noB r = true) (ea : renA (rnm ρ) args = args2) (eh : renH ρ H = H2) (eh' : renH ρ H' = H2') :
    CallsV P (.func f) args2 H2 r H2' := by
  subst ea
  subst eh
  subst eh'
  exact h.num ρ hi hd hc hc' hr
end Go.Proofs.YtcjjckokaiobcaaDoor

/- Configurations, as values; lists of numbers in blocks; calls that keep new blocks. -/
namespace Go.Proofs.YtcjjckokaiobcaaDoor
open Go Go.RowKit
set_option linter.unusedSimpArgs false
set_option linter.unusedVariables false

/-- Code in pieces. -/
def cA : Code → Code
  | .seq a _ => a
  | c => c
def cB : Code → Code
  | .seq _ b => b
  | c => c
def cK : Code → Code
  | .block _ c => c
  | .loop c => c
  | c => c
abbrev ptr (k : Nat) : Value := .pointer (some ⟨k, 0, none⟩)
abbrev pto (k o : Nat) : Value := .pointer (some ⟨k, o, none⟩)
abbrev ud : Value := .tuple ⟨[]⟩
abbrev sl0 : Value := .slice none 0 0
abbrev slw (b off n cap : Nat) : Value := .slice (some ⟨b, off, none⟩) n cap
def tmpsOf (x : Option (Ex × List Value × Hp × List Prop)) : List Value := match x with | some r => r.2.1 | none => []
def lt (x : Option (Ex × List Value × Hp × List Prop)) (j : Nat) : Value := (tmpsOf x).getD j ud

/-- A function that is handed blocks; those of 'keep' are told of behind it; new ones are numbered from n on. -/
def runF (P : Program) (n : Nat) (keep : List Nat) (f : Nat) (args : Array Value) (H : Hp) (orc : List (Option Bool)) (ans : List (Nat × Res)) (bls : List (Nat × Res × Hp)) (lds : List (List Value)) : Option (Res × Hp × List Prop) :=
  (vfun P (smC P) 300 20 (.func f) args H { ctl2 n orc ans bls with lds := lds }).map fun x => (x.1, restrict x.2.1 keep, x.2.2.obl.reverse)
theorem runF_calls {P : Program} (hmix : P.follows .mixedOrders = true) {n : Nat} {keep : List Nat} {f : Nat} {args : Array Value} {H : Hp} {orc : List (Option Bool)} {ans : List (Nat × Res)} {bls : List (Nat × Res × Hp)} {lds : List (List Value)} {r : Res} {H' : Hp} {obl : List Prop}
    (h : runF P n keep f args H orc ans bls lds = some (r, H', obl)) (ho : AllP obl) (ha : wfA (domB H) args = true) (hc : closedH H' = true) : CallsV P (.func f) args H r H' := by
  unfold runF at h
  rw [Option.map_eq_some_iff] at h
  obtain ⟨⟨r', H1, c'⟩, h1, h2⟩ := h
  simp only [Prod.mk.injEq] at h2
  obtain ⟨rfl, rfl, rfl⟩ := h2
  have key := (vfun_ok (smC_ok P) hmix 300 20 _ _ _ _ _ _ _ h1).2 ((allP_reverse _).1 ho) rfl ha
  intro β w hR
  refine (key β w hR).mono ?_
  rintro e w' ⟨β', hb, rfl, hR'⟩
  exact ⟨β', hb, rfl, hR'.part (restrict_sub _ _) hc⟩

/-- A configuration as a value. -/
def cv (l : Value) (g b t' q m : Int) : Value := .agg ⟨[l, ii g, ii b, ii t', ii q, ii m]⟩
/-- Numbers as cells: each; behind others; in a window whose cells are told. -/
def fl1 (x : Int) : List Value := [ii x]
def cwx {α : Type} (fl : α → List Value) (off : Nat) (L : List α) : Array Value := ⟨List.replicate off ud ++ L.flatMap fl⟩
def wib (L : List Int) : Obj := .cells ⟨L.flatMap fl1⟩ 3 (2, 0)
def gib (L : List Int) : Obj := .cells ⟨L.flatMap fl1⟩ 3 (1, 1)
abbrev sr (s : String) : Value := .string s.toUTF8
/-- Pieces of code that end at once. -/
theorem LoopN.lastRet {P : Program} {b : Code} {t t1 : List Value} {D D1 : List VDef} {H H1 : Hp} (h1 : StepV P b t D H .ret t1 D1 H1) : LoopN P b 1 t D H .ret t1 D1 H1 := by
  refine ⟨h1.1, fun n0 A w0 β a w hR => wpIn_mono (h1.2 n0 A w0 β a w hR) ?_⟩
  rintro e a' w' ⟨rfl, hR'⟩
  exact ⟨rfl, hR'⟩
theorem StepV.blockrW {P : Program} {b : Code} {t t1 : List Value} {D D1 : List VDef} {H H1 : Hp} {id : Nat} (h : StepV P b t D H .ret t1 D1 H1) : StepV P (.block id b) t D H .ret t1 D1 H1 := by
  refine ⟨h.1, fun n0 A w0 β a w hR => wpIn_block (wpIn_mono (h.2 n0 A w0 β a w hR) ?_)⟩
  rintro e a' w' ⟨rfl, hR'⟩
  exact ⟨rfl, hR'⟩
theorem StepV.seqrW {P : Program} {x y : Code} {t t1 : List Value} {D D1 : List VDef} {H H1 : Hp} (h1 : StepV P x t D H .ret t1 D1 H1) : StepV P (.seq x y) t D H .ret t1 D1 H1 := by
  refine ⟨h1.1, fun n0 A w0 β a w hR => wpIn_seq (wpIn_mono (h1.2 n0 A w0 β a w hR) ?_)⟩
  rintro e a' w' ⟨rfl, hR'⟩
  exact ⟨rfl, hR'⟩
theorem LoopI.preW {P : Program} {b : Code} {H0 : Hp} {m : Nat} {t t2 t' : List Value} {H H2 H' : Hp} {ex : Ex} {ρ : Nat → Nat} (hr : Renum H0 t [] H t2 [] H2 ρ) (h : LoopI P b H0 m t2 H2 ex t' H') : LoopI P b H0 m t H ex t' H' := by
  intro n0 A w0 β β1 a w hb hR
  exact h n0 A w0 β _ a w (fun i hi => by rw [hr.fix i hi]; exact hb i hi) (RelA.renum (H0 := H0) hR hr)
end Go.Proofs.YtcjjckokaiobcaaDoor
