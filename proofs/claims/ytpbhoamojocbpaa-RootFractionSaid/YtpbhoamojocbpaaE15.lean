/- A walk by computation: loops of unknown length, round by round. -/
import Derived.Test.YtpbhoamojocbpaaE14
import Derived.LoopNIn
namespace Go.Proofs.Ytpbhoamojocbpaa
open Go Go.RowKit
set_option linter.unusedSimpArgs false
set_option linter.unusedVariables false

section
variable {P : Program}
/-- From here code comes to there. -/
def StepV (P : Program) (b : Code) (t : List Value) (D : List VDef) (H : Hp) (ex : Ex) (t' : List Value) (D' : List VDef) (H' : Hp) : Prop :=
  (∀ i, domB H i = true → domB H' i = true) ∧ ∀ (n0 : Nat) (A : Nat → Prop) (w0 : World) (β : Nat → Nat) (a : Act) (w : World), RelA A w0 β D t H a w → b.wpIn Fence.wide n0 P (Came A w0 β H ex t' D' H') a w
theorem stepV_of {call : CallF} (hcall : CallOK P call) (hmix : P.follows .mixedOrders = true) {m : Nat} {b : Code} {t t' : List Value} {D D' : List VDef} {H H' : Hp} {c c' : Ctl} {ex : Ex}
    (h : vcode P call none m b t D H c = some (ex, t', D', H', c')) (ho : AllP c'.obl) : StepV P b t D H ex t' D' H' := by
  obtain ⟨m1, d1, r1⟩ := vcode_does hcall hmix none m _ _ _ _ _ _ _ _ _ _ h
  exact ⟨d1, fun n0 A w0 β a w hR => r1 ho (fun l hl => by cases hl) n0 A w0 β a w hR⟩
theorem StepV.seq {x y : Code} {t t1 t2 : List Value} {D D1 D2 : List VDef} {H H1 H2 : Hp} {ex : Ex} (h1 : StepV P x t D H .normal t1 D1 H1) (h2 : StepV P y t1 D1 H1 ex t2 D2 H2) : StepV P (.seq x y) t D H ex t2 D2 H2 := by
  refine ⟨fun i hi => h2.1 i (h1.1 i hi), fun n0 A w0 β a w hR => wpIn_seq (wpIn_mono (h1.2 n0 A w0 β a w hR) ?_)⟩
  rintro e a' w' ⟨rfl, β', hb, hR'⟩
  refine wpIn_mono (h2.2 n0 A w0 β' a' w' hR') ?_
  rintro e a'' w'' ⟨rfl, β'', hb', hR''⟩
  exact ⟨rfl, β'', fun i hi => (hb' i (h1.1 i hi)).trans (hb i hi), hR''⟩
theorem StepV.block {b : Code} {t t1 : List Value} {D D1 : List VDef} {H H1 : Hp} {id : Nat} (h : StepV P b t D H (.exit id) t1 D1 H1) : StepV P (.block id b) t D H .normal t1 D1 H1 := by
  refine ⟨h.1, fun n0 A w0 β a w hR => wpIn_block (wpIn_mono (h.2 n0 A w0 β a w hR) ?_)⟩
  rintro e a' w' ⟨rfl, hR'⟩
  simp only [Ex.out, Exit.inBlock, if_pos rfl]
  exact ⟨rfl, hR'⟩
theorem roundsIn_mono {F : Fence} {n : Nat} {b : Code} {Q Q' : Exit → Act → World → Prop} (hq : ∀ e a w, Q e a w → Q' e a w) : ∀ (m : Nat) (a : Act) (w : World), Code.roundsIn F n P b Q m a w → Code.roundsIn F n P b Q' m a w
  | 0, _, _, h => h
  | m + 1, a, w, h => wpIn_mono h (fun e a' w' h => by
    cases e with
    | normal => exact roundsIn_mono hq m a' w' h
    | _ => exact hq _ _ _ h)
/-- .. a loop, in so many rounds. -/
def LoopN (P : Program) (b : Code) (m : Nat) (t : List Value) (D : List VDef) (H : Hp) (ex : Ex) (t' : List Value) (D' : List VDef) (H' : Hp) : Prop :=
  (∀ i, domB H i = true → domB H' i = true) ∧ ∀ (n0 : Nat) (A : Nat → Prop) (w0 : World) (β : Nat → Nat) (a : Act) (w : World), RelA A w0 β D t H a w → Code.roundsIn Fence.wide n0 P b (Came A w0 β H ex t' D' H') m a w
theorem LoopN.round {b : Code} {m : Nat} {t t1 t2 : List Value} {D D1 D2 : List VDef} {H H1 H2 : Hp} {ex : Ex} (h1 : StepV P b t D H .normal t1 D1 H1) (h2 : LoopN P b m t1 D1 H1 ex t2 D2 H2) : LoopN P b (m + 1) t D H ex t2 D2 H2 := by
  refine ⟨fun i hi => h2.1 i (h1.1 i hi), fun n0 A w0 β a w hR => wpIn_mono (h1.2 n0 A w0 β a w hR) ?_⟩
  rintro e a' w' ⟨rfl, β', hb, hR'⟩
  refine roundsIn_mono ?_ m a' w' (h2.2 n0 A w0 β' a' w' hR')
  rintro e a'' w'' ⟨rfl, β'', hb', hR''⟩
  exact ⟨rfl, β'', fun i hi => (hb' i (h1.1 i hi)).trans (hb i hi), hR''⟩
theorem LoopN.last {b : Code} {t t1 : List Value} {D D1 : List VDef} {H H1 : Hp} {id : Nat} (h1 : StepV P b t D H (.exit id) t1 D1 H1) : LoopN P b 1 t D H (.exit id) t1 D1 H1 := by
  refine ⟨h1.1, fun n0 A w0 β a w hR => wpIn_mono (h1.2 n0 A w0 β a w hR) ?_⟩
  rintro e a' w' ⟨rfl, hR'⟩
  exact ⟨rfl, hR'⟩
theorem LoopN.loop {b : Code} {m : Nat} {t t1 : List Value} {D D1 : List VDef} {H H1 : Hp} {ex : Ex} (h : LoopN P b m t D H ex t1 D1 H1) : StepV P (.loop b) t D H ex t1 D1 H1 :=
  ⟨h.1, fun n0 A w0 β a w hR => wpIn_loop_rounds m (h.2 n0 A w0 β a w hR)⟩
/-- A function that has come to its end. -/
theorem callsV_step {f : Nat} {fc : Func} {body : Code} (hf : P.funcs[f]? = some fc) (hb : fc.body = some body) {args : Array Value} {H H1 H' : Hp} {ex : Ex} {t1 : List Value} {v : Value}
    (h : StepV P body (frame0 fc args) [] H ex t1 [] H1) (he : exEnds ex = true) (hv : vresults P fc t1 H1 = some v) (ha : wfA (domB H) args = true) (hs : Sub H' H1) (hc : closedH H' = true) : CallsV P (.func f) args H (.ret v) H' := by
  intro β w hR
  refine (callsIn_wide (n := 0)).1 (callsIn_of_wp_marks hf hb trivial (wpIn_mono (h.2 0 (rng β H) w β _ w (frame0_rel hR ha)) ?_))
  rintro e a' w' ⟨rfl, β', hb', hRc⟩
  have hR' : RelA (rng β H) w β' [] t1 H1 a' w' := by
    cases ex with
    | pan ch => cases he
    | _ => exact hRc
  have hfin : LeavesInM Fence.wide 0 P fc a'.tmps (fun e w' => ∃ β', (∀ i, domB H i = true → β' i = β i) ∧ e = (Res.ret v).out β' ∧ Rel (rng β H) w β' H' w') a'.defers .returning w' := by
    rw [hR'.tm, hR'.df]
    exact ⟨ren β' v, vresults_run hR'.rel hv, β', hb', rfl, hR'.rel.part hs hc⟩
  cases ex with
  | normal => exact hfin
  | ret => exact hfin
  | _ => cases he

/-- Answers with blocks, of functions and of rounds of loops (1000000 and the record's number). -/
def smC (P : Program) : CallF := fun fn args H c =>
  match smB P fn args H c with
  | some r => some r
  | none =>
    match fn, c.bls with
    | .yield l, (g, r, H') :: rest => if Nat.beq (1000000 + l) g then some (r, H', { c with bls := rest, obl := CallsV P (.yield l) args H r H' :: c.obl }) else none
    | _, _ => none
theorem smC_ok (P : Program) : CallOK P (smC P) := by
  intro fn args H c r H' c' h
  unfold smC at h
  split at h
  · rename_i r' hr
    cases h
    exact smB_ok P _ _ _ _ _ _ _ hr
  · split at h
    case h_2 => cases h
    rename_i l g r0 G rest hfn
    split at h
    case isFalse => cases h
    simp only [Option.some.injEq, Prod.mk.injEq] at h
    obtain ⟨rfl, rfl, rfl⟩ := h
    exact ⟨fun z => z.2, fun z _ _ => z.1⟩
/-- A round of a loop. -/
def runY (P : Program) (l : Nat) (args : Array Value) (H : Hp) (orc : List (Option Bool)) (ans : List (Nat × Res)) (bls : List (Nat × Res × Hp)) : Option (Res × Hp × List Prop) :=
  (vfun P (smB P) 300 20 (.yield l) args H (ctl2 2000 orc ans bls)).map fun x => (x.1, x.2.1.filter (fun e => domB H e.1), x.2.2.obl.reverse)
theorem runY_calls {P : Program} (hmix : P.follows .mixedOrders = true) {l : Nat} {args : Array Value} {H : Hp} {orc : List (Option Bool)} {ans : List (Nat × Res)} {bls : List (Nat × Res × Hp)} {r : Res} {H' : Hp} {obl : List Prop}
    (h : runY P l args H orc ans bls = some (r, H', obl)) (ho : AllP obl) (hl : domB H l = true) (ha : wfA (domB H) args = true) (hc : closedH H' = true) : CallsV P (.yield l) args H r H' := by
  unfold runY at h
  rw [Option.map_eq_some_iff] at h
  obtain ⟨⟨r', H1, c'⟩, h1, h2⟩ := h
  simp only [Prod.mk.injEq] at h2
  obtain ⟨rfl, rfl, rfl⟩ := h2
  have key := (vfun_ok (smB_ok P) hmix 300 20 _ _ _ _ _ _ _ h1).2 ((allP_reverse _).1 ho) hl ha
  intro β w hR n
  have k2 := key β w hR n
  obtain ⟨fn, tmps, assign, body, hy, hr⟩ := k2
  refine ⟨fn, tmps, assign, body, hy, RoundIn.mono hr ?_⟩
  rintro e w' ⟨β', hb, rfl, hR'⟩
  refine ⟨β', hb, rfl, hR'.part (fun i o hi => ?_) hc⟩
  rw [look_filter (fun k => domB H k)] at hi
  split at hi
  · exact hi
  · cases hi
/-- Code from a state on, computed. -/
def runS (P : Program) (b : Code) (t : List Value) (H : Hp) (orc : List (Option Bool)) (ans : List (Nat × Res)) (bls : List (Nat × Res × Hp)) : Option (Ex × List Value × Hp × List Prop) :=
  match vcode P (vfun P (smC P) 300 19) none 300 b t [] H (ctl2 3000 orc ans bls) with
  | some (ex, t', [], H', c') => some (ex, t', H', c'.obl.reverse)
  | _ => none
theorem runS_step {P : Program} (hmix : P.follows .mixedOrders = true) {b : Code} {t t' : List Value} {H H' : Hp} {orc : List (Option Bool)} {ans : List (Nat × Res)} {bls : List (Nat × Res × Hp)} {ex : Ex} {obl : List Prop}
    (h : runS P b t H orc ans bls = some (ex, t', H', obl)) (ho : AllP obl) : StepV P b t [] H ex t' [] H' := by
  unfold runS at h
  split at h
  case h_2 => cases h
  rename_i ex1 t1 H1 c1 hv
  simp only [Option.some.injEq, Prod.mk.injEq] at h
  obtain ⟨rfl, rfl, rfl, rfl⟩ := h
  exact stepV_of (vfun_ok (smC_ok P) hmix 300 19) hmix hv ((allP_reverse _).1 ho)
end

end Go.Proofs.Ytpbhoamojocbpaa
