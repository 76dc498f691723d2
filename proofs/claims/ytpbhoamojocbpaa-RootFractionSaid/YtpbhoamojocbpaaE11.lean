/- A walk by computation: a function, whole. -/
import Derived.Test.YtpbhoamojocbpaaE10
namespace Go.Proofs.Ytpbhoamojocbpaa
open Go Go.RowKit
set_option linter.unusedSimpArgs false
set_option linter.unusedVariables false

section
variable {P : Program}

/-- What yield's temporaries are. -/
def yset (ps : List Nat) (args : List Value) (t : List Value) : List Value := (ps.zip args).foldl (fun t pv => t.set pv.1 pv.2) t
theorem yset_real (β : Nat → Nat) : ∀ (ps : List Nat) (args t : List Value), (((ps.zip (renL β args)).foldl (fun (t : Array Value) (pv : Nat × Value) => t.setIfInBounds pv.1 pv.2) (renL β t).toArray)) = (renL β (yset ps args t)).toArray
  | [], _, _ => rfl
  | _ :: _, [], _ => rfl
  | p :: ps, v :: args, t => by
    simp only [renL, List.zip_cons_cons, List.foldl_cons, yset]
    have e : (renL β t).toArray.setIfInBounds p (ren β v) = (renL β (t.set p v)).toArray := by
      rw [renL_map, renL_map, List.map_set]
      simp
    rw [e]
    exact yset_real β ps args (t.set p v)
theorem yset_wf {q : Nat → Bool} : ∀ (ps : List Nat) (args t : List Value), wfL q args = true → wfL q t = true → wfL q (yset ps args t) = true
  | [], _, _, _, h => h
  | _ :: _, [], _, _, h => h
  | p :: ps, v :: args, t, ha, h => by
    simp only [wfL, Bool.and_eq_true] at ha
    simp only [yset, List.zip_cons_cons, List.foldl_cons]
    refine yset_wf ps args (t.set p v) ha.2 ?_
    rw [wfL_all] at h ⊢
    intro x hx
    rcases List.mem_or_eq_of_mem_set hx with hx | rfl
    · exact h x hx
    · exact ha.1

/-- How a round is left: the jump that waits. -/
def jumpOf : Ex → Option (Option Code)
  | .normal => some none
  | .ret => some (some .ret)
  | .exit id => some (some (.exit id))
  | .goto l => some (some (.goto l))
  | .pan _ => none

def vyield (P : Program) (call : CallF) (m : Nat) (l : Nat) (args : Array Value) (H : Hp) (c : Ctl) : Option (Res × Hp × Ctl) :=
  match look H l with
  | some (.loop r) =>
    if args.size = r.params.size ∧ r.state = .ready then
      match vcode P call (some l) m r.assign (yset r.params.toList args.toList r.tmps.toList) [] H c with
      | some (.normal, t1, D1, H1, c1) =>
        match look H1 l with
        | some (.loop r1) =>
          if r1.state = .ready then
            match vcode P call (some l) m r.body t1 D1 (hput H1 l (.loop { r1 with state := .busy })) c1 with
            | some (ex, t2, D2, H3, c2) =>
              match look H3 l with
              | some (.loop r3) =>
                match jumpOf ex with
                | some j => some (.ret (.bool j.isNone), hput H3 l (.loop { r3 with state := if j.isNone then .ready else .done, pending := j }), c2)
                | none => none
              | _ => none
            | none => none
          else none
        | _ => none
      | _ => none
    else none
  | _ => none

theorem vyield_does {call : CallF} (hcall : CallOK P call) (hmix : P.follows .mixedOrders = true) {m l : Nat} {args : Array Value} {H : Hp} {c : Ctl} {r : Res} {H' : Hp} {c' : Ctl} (h : vyield P call m l args H c = some (r, H', c')) :
    (AllP c'.obl → AllP c.obl) ∧ (AllP c'.obl → wfA (domB H) args = true → CallsV P (.yield l) args H r H') := by
  unfold vyield at h
  split at h
  case h_2 => cases h
  rename_i rc hl
  split at h
  case isFalse => cases h
  rename_i hsz
  split at h
  case h_2 => cases h
  rename_i t1 D1 H1 c1 hv1
  split at h
  case h_2 => cases h
  rename_i r1 hl1
  split at h
  case isFalse => cases h
  rename_i hready
  split at h
  case h_2 => cases h
  rename_i ex t2 D2 H3 c2 hv2
  split at h
  case h_2 => cases h
  rename_i r3 hl3
  split at h
  case h_2 => cases h
  rename_i j hj
  simp only [Option.some.injEq, Prod.mk.injEq] at h
  obtain ⟨rfl, rfl, rfl⟩ := h
  obtain ⟨m1, d1, k1⟩ := vcode_does hcall hmix (some l) m _ _ _ _ _ _ _ _ _ _ hv1
  obtain ⟨m2, d2, k2⟩ := vcode_does hcall hmix (some l) m _ _ _ _ _ _ _ _ _ _ hv2
  refine ⟨fun z => m1 (m2 z), fun z hargs β w hR => ?_⟩
  intro n
  obtain ⟨fn, hrec⟩ := hR.lies l _ hl
  have hwf := hR.wf l _ hl
  simp only [wfO, Bool.and_eq_true] at hwf
  have hy := run_yield (P := P) (args := renA β args) hrec (by rw [renA_map, Array.size_map]; exact hsz.1)
  refine ⟨_, _, _, _, hy, ?_⟩
  have htm : ((rc.params.zip (renA β args)).foldl (fun (tmps : Array Value) (x : Nat × Value) => tmps.setIfInBounds x.1 x.2) (renA β rc.tmps)) = (renL β (yset rc.params.toList args.toList rc.tmps.toList)).toArray := by
    rw [← yset_real, ← Array.foldl_toList, Array.toList_zip]
    have e1 : (renA β args).toList = renL β args.toList := by rw [renA_map, renL_map, Array.toList_map]
    have e2 : renA β rc.tmps = (renL β rc.tmps.toList).toArray := by obtain ⟨l⟩ := rc.tmps; rfl
    rw [e1, e2]
  have hR0 : RelA (rng β H) w β [] (yset rc.params.toList args.toList rc.tmps.toList) H { tmps := (rc.params.zip (renA β args)).foldl (fun (tmps : Array Value) (x : Nat × Value) => tmps.setIfInBounds x.1 x.2) (renA β rc.tmps), defers := [] } w :=
    ⟨htm, rfl, yset_wf _ _ _ (by rw [← wfA_list]; exact hargs) (by rw [← wfA_list]; exact hwf.1), rfl, hR⟩
  have hlH : ∀ l', some l = some l' → domB H l' = true := fun l' e => by cases e; exact domB_of hl
  refine roundIn_of_wpIn (F := Fence.wide) trivial (wpIn_mono (k1 (m2 z) hlH n (rng β H) w β _ w hR0) ?_)
  rintro e a1 w1 ⟨rfl, β1, hb1, hR1⟩
  simp only [Ex.out, Exit.then]
  obtain ⟨fn1, hrec1⟩ := hR1.rel.lies l _ hl1
  have hβ1 : β1 l = β l := hb1 l (domB_of hl)
  have hwf1 := hR1.rel.wf l _ hl1
  rw [hβ1] at hrec1
  have hbr := run_beginRound (P := P) hrec1 hready
  refine ⟨_, hbr, ?_⟩
  have hR2 := hR1.rel.obj (b := l) (domB_of hl1) (o := .loop { r1 with state := .busy }) (x := .loop { r1 with state := .busy, fn := fn1, tmps := renA β1 r1.tmps, defers := β1 r1.defers }) hwf1 ⟨fn1, rfl⟩
  have hdp : ∀ i, domB H1 i = true → domB (hput H1 l (.loop { r1 with state := .busy })) i = true := fun i hi => by rw [domB_hput, hi, Bool.or_true]
  have hRA : RelA (rng β H) w β1 D1 t1 (hput H1 l (.loop { r1 with state := .busy })) a1 _ := ⟨hR1.tm, hR1.df, wfL_mono hdp _ hR1.wt, wfDs_mono hdp hR1.wd, hR2⟩
  rw [hβ1] at hRA
  have hlH2 : ∀ l', some l = some l' → domB (hput H1 l (.loop { r1 with state := .busy })) l' = true := fun l' e => by cases e; exact hdp l (domB_of hl1)
  have hk2 := k2 z hlH2 n (rng β H) w β1 a1 _ hRA
  have hF : (some l).map β1 = some (β l) := by simp only [Option.map_some, hβ1]
  rw [hF] at hk2
  refine wpIn_mono hk2 ?_
  rintro e a2 w2 ⟨rfl, β2, hb2, hR2c⟩
  obtain ⟨t2', -, hR2'⟩ := hR2c.some
  obtain ⟨fn3, hrec3⟩ := hR2'.rel.lies l _ hl3
  have hβ2 : β2 l = β l := (hb2 l (hdp l (domB_of hl1))).trans hβ1
  have hwf3 := hR2'.rel.wf l _ hl3
  rw [hβ2] at hrec3
  have her := run_endRound (P := P) j hrec3
  have hR4 := hR2'.rel.obj (b := l) (domB_of hl3) (o := .loop { r3 with state := if j.isNone then .ready else .done, pending := j }) (x := .loop { r3 with state := if j.isNone then .ready else .done, pending := j, fn := fn3, tmps := renA β2 r3.tmps, defers := β2 r3.defers }) hwf3 ⟨fn3, rfl⟩
  rw [hβ2] at hR4
  have hext : ∀ i, domB H i = true → β2 i = β i := fun i hi => (hb2 i (hdp i (d1 i hi))).trans (hb1 i hi)
  have hres : ∃ v w', (Instr.endRound (β l) j).run P w2 = .ok v w' ∧ (∃ β', (∀ i, domB H i = true → β' i = β i) ∧ Ending.returned v = (Res.ret (.bool j.isNone)).out β' ∧ Rel (rng β H) w β' (hput H3 l (.loop { r3 with state := if j.isNone then .ready else .done, pending := j })) w') :=
    ⟨_, _, her, β2, hext, rfl, hR4⟩
  cases ex with
  | pan ch => cases hj
  | normal => simp only [jumpOf, Option.some.injEq] at hj; subst hj; exact hres
  | ret => simp only [jumpOf, Option.some.injEq] at hj; subst hj; exact hres
  | exit id => simp only [jumpOf, Option.some.injEq] at hj; subst hj; exact hres
  | goto g => simp only [jumpOf, Option.some.injEq] at hj; subst hj; exact hres

def modeOf : Ex → Option FrameMode
  | .normal => some .returning
  | .ret => some .returning
  | .pan ch => some (.panicking ch)
  | _ => none

/-- A function: by a contract, or walked. -/
def vfun (P : Program) (sm : CallF) (m : Nat) : Nat → CallF
  | 0, fn, args, H, c => sm fn args H c
  | n + 1, fn, args, H, c =>
    match sm fn args H c with
    | some r => some r
    | none =>
      match fn with
      | .func f =>
        match P.funcs[f]? with
        | some fc =>
          match fc.body with
          | some body =>
            match vcode P (vfun P sm m n) none m body (frame0 fc args) [] H c with
            | some (ex, t', D', H', c') =>
              match modeOf ex with
              | some u => vleave P (vfun P sm m n) m fc t' D' u H' c'
              | none => none
            | none => none
          | none => none
        | none => none
      | .yield l => vyield P (vfun P sm m n) m l args H c
      | _ => none

theorem vfun_ok {sm : CallF} (hsm : CallOK P sm) (hmix : P.follows .mixedOrders = true) (m : Nat) : ∀ n, CallOK P (vfun P sm m n)
  | 0 => fun f args H c v H' c' h => hsm f args H c v H' c' h
  | n + 1 => by
    intro fn args H c r H' c' h
    have ih := vfun_ok hsm hmix m n
    simp only [vfun] at h
    split at h
    · rename_i r' hr
      simp only [Option.some.injEq] at h
      subst h
      exact hsm _ _ _ _ _ _ _ hr
    · split at h
      · rename_i f
        split at h
        case h_2 => cases h
        rename_i fc hf
        split at h
        case h_2 => cases h
        rename_i body hb
        split at h
        case h_2 => cases h
        rename_i ex t1 D1 H1 c1 hv
        split at h
        case h_2 => cases h
        rename_i u hu
        obtain ⟨m1, d1, r1⟩ := vcode_does ih hmix none m _ _ _ _ _ _ _ _ _ _ hv
        obtain ⟨m2, d2, -⟩ := vleave_does ih hmix _ _ _ _ _ _ _ h
        refine ⟨fun z => m1 (m2 z), fun z _ hargs β w hR => ?_⟩
        refine (callsIn_wide (n := 0)).1 (callsIn_of_wp_marks hf hb trivial (wpIn_mono (r1 (m2 z) (fun l hl => by cases hl) 0 (rng β H) w β _ w (frame0_rel hR hargs)) ?_))
        rintro e a' w' ⟨rfl, β', hb', hRc⟩
        obtain ⟨t2, ht2, hR'⟩ := hRc.some
        have h2 : vleave P (vfun P sm m n) m fc t2 D1 u H1 c1 = some (r, H', c') := by
          rcases ht2 with ⟨rfl, ch, rfl⟩ | rfl
          · simp only [modeOf, Option.some.injEq] at hu
            subst hu
            exact h
          · exact h
        obtain ⟨-, -, r2⟩ := vleave_does ih hmix _ _ _ _ _ _ _ h2
        have hlv := r2 z 0 (rng β H) w β' w' hR'.rel hR'.wd hR'.wt
        have hfin : LeavesInM Fence.wide 0 P fc a'.tmps (fun e w' => ∃ β', (∀ i, domB H i = true → β' i = β i) ∧ e = r.out β' ∧ Rel (rng β H) w β' H' w') a'.defers u w' := by
          rw [hR'.tm, hR'.df]
          refine leavesInM_mono ?_ _ _ _ hlv
          rintro e w'' ⟨β'', hb'', he, hR''⟩
          exact ⟨β'', fun i hi => (hb'' i (d1 i hi)).trans (hb' i hi), he, hR''⟩
        cases ex with
        | normal => simp only [modeOf, Option.some.injEq] at hu; subst hu; exact hfin
        | ret => simp only [modeOf, Option.some.injEq] at hu; subst hu; exact hfin
        | pan ch => simp only [modeOf, Option.some.injEq] at hu; subst hu; exact hfin
        | _ => cases hu
      · rename_i l
        obtain ⟨y1, y2⟩ := vyield_does ih hmix h
        exact ⟨y1, fun z _ hargs => y2 z hargs⟩
      · cases h

def noSm : CallF := fun _ _ _ _ => none
theorem noSm_ok : CallOK P noSm := fun _ _ _ _ _ _ _ h => (by cases h)
def ctl0 (orc : List (Option Bool)) : Ctl := { n := 0, orc := orc, obl := [], log := [] }

/-- A function of plain values: what it hands back, and what that owes. -/
theorem vfun_calls {sm : CallF} (hsm : CallOK P sm) (hmix : P.follows .mixedOrders = true) (m n : Nat) {f : FuncId} {args : Array Value} {orc : List (Option Bool)} {r : Res} {obl : List Prop}
    (h : (vfun P sm m n (.func f) args [] (ctl0 orc)).map (fun x => (x.1, x.2.2.obl)) = some (r, obl)) (ho : AllP obl) (ha : wfA noB args = true) (hr : resOK noB r = true) (w : World) :
    Calls P f args w fun e w' => e = r.out (fun i => i) ∧ Below w.heap.size w w' := by
  rw [Option.map_eq_some_iff] at h
  obtain ⟨⟨r', H', c'⟩, h1, h2⟩ := h
  simp only [Prod.mk.injEq] at h2
  obtain ⟨rfl, rfl⟩ := h2
  have hd : domB [] = noB := rfl
  have := (vfun_ok hsm hmix m n _ _ _ _ _ _ _ h1).2 ho rfl (by rw [hd]; exact ha) (fun i => i) w (Rel.nil _ _ _)
  simp only [renA_id] at this
  refine this.mono ?_
  rintro e w' ⟨β', _, rfl, hR⟩
  refine ⟨?_, hR.kp.below (Nat.le_refl _) ?_⟩
  · cases r' with
    | ret v =>
      simp only [Res.out]
      rw [ren_plain β' hr, ren_plain _ hr]
    | pan ch => rfl
  · rintro k ⟨i, hi, _⟩
    cases hi
end

end Go.Proofs.Ytpbhoamojocbpaa
