/- A walk by computation: code. -/
import Derived.Test.YtpbhoamojocbpaaE8
import Derived.RangeFuncLeaves
import Derived.RangeFuncNested
import Derived.RecoverIn
namespace Go.Proofs.Ytpbhoamojocbpaa
open Go Go.RowKit
set_option linter.unusedSimpArgs false
set_option linter.unusedVariables false

section
variable {P : Program}

/-- How code is left. -/
inductive Ex where
  | normal
  | exit (id : Nat)
  | goto (l : Nat)
  | ret
  | pan (ch : List PanicEntry)
def Ex.out : Ex → Exit
  | .normal => .normal
  | .exit id => .exit id
  | .goto l => .goto l
  | .ret => .ret
  | .pan ch => .panic ch

/-- A loop over a function is entered: its record, and the block of the calls that wait. -/
def venter (rd : Option Nat) (H : Hp) (t : List Value) (ps : Array Tmp) (assign body : Code) (c : Ctl) : Option (Hp × Nat × List VDef × Ctl) :=
  match rd with
  | none =>
    if domB H c.n || domB H (c.n + 1) then none
    else some (hput (hput H c.n (.deferred (some []))) (c.n + 1) (.loop { state := .ready, pending := none, fn := 0, tmps := t.toArray, params := ps, assign, body, defers := c.n }), c.n + 1, [.mark c.n], { c with n := c.n + 2 })
  | some l0 =>
    match look H l0 with
    | some (.loop r0) =>
      if domB H c.n then none
      else some (hput H c.n (.loop { state := .ready, pending := none, fn := 0, tmps := t.toArray, params := ps, assign, body, defers := r0.defers }), c.n, [], { c with n := c.n + 1 })
    | _ => none

abbrev Fin5 := Option (Ex × List Value × List VDef × Hp × Ctl)
/-- Code within a scope: who jumps to a label there goes on behind it. -/
def vscope (run : Code → List Value → List VDef → Hp → Ctl → Fin5) (b : Code) : Nat → Code → List Value → List VDef → Hp → Ctl → Fin5
  | 0, _, _, _, _, _ => none
  | j + 1, k, t, D, H, c =>
    match run k t D H c with
    | some (.goto l, t', D', H', c') =>
      match findLabel b l with
      | some rest => vscope run b j rest t' D' H' c'
      | none => some (.goto l, t', D', H', c')
    | r => r

def vcode (P : Program) (call : CallF) (rd : Option Nat) : Nat → Code → List Value → List VDef → Hp → Ctl → Option (Ex × List Value × List VDef × Hp × Ctl)
  | 0, _, _, _, _, _ => none
  | n + 1, k, t, D, H, c =>
    match k with
    | .skip => some (.normal, t, D, H, c)
    | .label _ => some (.normal, t, D, H, c)
    | .seq x y =>
      match vcode P call rd n x t D H c with
      | some (.normal, t', D', H', c') => vcode P call rd n y t' D' H' c'
      | r => r
    | .cond o x y =>
      if opdOK o then
        match vev t o with
        | .bool b =>
          match vdec b c with
          | (d, c1) => vcode P call rd n (if d then x else y) t D H c1
        | _ => none
      else none
    | .block id b =>
      match vcode P call rd n b t D H c with
      | some (.exit i, t', D', H', c') => if i = id then some (.normal, t', D', H', c') else some (.exit i, t', D', H', c')
      | r => r
    | .loop b =>
      match vcode P call rd n b t D H c with
      | some (.normal, t', D', H', c') => vcode P call rd n (.loop b) t' D' H' c'
      | r => r
    | .exit id => some (.exit id, t, D, H, c)
    | .goto l => some (.goto l, t, D, H, c)
    | .ret => some (.ret, t, D, H, c)
    | .region _ ops draw =>
      match vregion P call rd.isSome ops draw t D H c with
      | some (.go t' D' H' c') => some (.normal, t', D', H', c')
      | some (.pan ch t' D' H' c') => some (.pan ch, t', D', H', c')
      | none => none
    | .scope b => vscope (vcode P call rd n) b n b t D H c
    | .rangeFunc g ps assign body =>
      if opdOK g then
        match vev t g with
        | .func (.func f) first cap =>
          if hasBody P f then
            match venter rd H t ps assign body c with
            | some (H1, l, M, c1) =>
              match vcall call H1 (.func f) (first ++ #[.func (.yield l) #[] #[]] ++ cap) c1 with
              | some (m, _, c2) =>
                match m.pan with
                | none =>
                  match look (merge m.set H1) l with
                  | some (.loop r) =>
                    if r.state = .busy then none
                    else
                      match r.pending with
                      | none => some (.normal, t, M ++ D, hput (merge m.set H1) l (.loop { r with state := .exhausted }), c2)
                      | some k => vcode P call rd n k t (M ++ D) (hput (merge m.set H1) l (.loop { r with state := .exhausted })) c2
                  | _ => none
                | some _ => none
              | none => none
            | none => none
          else none
        | _ => none
      else none
    | _ => none

/-- .. who panics with nothing that waits for the end may have come to any temporaries. -/
def CameR (A : Nat → Prop) (w0 : World) (β' : Nat → Nat) (ex : Ex) (t' : List Value) (D' : List VDef) (H' : Hp) (a : Act) (w : World) : Prop :=
  match ex with
  | .pan _ => ∃ t2, (D' = [] ∨ t2 = t') ∧ RelA A w0 β' D' t2 H' a w
  | _ => RelA A w0 β' D' t' H' a w
theorem CameR.some {A : Nat → Prop} {w0 : World} {β' : Nat → Nat} {ex : Ex} {t' : List Value} {D' : List VDef} {H' : Hp} {a : Act} {w : World} (h : CameR A w0 β' ex t' D' H' a w) :
    ∃ t2, ((D' = [] ∧ ∃ ch, ex = .pan ch) ∨ t2 = t') ∧ RelA A w0 β' D' t2 H' a w := by
  cases ex with
  | pan ch => obtain ⟨t2, hD, h⟩ := h; exact ⟨t2, hD.imp (fun h => ⟨h, ch, rfl⟩) id, h⟩
  | _ => exact ⟨t', .inr rfl, h⟩
/-- Where code has come to. -/
def Came (A : Nat → Prop) (w0 : World) (β : Nat → Nat) (H : Hp) (ex : Ex) (t' : List Value) (D' : List VDef) (H' : Hp) (e : Exit) (a : Act) (w : World) : Prop :=
  e = ex.out ∧ ∃ β', (∀ i, domB H i = true → β' i = β i) ∧ CameR A w0 β' ex t' D' H' a w

theorem exists_least {p : Nat → Prop} (h : ∃ m, p m) : ∃ m, p m ∧ ∀ k, p k → m ≤ k := by
  obtain ⟨m, hm⟩ := h
  induction m using Nat.strongRecOn with
  | _ m ih =>
    by_cases hs : ∃ k, k < m ∧ p k
    · obtain ⟨k, hk, hpk⟩ := hs
      exact ih k hk hpk
    · refine ⟨m, hm, fun k hk => ?_⟩
      rcases Nat.lt_or_ge k m with h | h
      · exact absurd ⟨k, h, hk⟩ hs
      · exact h
theorem wpIn_loop_by {F : Fence} {n0 : Nat} {c : Code} {Q : Exit → Act → World → Prop} (I : Nat → Act → World → Prop) {n : Nat} {a : Act} {w : World} (h0 : I n a w)
    (round : ∀ m a w, I m a w → c.wpIn F n0 P (Exit.then (fun a' w' => ∃ m', m' < m ∧ I m' a' w') Q) a w) : (Code.loop c).wpIn F n0 P Q a w := by
  classical
  refine wpIn_loop (fun a w => ∃ m, I m a w) (fun a w => if h : ∃ m, I m a w then Classical.choose (exists_least h) else 0) ⟨n, h0⟩ (fun a w hI => ?_)
  refine wpIn_mono (round _ a w (Classical.choose_spec (exists_least hI)).1) (fun e a' w' h => ?_)
  cases e with
  | normal =>
    obtain ⟨m', hlt, hI'⟩ := h
    have hex : ∃ m, I m a' w' := ⟨m', hI'⟩
    refine ⟨hex, ?_⟩
    simp only [dif_pos hex, dif_pos hI]
    exact Nat.lt_of_le_of_lt ((Classical.choose_spec (exists_least hex)).2 m' hI') hlt
  | _ => exact h


theorem callFunc_run {f : FuncId} (hb : hasBody P f = true) (args : Array Value) (w : World) : (callFunc f args).run P w = .ok (.enter f args) w := by
  unfold hasBody at hb
  cases hf : P.funcs[f]? with
  | none => rw [hf] at hb; cases hb
  | some fn =>
    rw [hf] at hb
    simp only [Bool.and_eq_true, Bool.not_eq_true'] at hb
    have e : calm P (callFunc f args) = some (.enter f args) := by
      simp only [callFunc, calm_bind, program, calm, Option.bind_some, hf]
      simp only [hb.1, hb.2, Bool.false_eq_true, if_false]
      rfl
    exact calm_run e w

theorem venter_spec {rd : Option Nat} {H : Hp} {t : List Value} {ps : Array Tmp} {assign body : Code} {c : Ctl} {H1 : Hp} {l : Nat} {M : List VDef} {c1 : Ctl} (h : venter rd H t ps assign body c = some (H1, l, M, c1)) :
    c1.obl = c.obl ∧ (∀ i, domB H i = true → domB H1 i = true) ∧ domB H1 l = true ∧ wfDs (domB H1) M = true ∧
    ∀ (A : Nat → Prop) (w0 : World) (β : Nat → Nat) (D : List VDef) (a : Act) (w : World), RelA A w0 β D t H a w → ∀ fn, ∃ β1 w1, (∀ i, domB H i = true → β1 i = β i) ∧
      (Instr.enterLoop fn a.tmps ps assign body (rd.map β)).run P w = .ok (β1 l, M.map (renD β1)) w1 ∧ Rel A w0 β1 H1 w1 := by
  unfold venter at h
  cases rd with
  | none =>
    simp only at h
    split at h
    · cases h
    · rename_i hn
      simp only [Option.some.injEq, Prod.mk.injEq] at h
      obtain ⟨rfl, rfl, rfl, rfl⟩ := h
      rw [Bool.not_eq_true, Bool.or_eq_false_iff] at hn
      refine ⟨rfl, fun i hi => by rw [domB_hput, domB_hput, hi]; simp, by rw [domB_hput]; simp, ?_, ?_⟩
      · simp [wfDs, wfD, domB_hput]
      · intro A w0 β D a w hR fn
        have r1 := hR.rel.new hn.1 (o := .deferred (some [])) (x := .deferred (some [])) rfl rfl
        have hd1 : ∀ i, domB H i = true → domB (hput H c.n (.deferred (some []))) i = true := fun i hi => by rw [domB_hput, hi, Bool.or_true]
        have hag : ∀ i, domB H i = true → upd1 β c.n w.heap.size i = β i := fun i hi => upd1_ne (fun e => by rw [e, hn.1] at hi; cases hi)
        have hn1 : domB (hput H c.n (.deferred (some []))) (c.n + 1) = false := by
          rw [domB_hput, hn.2, decide_eq_false (by omega)]; rfl
        have hwt : wfA (domB (hput H c.n (.deferred (some [])))) t.toArray = true := wfL_mono hd1 t hR.wt
        have r2 := r1.new hn1 (o := .loop { state := .ready, pending := none, fn := 0, tmps := t.toArray, params := ps, assign, body, defers := c.n })
          (x := .loop { state := .ready, pending := none, fn := fn, tmps := renA (upd1 β c.n w.heap.size) t.toArray, params := ps, assign, body, defers := upd1 β c.n w.heap.size c.n })
          (by simp only [wfO, Bool.and_eq_true]; exact ⟨hwt, by rw [domB_hput]; simp⟩) ⟨fn, rfl⟩
        refine ⟨_, _, fun i hi => ?_, ?_, r2⟩
        · rw [upd1_ne (fun e => by rw [e, hn.2] at hi; cases hi), hag i hi]
        · simp only [Option.map_none]
          rw [run_enterLoop_outer]
          have e1 : a.tmps = renA (upd1 β c.n w.heap.size) t.toArray := by
            rw [hR.tm, ← renL_congr hag t hR.wt]; rfl
          have e2 : upd1 β c.n w.heap.size c.n = w.heap.size := upd1_self
          rw [e1, e2, upd1_self]
          simp only [List.map_cons, List.map_nil, renD, upd1_ne (show c.n ≠ c.n + 1 by omega), upd1_self, World.size_alloc]
  | some l0 =>
    simp only at h
    split at h
    · rename_i r0 hl0
      split at h
      · cases h
      · rename_i hn
        simp only [Option.some.injEq, Prod.mk.injEq] at h
        obtain ⟨rfl, rfl, rfl, rfl⟩ := h
        rw [Bool.not_eq_true] at hn
        refine ⟨rfl, fun i hi => by rw [domB_hput, hi, Bool.or_true], by rw [domB_hput]; simp, rfl, ?_⟩
        intro A w0 β D a w hR fn
        obtain ⟨fn0, hrec⟩ := hR.rel.lies l0 _ hl0
        have hwf0 := hR.rel.wf l0 _ hl0
        simp only [wfO, Bool.and_eq_true] at hwf0
        have r2 := hR.rel.new hn (o := .loop { state := .ready, pending := none, fn := 0, tmps := t.toArray, params := ps, assign, body, defers := r0.defers })
          (x := .loop { state := .ready, pending := none, fn := fn, tmps := renA β t.toArray, params := ps, assign, body, defers := β r0.defers })
          (by simp only [wfO, Bool.and_eq_true]; exact ⟨hR.wt, hwf0.2⟩) ⟨fn, rfl⟩
        refine ⟨_, _, fun i hi => upd1_ne (fun e => by rw [e, hn] at hi; cases hi), ?_, r2⟩
        simp only [Option.map_some]
        rw [run_enterLoop_inner hrec, hR.tm]
        simp only [List.map_nil, upd1_self]
        rfl
    · cases h

theorem stepR_scope {b : Frame} {a : Act} {k : List Item} {cs : List Frame} {w : World} {c : Code} : step P (lone (b.atR a (.code (.scope c) :: k)) cs w) = .next (lone (b.atR a (.code c :: .inScope c :: k)) cs w) :=
  step_lone_go (by simp [stepG, stepG.exec, Frame.atR])
theorem stepR_inScope {b : Frame} {a : Act} {k : List Item} {cs : List Frame} {w : World} {c : Code} : step P (lone (b.atR a (.inScope c :: k)) cs w) = .next (lone (b.atR a k) cs w) :=
  step_lone_go (by simp [stepG, stepG.exec, Frame.atR])
/-- Code, run within a scope. -/
def ScIn (F : Fence) (n : Nat) (P : Program) (c k0 : Code) (Q : Exit → Act → World → Prop) (a : Act) (w : World) : Prop :=
  ∀ (b : Frame) (k : List Item) (cs : List Frame), b.roundOf = F.round → F.fn b.fn → F.room (cs.length + 1 + n) →
    ∃ e a' w', Q e a' w' ∧ ArrivesIn (Machine.fenced P F) P (lone (b.atR a (.code k0 :: .inScope c :: k)) cs w) b k cs e a' w'
theorem wpIn_scope_of {F : Fence} {n : Nat} {c : Code} {Q : Exit → Act → World → Prop} {a : Act} {w : World} (h : ScIn F n P c c Q a w) : (Code.scope c).wpIn F n P Q a w := by
  intro b k cs hro hb hr
  obtain ⟨e, a', w', hq, harr⟩ := h b k cs hro hb hr
  exact ⟨e, a', w', hq, .of_steps (.one (fenced_calm hb hr rfl) stepR_scope) harr⟩
theorem scIn_of {F : Fence} {n : Nat} {c k0 : Code} {Q : Exit → Act → World → Prop} {a : Act} {w : World}
    (h : k0.wpIn F n P (fun e a' w' => match e with | .goto l => (match findLabel c l with | some rest => ScIn F n P c rest Q a' w' | none => Q (.goto l) a' w') | e => Q e a' w') a w) : ScIn F n P c k0 Q a w := by
  intro b k cs hro hb hr
  obtain ⟨e, a₁, w₁, hq, harr⟩ := h b (.inScope c :: k) cs hro hb hr
  cases e with
  | normal => exact ⟨.normal, a₁, w₁, hq, StepsIn.trans harr (.one (fenced_calm hb hr rfl) stepR_inScope)⟩
  | exit id => exact ⟨.exit id, a₁, w₁, hq, fun k' hk => harr.1 k' (by simp only [exitTo]; exact hk), fun hr' hk => let ⟨k₁, h1, h2⟩ := harr.2 hr' (by simp only [exitTo]; exact hk); ⟨k₁, h1, h2⟩⟩
  | goto l =>
    cases hf : findLabel c l with
    | some rest =>
      simp only [hf] at hq
      obtain ⟨e₂, a₂, w₂, hq₂, harr₂⟩ := hq b k cs hro hb hr
      exact ⟨e₂, a₂, w₂, hq₂, .of_steps (harr.1 _ (by simp only [gotoIn, hf])) harr₂⟩
    | none =>
      simp only [hf] at hq
      exact ⟨.goto l, a₁, w₁, hq, fun k' hk => harr.1 k' (by simp only [gotoIn, hf]; exact hk), fun hr' hk => let ⟨k₁, h1, h2⟩ := harr.2 hr' (by simp only [gotoIn, hf]; exact hk); ⟨k₁, h1, h2⟩⟩
  | ret => exact ⟨_, a₁, w₁, hq, harr⟩
  | panic ch => exact ⟨_, a₁, w₁, hq, harr⟩
  | outgrown => exact ⟨_, a₁, w₁, hq, harr⟩

/-- What is shown of code that a walk has run. -/
def Ran (P : Program) (rd : Option Nat) (k : Code) (t : List Value) (D : List VDef) (H : Hp) (c : Ctl) (ex : Ex) (t' : List Value) (D' : List VDef) (H' : Hp) (c' : Ctl) : Prop :=
  (AllP c'.obl → AllP c.obl) ∧ (∀ i, domB H i = true → domB H' i = true) ∧
    (AllP c'.obl → (∀ l, rd = some l → domB H l = true) → ∀ (n0 : Nat) (A : Nat → Prop) (w0 : World) (β : Nat → Nat) (a : Act) (w : World), RelA A w0 β D t H a w → k.wpIn (Fw (rd.map β)) n0 P (Came A w0 β H ex t' D' H') a w)
theorem vscope_does {rd : Option Nat} {run : Code → List Value → List VDef → Hp → Ctl → Fin5} (hrun : ∀ k t D H c ex t' D' H' c', run k t D H c = some (ex, t', D', H', c') → Ran P rd k t D H c ex t' D' H' c') (b : Code) :
    ∀ (j : Nat) (k : Code) (t : List Value) (D : List VDef) (H : Hp) (c : Ctl) (ex : Ex) (t' : List Value) (D' : List VDef) (H' : Hp) (c' : Ctl), vscope run b j k t D H c = some (ex, t', D', H', c') →
    (AllP c'.obl → AllP c.obl) ∧ (∀ i, domB H i = true → domB H' i = true) ∧
    (AllP c'.obl → (∀ l, rd = some l → domB H l = true) → ∀ (n0 : Nat) (A : Nat → Prop) (w0 : World) (β : Nat → Nat) (a : Act) (w : World), RelA A w0 β D t H a w → ScIn (Fw (rd.map β)) n0 P b k (Came A w0 β H ex t' D' H') a w) := by
  intro j
  induction j with
  | zero => intro k t D H c ex t' D' H' c' h; cases h
  | succ j ih =>
    intro k t D H c ex t' D' H' c' h
    simp only [vscope] at h
    split at h
    · rename_i l t1 D1 H1 c1 hr
      obtain ⟨m1, d1, r1⟩ := hrun _ _ _ _ _ _ _ _ _ _ hr
      split at h
      · rename_i rest hf
        obtain ⟨m2, d2, r2⟩ := ih _ _ _ _ _ _ _ _ _ _ h
        refine ⟨fun z => m1 (m2 z), fun i hi => d2 i (d1 i hi), fun z hl n0 A w0 β a w hR => scIn_of (wpIn_mono (r1 (m2 z) hl n0 A w0 β a w hR) ?_)⟩
        rintro e a' w' ⟨rfl, β', hb, hR'⟩
        simp only [Ex.out, hf]
        have h2 := r2 z (fun l hl' => d1 l (hl l hl')) n0 A w0 β' a' w' hR'
        have hrd : rd.map β' = rd.map β := by
          cases hrr : rd with
          | none => rfl
          | some l => simp only [Option.map_some, hb l (hl l hrr)]
        rw [hrd] at h2
        intro b' k' cs' x1 x2 x3
        obtain ⟨e, a'', w'', ⟨he, β'', hb', hR''⟩, harr⟩ := h2 b' k' cs' x1 x2 x3
        exact ⟨e, a'', w'', ⟨he, β'', fun i hi => (hb' i (d1 i hi)).trans (hb i hi), hR''⟩, harr⟩
      · rename_i hf
        simp only [Option.some.injEq, Prod.mk.injEq] at h
        obtain ⟨rfl, rfl, rfl, rfl, rfl⟩ := h
        refine ⟨m1, d1, fun z hl n0 A w0 β a w hR => scIn_of (wpIn_mono (r1 z hl n0 A w0 β a w hR) ?_)⟩
        rintro e a' w' ⟨rfl, hR'⟩
        simp only [Ex.out, hf]
        exact ⟨rfl, hR'⟩
    · rename_i hne
      obtain ⟨m1, d1, r1⟩ := hrun _ _ _ _ _ _ _ _ _ _ h
      refine ⟨m1, d1, fun z hl n0 A w0 β a w hR => scIn_of (wpIn_mono (r1 z hl n0 A w0 β a w hR) ?_)⟩
      rintro e a' w' ⟨rfl, hR'⟩
      cases ex with
      | goto l => exact absurd h (hne _ _ _ _ _)
      | _ => exact ⟨rfl, hR'⟩

theorem vcode_does {call : CallF} (hcall : CallOK P call) (hmix : P.follows .mixedOrders = true) (rd : Option Nat) : ∀ (n : Nat) (k : Code) (t : List Value) (D : List VDef) (H : Hp) (c : Ctl) (ex : Ex) (t' : List Value) (D' : List VDef) (H' : Hp) (c' : Ctl), vcode P call rd n k t D H c = some (ex, t', D', H', c') →
    (AllP c'.obl → AllP c.obl) ∧ (∀ i, domB H i = true → domB H' i = true) ∧
    (AllP c'.obl → (∀ l, rd = some l → domB H l = true) → ∀ (n0 : Nat) (A : Nat → Prop) (w0 : World) (β : Nat → Nat) (a : Act) (w : World), RelA A w0 β D t H a w → k.wpIn (Fw (rd.map β)) n0 P (Came A w0 β H ex t' D' H') a w) := by
  intro n
  induction n using Nat.strongRecOn with
  | _ n ihs =>
  cases n with
  | zero => intro k t D H c ex t' D' H' c' h; cases h
  | succ n =>
    have ih := ihs n (Nat.lt_succ_self n)
    intro k t D H c ex t' D' H' c' h
    have hrdx : ∀ {G : Hp} {β β' : Nat → Nat}, (∀ l, rd = some l → domB G l = true) → (∀ i, domB G i = true → β' i = β i) → rd.map β' = rd.map β := fun hl hb => by
      cases hr : rd with
      | none => rfl
      | some l => simp only [Option.map_some, hb l (hl l hr)]
    cases k with
    | skip =>
      simp only [vcode, Option.some.injEq, Prod.mk.injEq] at h
      obtain ⟨rfl, rfl, rfl, rfl, rfl⟩ := h
      exact ⟨id, fun _ h => h, fun _ _ n0 A w0 β a w hR => wpIn_skip ⟨rfl, β, fun _ _ => rfl, hR⟩⟩
    | label l =>
      simp only [vcode, Option.some.injEq, Prod.mk.injEq] at h
      obtain ⟨rfl, rfl, rfl, rfl, rfl⟩ := h
      exact ⟨id, fun _ h => h, fun _ _ n0 A w0 β a w hR => wpIn_label ⟨rfl, β, fun _ _ => rfl, hR⟩⟩
    | exit id' =>
      simp only [vcode, Option.some.injEq, Prod.mk.injEq] at h
      obtain ⟨rfl, rfl, rfl, rfl, rfl⟩ := h
      exact ⟨id, fun _ h => h, fun _ _ n0 A w0 β a w hR => wpIn_exit ⟨rfl, β, fun _ _ => rfl, hR⟩⟩
    | goto l =>
      simp only [vcode, Option.some.injEq, Prod.mk.injEq] at h
      obtain ⟨rfl, rfl, rfl, rfl, rfl⟩ := h
      exact ⟨id, fun _ h => h, fun _ _ n0 A w0 β a w hR => wpIn_goto ⟨rfl, β, fun _ _ => rfl, hR⟩⟩
    | ret =>
      simp only [vcode, Option.some.injEq, Prod.mk.injEq] at h
      obtain ⟨rfl, rfl, rfl, rfl, rfl⟩ := h
      exact ⟨id, fun _ h => h, fun _ _ n0 A w0 β a w hR => wpIn_ret ⟨rfl, β, fun _ _ => rfl, hR⟩⟩
    | region id' ops draw =>
      simp only [vcode] at h
      have hro : ∀ β : Nat → Nat, rd.isSome = false → rd.map β = none := fun β hr => by cases rd with | none => rfl | some l => cases hr
      split at h
      · rename_i t1 D1 H1 c1 hr
        simp only [Option.some.injEq, Prod.mk.injEq] at h
        obtain ⟨rfl, rfl, rfl, rfl, rfl⟩ := h
        obtain ⟨v1, v2, v3⟩ := vregion_spec hcall hr
        exact ⟨v1, v2, fun x _ n0 A w0 β a w hR => v3 hmix x _ (hro β) n0 id' _ A w0 β a w hR (fun β' a' w' hb hR' => ⟨rfl, β', hb, hR'⟩)⟩
      · rename_i ch t1 D1 H1 c1 hr
        simp only [Option.some.injEq, Prod.mk.injEq] at h
        obtain ⟨rfl, rfl, rfl, rfl, rfl⟩ := h
        obtain ⟨v1, v2, v3⟩ := vregion_spec hcall hr
        exact ⟨v1, v2, fun x _ n0 A w0 β a w hR => v3 hmix x _ (hro β) n0 id' _ A w0 β a w hR (fun t2 β' a' w' hD hb hR' => ⟨rfl, β', hb, t2, hD, hR'⟩)⟩
      · cases h
    | seq x y =>
      simp only [vcode] at h
      split at h
      · rename_i t1 D1 H1 c1 hx
        obtain ⟨m1, d1, r1⟩ := ih _ _ _ _ _ _ _ _ _ _ hx
        obtain ⟨m2, d2, r2⟩ := ih _ _ _ _ _ _ _ _ _ _ h
        refine ⟨fun z => m1 (m2 z), fun i hi => d2 i (d1 i hi), fun z hl n0 A w0 β a w hR => wpIn_seq ?_⟩
        refine wpIn_mono (r1 (m2 z) hl n0 A w0 β a w hR) ?_
        rintro e a' w' ⟨rfl, β', hb, hR'⟩
        have h2 := r2 z (fun l hl' => d1 l (hl l hl')) n0 A w0 β' a' w' hR'
        rw [hrdx hl hb] at h2
        refine wpIn_mono h2 ?_
        rintro e a'' w'' ⟨rfl, β'', hb', hR''⟩
        exact ⟨rfl, β'', fun i hi => (hb' i (d1 i hi)).trans (hb i hi), hR''⟩
      · rename_i hne
        obtain ⟨m1, d1, r1⟩ := ih _ _ _ _ _ _ _ _ _ _ h
        refine ⟨m1, d1, fun z hl n0 A w0 β a w hR => wpIn_seq ?_⟩
        refine wpIn_mono (r1 z hl n0 A w0 β a w hR) ?_
        rintro e a' w' ⟨rfl, hR'⟩
        cases ex with
        | normal => exact absurd h (hne _ _ _ _)
        | _ => exact ⟨rfl, hR'⟩
    | cond o x y =>
      simp only [vcode] at h
      split at h
      · rename_i ho
        split at h
        · rename_i b hb
          have hvm := vdec_mono (b := b) (c := c)
          have hvf := vdec_fst (b := b) (c := c)
          generalize vdec b c = dc at h hvm hvf
          obtain ⟨d, c1⟩ := dc
          simp only at h hvm hvf
          obtain ⟨m1, d1, r1⟩ := ih _ _ _ _ _ _ _ _ _ _ h
          refine ⟨fun z => hvm (m1 z), d1, fun z hl n0 A w0 β a w hR => ?_⟩
          have hd := hvf (m1 z)
          subst hd
          exact wpIn_cond (by rw [hR.eval ho, hb]; rfl) (r1 z hl n0 A w0 β a w hR)
        · cases h
      · cases h
    | block id' b =>
      simp only [vcode] at h
      split at h
      · rename_i i t1 D1 H1 c1 hx
        obtain ⟨m1, d1, r1⟩ := ih _ _ _ _ _ _ _ _ _ _ hx
        split at h
        · rename_i hi
          simp only [Option.some.injEq, Prod.mk.injEq] at h
          obtain ⟨rfl, rfl, rfl, rfl, rfl⟩ := h
          refine ⟨m1, d1, fun z hl n0 A w0 β a w hR => wpIn_block (wpIn_mono (r1 z hl n0 A w0 β a w hR) ?_)⟩
          rintro e a' w' ⟨rfl, hR'⟩
          simp only [Ex.out, Exit.inBlock, if_pos hi]
          exact ⟨rfl, hR'⟩
        · rename_i hi
          simp only [Option.some.injEq, Prod.mk.injEq] at h
          obtain ⟨rfl, rfl, rfl, rfl, rfl⟩ := h
          refine ⟨m1, d1, fun z hl n0 A w0 β a w hR => wpIn_block (wpIn_mono (r1 z hl n0 A w0 β a w hR) ?_)⟩
          rintro e a' w' ⟨rfl, hR'⟩
          simp only [Ex.out, Exit.inBlock, if_neg hi]
          exact ⟨rfl, hR'⟩
      · rename_i hne
        obtain ⟨m1, d1, r1⟩ := ih _ _ _ _ _ _ _ _ _ _ h
        refine ⟨m1, d1, fun z hl n0 A w0 β a w hR => wpIn_block (wpIn_mono (r1 z hl n0 A w0 β a w hR) ?_)⟩
        rintro e a' w' ⟨rfl, hR'⟩
        cases ex with
        | exit i => exact absurd h (hne _ _ _ _ _)
        | _ => exact ⟨rfl, hR'⟩
    | loop b =>
      have h' := h
      simp only [vcode] at h'
      have front : (AllP c'.obl → AllP c.obl) ∧ (∀ i, domB H i = true → domB H' i = true) := by
        split at h'
        · rename_i t1 D1 H1 c1 hx
          obtain ⟨m1, d1, -⟩ := ih _ _ _ _ _ _ _ _ _ _ hx
          obtain ⟨m2, d2, -⟩ := ih _ _ _ _ _ _ _ _ _ _ h'
          exact ⟨fun z => m1 (m2 z), fun i hi => d2 i (d1 i hi)⟩
        · obtain ⟨m1, d1, -⟩ := ih _ _ _ _ _ _ _ _ _ _ h'
          exact ⟨m1, d1⟩
      refine ⟨front.1, front.2, fun z hl n0 A w0 β a w hR => ?_⟩
      refine wpIn_loop_by (fun m a w => ∃ t1 D1 H1 c1 β1, vcode P call rd m (.loop b) t1 D1 H1 c1 = some (ex, t', D', H', c') ∧ m ≤ n + 1 ∧ RelA A w0 β1 D1 t1 H1 a w ∧ ∀ i, domB H i = true → domB H1 i = true ∧ β1 i = β i)
        ⟨t, D, H, c, β, h, Nat.le_refl _, hR, fun i hi => ⟨hi, rfl⟩⟩ ?_
      rintro m a w ⟨t1, D1, H1, c1, β1, hv, hm, hR1, hx1⟩
      have hl1 : ∀ l, rd = some l → domB H1 l = true := fun l hr => (hx1 l (hl l hr)).1
      have hrd1 : rd.map β1 = rd.map β := hrdx hl (fun i hi => (hx1 i hi).2)
      cases m with
      | zero => cases hv
      | succ k =>
        have ihk := ihs k (by omega)
        simp only [vcode] at hv
        split at hv
        · rename_i t2 D2 H2 c2 hx
          obtain ⟨m1, d1, r1⟩ := ihk _ _ _ _ _ _ _ _ _ _ hx
          obtain ⟨m2, -, -⟩ := ihk _ _ _ _ _ _ _ _ _ _ hv
          have h1 := r1 (m2 z) hl1 n0 A w0 β1 a w hR1
          rw [hrd1] at h1
          refine wpIn_mono h1 ?_
          rintro e a' w' ⟨rfl, β', hb, hR'⟩
          exact ⟨k, Nat.lt_succ_self k, t2, D2, H2, c2, β', hv, by omega, hR', fun i hi => ⟨d1 i (hx1 i hi).1, (hb i (hx1 i hi).1).trans (hx1 i hi).2⟩⟩
        · rename_i hne
          obtain ⟨m1, d1, r1⟩ := ihk _ _ _ _ _ _ _ _ _ _ hv
          have h1 := r1 z hl1 n0 A w0 β1 a w hR1
          rw [hrd1] at h1
          refine wpIn_mono h1 ?_
          rintro e a' w' ⟨rfl, β', hb, hR'⟩
          have hc : Came A w0 β H ex t' D' H' ex.out a' w' := ⟨rfl, β', fun i hi => (hb i (hx1 i hi).1).trans (hx1 i hi).2, hR'⟩
          cases ex with
          | normal => exact absurd hv (hne _ _ _ _)
          | _ => exact hc
    | scope b =>
      simp only [vcode] at h
      obtain ⟨m1, d1, r1⟩ := vscope_does (P := P) (rd := rd) (run := vcode P call rd n) (fun k t D H c ex t' D' H' c' h => ih k t D H c ex t' D' H' c' h) b _ _ _ _ _ _ _ _ _ _ _ h
      exact ⟨m1, d1, fun z hl n0 A w0 β a w hR => wpIn_scope_of (r1 z hl n0 A w0 β a w hR)⟩
    | rangeFunc g ps assign body =>
      simp only [vcode] at h
      split at h
      case isFalse => cases h
      rename_i hg
      split at h
      case h_2 => cases h
      rename_i f first cap hgv
      split at h
      case isFalse => cases h
      rename_i hbody
      split at h
      case h_2 => cases h
      rename_i H1 l M c1 hen
      split at h
      case h_2 => cases h
      rename_i m Hr c2 hvc
      split at h
      case h_2 => cases h
      rename_i hmp
      split at h
      case h_2 => cases h
      rename_i r hlr
      split at h
      case isTrue => cases h
      rename_i hbusy
      obtain ⟨n1, n2, n3, n4, n5⟩ := venter_spec (P := P) hen
      obtain ⟨s1, s2, s3, s4, s5⟩ := vcall_spec hcall hvc
      -- what comes behind the loop
      have hd2 : ∀ i, domB H i = true → domB (hput (merge m.set H1) l (.loop { r with state := .exhausted })) i = true := fun i hi => by
        rw [domB_hput, domB_merge, n2 i hi]; simp
      have main : AllP c2.obl → ∀ (n0 : Nat) (A : Nat → Prop) (w0 : World) (β : Nat → Nat) (a : Act) (w : World) (Q : Exit → Act → World → Prop), RelA A w0 β D t H a w →
          (∀ β2 a4 w4, (∀ i, domB H i = true → β2 i = β i) → RelA A w0 β2 (M ++ D) t (hput (merge m.set H1) l (.loop { r with state := .exhausted })) a4 w4 →
            (r.pending = none → Q .normal a4 w4) ∧ ∀ k, r.pending = some k → k.wpIn (Fw (rd.map β)) n0 P Q a4 w4) → (Code.rangeFunc g ps assign body).wpIn (Fw (rd.map β)) n0 P Q a w := by
        intro z n0 A w0 β a w Q hR hQ
        obtain ⟨rs, H2, hcv, hmr, hms, hcl2, hclr, hdom1, hwr⟩ := s5 z
        refine wpIn_rangeFunc (fun fn _ => ?_)
        obtain ⟨β1, w1, hb1, hrun, hR1⟩ := n5 A w0 β D a w hR fn
        rw [Fw_round]
        have hga : a.eval g = .func (.func f) (renA β first) (renA β cap) := by rw [hR.eval hg, hgv]; rfl
        have hgw := vev_wf hR.wt hg
        rw [hgv] at hgw
        simp only [wfV, Bool.and_eq_true] at hgw
        refine ⟨β1 l, M.map (renD β1), w1, { target := .fn (.func f) (renA β cap), args := renA β first ++ #[.func (.yield (β1 l)) #[] #[]] }, w1, f, renA β1 (first ++ #[.func (.yield l) #[] #[]] ++ cap), w1, hrun, ?_, fun _ _ => Fw_fn _ _, ?_, (fun h0 => (by rw [Fw_depth] at h0; cases h0)), ?_⟩
        · simp only [resolve, rangeCall, hga, Deferred.ofValue]
          simp [Act.eval]
        · simp only [invoke]
          rw [callFunc_run hbody, renA_map, renA_map, renA_map, Array.map_append, Array.map_append]
          have ef := renA_congr hb1 first hgw.1.2
          have ec := renA_congr hb1 cap hgw.2
          rw [renA_map, renA_map] at ef ec
          rw [ef, ec]
          simp [ren, renF, renA, renL]
        · have hcv1 := hcv β1 w1 (hR1.sub s2 hclr)
          refine Fw_calls (hcv1.mono ?_)
          rintro e w2 ⟨β', hx, rfl, hk⟩
          have hk2 := hk.part hms hcl2
          obtain ⟨hbk1, hbk2⟩ := hR1.back s2 hk2 hx hdom1 (fun i hi => s3 i hi)
          cases rs with
          | pan ch => rw [hmr] at hmp; cases hmp
          | ret v =>
            simp only [Res.out, rangePost]
            generalize hβ2 : (fun i => if domB H1 i = true then β1 i else β' i) = β2 at hbk1 hbk2
            have hag : ∀ i, domB H1 i = true → β2 i = β1 i := fun i hi => by rw [← hβ2]; exact if_pos hi
            obtain ⟨fn', hrec⟩ := hbk1.lies l _ hlr
            rw [hag l n3] at hrec
            have hwfr := hbk1.wf l _ hlr
            have hend := run_endLoop (P := P) hrec (by simpa using hbusy)
            refine ⟨_, _, hend, ?_⟩
            have hR3 := hbk1.obj (b := l) (domB_of hlr) (o := .loop { r with state := .exhausted }) (x := .loop { r with state := .exhausted, fn := fn', tmps := renA β2 r.tmps, defers := β2 r.defers }) hwfr ⟨fn', rfl⟩
            rw [hag l n3] at hR3
            have hag2 : ∀ i, domB H i = true → β2 i = β i := fun i hi => (hag i (n2 i hi)).trans (hb1 i hi)
            have hmerge : ∀ i, domB H1 i = true → domB (hput (merge m.set H1) l (.loop { r with state := .exhausted })) i = true := fun i hi => by rw [domB_hput, domB_merge, hi]; simp
            have hRA : RelA A w0 β2 (M ++ D) t (hput (merge m.set H1) l (.loop { r with state := .exhausted })) { a with defers := M.map (renD β1) ++ a.defers } _ :=
              ⟨by rw [renL_congr hag2 t hR.wt]; exact hR.tm, by
                show M.map (renD β1) ++ a.defers = _
                rw [List.map_append, hR.df, renDs_congr hag2 hR.wd, renDs_congr hag n4], wfL_mono hd2 t hR.wt, by
                unfold wfDs
                rw [List.all_append, Bool.and_eq_true]
                exact ⟨wfDs_mono hmerge n4, wfDs_mono hd2 hR.wd⟩, hR3⟩
            have hq := hQ β2 _ _ hag2 hRA
            clear hRA hR3 hend hwfr hrec
            revert hq
            generalize w2.putObj (β1 l) _ = W4
            rintro ⟨q1, q2⟩
            show match r.pending with
              | none => Q .normal _ W4
              | some c => c.wpIn (Fw (rd.map β)) n0 P Q _ W4
            cases hp : r.pending with
            | none => exact q1 hp
            | some k => exact q2 k hp
      split at h
      · rename_i hpend
        simp only [Option.some.injEq, Prod.mk.injEq] at h
        obtain ⟨rfl, rfl, rfl, rfl, rfl⟩ := h
        refine ⟨fun z => by rw [← n1]; exact s1 z, hd2, fun z hl n0 A w0 β a w hR => main z n0 A w0 β a w _ hR (fun β2 a4 w4 hb hRA => ?_)⟩
        exact ⟨fun _ => ⟨rfl, β2, hb, hRA⟩, fun k hk => (by rw [hpend] at hk; cases hk)⟩
      · rename_i k hpend
        obtain ⟨m1, d1, r1⟩ := ih _ _ _ _ _ _ _ _ _ _ h
        refine ⟨fun z => by rw [← n1]; exact s1 (m1 z), fun i hi => d1 i (hd2 i hi), fun z hl n0 A w0 β a w hR => main (m1 z) n0 A w0 β a w _ hR (fun β2 a4 w4 hb hRA => ?_)⟩
        refine ⟨fun hk => (by rw [hpend] at hk; cases hk), fun k' hk => ?_⟩
        have hkk : k' = k := by rw [hpend] at hk; cases hk; rfl
        subst hkk
        have h2 := r1 z (fun l hr => hd2 l (hl l hr)) n0 A w0 β2 a4 w4 hRA
        rw [hrdx hl hb] at h2
        refine wpIn_mono h2 ?_
        rintro e a'' w'' ⟨rfl, β'', hb', hR''⟩
        exact ⟨rfl, β'', fun i hi => (hb' i (hd2 i hi)).trans (hb i hi), hR''⟩
    | _ => cases h

/-- A variable's value. -/
def vload (P : Program) (H : Hp) (ty : TypeId) (x : Value) : Option Value :=
  match veff P H (fun _ => x) { dst := none, op := .load ty (.tmp 0), type := 0, pos := "", after := #[], guard := none } with
  | some (.val v) => some v
  | _ => none
theorem vload_run {A : Nat → Prop} {w0 : World} {β : Nat → Nat} {H : Hp} {w : World} (hR : Rel A w0 β H w) {ty : TypeId} {x v : Value} (h : vload P H ty x = some v) :
    (do loadVar ty (← asAddr (ren β x))).run P w = .ok (ren β v) w := by
  unfold vload at h
  split at h
  · rename_i u hu
    simp only [Option.some.injEq] at h
    subst h
    have hrun := eff_run (ρ' := fun _ => ren β x) hR hu (fun _ _ => rfl)
    simp only [EffRun, execOp, Instr.loadAt] at hrun
    cases x with
    | pointer p =>
      cases p with
      | none => simp [ren, Instr.sureAddr, Sem.run_bind] at hrun
      | some a =>
        simp only [ren, Instr.sureAddr, Sem.run_bind, Sem.run_pure, Result.andThen_ok, asAddr] at hrun ⊢
        cases hl : (loadVar ty (renP β a)).run P w with
        | ok y w1 =>
          rw [hl] at hrun
          simp only [Result.andThen_ok, Sem.run_pure, Result.ok.injEq, Next.value.injEq] at hrun
          obtain ⟨rfl, rfl⟩ := hrun
          rfl
        | halt y w1 => rw [hl] at hrun; cases hrun
    | _ => simp only [veff] at hu; cases hu
  · cases h

def vres1 (P : Program) (t : List Value) (H : Hp) : ResultVar → Option Value
  | .tmp i => some (t.getD i undef)
  | .cell a ty => vload P H ty (t.getD a undef)
def vresL (P : Program) (t : List Value) (H : Hp) : List ResultVar → Option (List Value)
  | [] => some []
  | r :: l =>
    match vres1 P t H r with
    | some v =>
      match vresL P t H l with
      | some vs => some (v :: vs)
      | none => none
    | none => none
/-- What a function hands back. -/
def vresults (P : Program) (fn : Func) (t : List Value) (H : Hp) : Option Value :=
  match vresL P t H fn.results.toList with
  | some [v] => some v
  | some vs => some (.tuple vs.toArray)
  | none => none
theorem getD_ren (β : Nat → Nat) (t : List Value) (i : Nat) : (renL β t).toArray.getD i undef = ren β (t.getD i undef) := by
  simp only [renL_map, List.getD_eq_getElem?_getD, Array.getD_eq_getD_getElem?, List.getElem?_toArray, List.getElem?_map]
  cases t[i]? <;> rfl
def res1 (T : Array Value) (r : ResultVar) : Sem Value :=
  match r with
  | .tmp i => pure (T.getD i undef)
  | .cell a ty => do loadVar ty (← asAddr (T.getD a undef))
theorem vresL_run {A : Nat → Prop} {w0 : World} {β : Nat → Nat} {t : List Value} {H : Hp} {w : World} (hR : Rel A w0 β H w) : ∀ (l : List ResultVar) (vs : List Value), vresL P t H l = some vs →
    (l.mapM (res1 (renL β t).toArray)).run P w = .ok (renL β vs) w
  | [], vs, h => by
    simp only [vresL, Option.some.injEq] at h
    subst h
    rfl
  | r :: l, vs, h => by
    simp only [vresL] at h
    split at h
    · rename_i v hv
      split at h
      · rename_i us hus
        simp only [Option.some.injEq] at h
        subst h
        have ih := vresL_run hR l us hus
        rw [List.mapM_cons, Sem.run_bind]
        have h1 : (res1 (renL β t).toArray r).run P w = .ok (ren β v) w := by
          cases r with
          | tmp i =>
            simp only [vres1, Option.some.injEq] at hv
            subst hv
            simp only [res1, getD_ren]
            rfl
          | cell a ty =>
            simp only [vres1] at hv
            simp only [res1, getD_ren]
            exact vload_run hR hv
        rw [h1, Result.andThen_ok, Sem.run_bind, ih]
        rfl
      · cases h
    · cases h
theorem vresults_run {A : Nat → Prop} {w0 : World} {β : Nat → Nat} {t : List Value} {H : Hp} {w : World} (hR : Rel A w0 β H w) {fn : Func} {v : Value} (h : vresults P fn t H = some v) :
    (results fn (renL β t).toArray).run P w = .ok (ren β v) w := by
  unfold results
  rw [Sem.run_bind, Array.mapM_eq_mapM_toList, Sem.run_map]
  change (((List.mapM (res1 (renL β t).toArray) fn.results.toList).run P w).andThen _).andThen _ = _
  unfold vresults at h
  cases hl : vresL P t H fn.results.toList with
  | none => rw [hl] at h; cases h
  | some vs =>
    rw [hl] at h
    rw [vresL_run (t := t) hR _ _ hl]
    simp only [Result.andThen_ok, Sem.run_pure]
    match vs, h with
    | [], h => simp only [Option.some.injEq] at h; subst h; rfl
    | [u], h => simp only [Option.some.injEq] at h; subst h; rfl
    | u :: u' :: us, h =>
      simp only [Option.some.injEq] at h
      subst h
      have hz : ¬ (renL β (u :: u' :: us)).toArray.size = 1 := by simp [renL]
      rw [dif_neg hz]
      rfl

end

end Go.Proofs.Ytpbhoamojocbpaa
