/- Texts of the seat, joined. -/
import Derived.Test.YtcjjckokaiobcaaDoorZz2
import Derived.RangeFuncLeaves
import Derived.RangeFuncNested
import Derived.RecoverIn
/- A walk by computation: a region, in the order of the text and in whatever order it draws. -/
namespace Go.Proofs.YtcjjckokaiobcaaDoor
open Go Go.RowKit
set_option linter.unusedSimpArgs false
set_option linter.unusedVariables false

section
variable {P : Program} {ops : Array Oper}

theorem defer_does {o : Oper} {t : List Value} {cl : Call} (ho : o.op = .defer cl) (hall : o.op.operands.toList.all opdOK = true) {d : VDef} (hd : deferFn (vev t) cl = some d) (hwant : Wants ops o t) :
    MicDoes P ops o t [] { val := undef, set := [], dfr := some d } := by
  intro ro n Q K A w0 β D t' H' a w i hi hR ht hs hf hv hdr hK hP
  obtain rfl := hdr rfl
  refine wpOp_want hi (hwant a t' β hR.tm ht) ?_
  have hsame : ∀ x ∈ o.op.operands, vev t' x = vev t x := fun x hx => vev_same ht hx
  have hrun : (o.semAt none a.eval).run P w = .ok (.defer (renD β d)) w ∧ wfD (domB H') d = true := by
    rw [Oper.semAt_none, execOp_of (P := P) (ρ' := a.eval) (ρ := vev t) (o := o) (fun cs b e => by rw [ho] at e; cases e) (fun x hx => by rw [hR.eval (operand_dec hall hx), hsame x hx])]
    obtain ⟨dst, op, type, pos, after, guard⟩ := o
    simp only at ho
    subst ho
    unfold deferFn at hd
    cases hc : cl.callee with
    | value g =>
      simp only [hc] at hd
      split at hd
      · rename_i g' first cap hg
        simp only [Option.some.injEq] at hd
        subst hd
        refine ⟨?_, ?_⟩
        · simp only [execOp, Sem.run_bind, resolve, hc, hg, ren, renF, Deferred.ofValue, Sem.run_pure, Result.andThen_ok, renD]
          rw [renA_map, renA_map, renA_map, Array.map_append, Array.map_map]
          rfl
        · have hargs : ∀ x ∈ cl.args, wfV (domB H') (vev t x) = true := fun x hx => by
            have hm : x ∈ (Op.defer cl).operands := by simp [Op.operands, Call.operands, hx]
            rw [← hsame x hm]
            exact vev_wf hR.wt (operand_dec hall hm)
          have hm : g ∈ (Op.defer cl).operands := by simp [Op.operands, Call.operands, hc]
          have hgw : wfV (domB H') (vev t g) = true := by
            rw [← hsame g hm]
            exact vev_wf hR.wt (operand_dec hall hm)
          rw [hg] at hgw
          simp only [wfV, Bool.and_eq_true] at hgw
          simp only [wfD, Bool.and_eq_true]
          refine ⟨hgw.2, ?_⟩
          have h1 := hgw.1.2
          rw [wfA_list, wfL_all] at h1 ⊢
          intro v hv
          rw [Array.toList_append, List.mem_append] at hv
          rcases hv with hv | hv
          · exact h1 v hv
          · simp only [Array.toList_map, List.mem_map] at hv
            obtain ⟨x, hx, rfl⟩ := hv
            exact hargs x (by simpa using hx)
      · cases hd
    | _ => rw [hc] at hd; cases hd
  rw [hrun.1]
  simp only [Oper.uponIn]
  have hl := merge_nil H'
  have hdm : ∀ i, domB (merge [] H') i = domB H' i := fun i => by unfold domB; rw [hl]
  have hp := hR.put (fun _ _ => rfl) (fun i hi => by rw [hdm]; exact hi) (hR.rel.congr (fun _ _ => rfl) hl) o.dst (v := undef) rfl
  refine hK rfl β _ w (fun _ _ => rfl) ⟨?_, ?_, hp.wt, ?_, hp.rel⟩
  · rw [← hp.tm]
    cases o.dst <;> rfl
  · have : ({ a with defers := renD β d :: a.defers }.put o.dst undef).defers = renD β d :: a.defers := by cases o.dst <;> rfl
    rw [this, hR.df]
    rfl
  · unfold wfDs dadd
    rw [List.all_cons, Bool.and_eq_true]
    exact ⟨wfD_mono (fun i hi => by rw [hdm]; exact hi) hrun.2, hp.wd⟩

theorem panic_does {o : Oper} {t : List Value} {x : Operand} (ho : o.op = .panic x) (hall : o.op.operands.toList.all opdOK = true) {ty : TypeId} {v : Value} (hx : vev t x = .iface ty v) (hv0 : wfV noB v = true) (hwant : Wants ops o t) :
    MicDoes P ops o t [] { val := undef, set := [], pan := some [{ v := .iface ty v, recovered := false }] } := by
  intro ro n Q K A w0 β D t' H' a w i hi hR ht hs hf hv hdr hK hP
  refine wpOp_want hi (hwant a t' β hR.tm ht) ?_
  have hsame : ∀ x ∈ o.op.operands, vev t' x = vev t x := fun x hx => vev_same ht hx
  rw [Oper.semAt_eq _ _ _ (fun c e => by rw [ho] at e; cases e), execOp_of (P := P) (ρ' := a.eval) (ρ := vev t) (o := o) (fun cs b e => by rw [ho] at e; cases e) (fun x hx => by rw [hR.eval (operand_dec hall hx), hsame x hx])]
  obtain ⟨dst, op, type, pos, after, guard⟩ := o
  simp only at ho
  subst ho
  have e : (execOp (fun x => ren β (vev t x)) { dst := dst, op := .panic x, type := type, pos := pos, after := after, guard := guard }).run P w = .halt (.panic (.iface ty v)) w := by
    simp only [execOp, Sem.run_bind, hx, ren, ren_plain β hv0, Instr.panic]
    rfl
  rw [e]
  simp only [Oper.uponIn]
  have hl := merge_nil H'
  have hdm : ∀ i, domB (merge [] H') i = domB H' i := fun i => by unfold domB; rw [hl]
  exact hP _ rfl β a w (fun _ _ => rfl) ⟨hR.tm, hR.df, wfL_mono (fun i hi => by rw [hdm]; exact hi) _ hR.wt, wfDs_mono (fun i hi => by rw [hdm]; exact hi) hR.wd, hR.rel.congr (fun _ _ => rfl) hl⟩

theorem ext_does {o : Oper} {t : List Value} {cl : Call} (ho : o.op = .call cl) (hall : o.op.operands.toList.all opdOK = true) {f : FuncId} {args : Array Value} (ha : callFn (vev t) cl = some (.func f, args)) {v : Value} (hx : vext P f args = some (v, false)) (hwant : Wants ops o t) :
    MicDoes P ops o t [] { val := v, set := [] } := by
  intro ro n Q K A w0 β D t' H' a w i hi hR ht hs hf hv hdr hK hP
  refine wpOp_want hi (hwant a t' β hR.tm ht) ?_
  have hsame : ∀ x ∈ o.op.operands, vev t' x = vev t x := fun x hx => vev_same ht hx
  rw [Oper.semAt_eq _ _ _ (fun c e => by rw [ho] at e; cases e), execOp_of (P := P) (ρ' := a.eval) (ρ := vev t) (o := o) (fun cs b e => by rw [ho] at e; cases e) (fun x hx => by rw [hR.eval (operand_dec hall hx), hsame x hx])]
  have e : (execOp (fun x => ren β (vev t x)) o).run P w = .ok (.value v) w := by
    obtain ⟨dst, op, type, pos, after, guard⟩ := o
    simp only at ho
    subst ho
    unfold callFn at ha
    split at ha
    case h_2 => cases ha
    rename_i g hcal
    split at ha
    · rename_i g' first captured hv'
      simp only [Option.some.injEq, Prod.mk.injEq, Fn.func.injEq] at ha
      obtain ⟨rfl, rfl⟩ := ha
      obtain ⟨hr1, hr2, _⟩ := ext_run hx w
      have hr3 := hr2 β
      simp only [renA_map, Array.map_append, Array.map_map] at hr3
      have e2 : (execOp (fun x => ren β (vev t x)) { dst := dst, op := .call cl, type := type, pos := pos, after := after, guard := guard }) = callFunc g' (first ++ cl.args.map (vev t) ++ captured) := by
        simp only [execOp, resolve, hcal, hv', ren, renF, Deferred.ofValue]
        show invoke (.fn (.func g') (renA β captured)) (renA β first ++ cl.args.map fun x => ren β (vev t x)) = _
        simp only [invoke, renA_map]
        rw [← hr3]
        rfl
      rw [e2]
      exact hr1
    · simp only [Option.some.injEq, Prod.mk.injEq] at ha
      obtain ⟨h1, _⟩ := ha
      cases h1
    · cases ha
  rw [e]
  have hl := merge_nil H'
  have hd : ∀ i, domB (merge [] H') i = domB H' i := fun i => by unfold domB; rw [hl]
  have hv2 : ren β v = v := ren_plain β ((ext_run hx w).2.2 noB)
  have := hK rfl β _ w (fun _ _ => rfl) (hR.put (fun _ _ => rfl) (fun i hi => by rw [hd]; exact hi) (hR.rel.congr (fun _ _ => rfl) hl) o.dst hv)
  rw [hv2] at this
  exact this

theorem vgo_does {call : CallF} (hcall : CallOK P call) {o : Oper} {H : Hp} {t : List Value} {c c' : Ctl} {m : Mic} {Hr : Hp} (h : vgo P call H t o c = some (m, Hr, c')) :
    (AllP c'.obl → AllP c.obl) ∧ Sub Hr H ∧ (∀ k, domB m.set k = true → domB Hr k = true ∨ domB H k = false) ∧ (AllP c'.obl → Wants ops o t → MicDoes P ops o t Hr m) := by
  unfold vgo at h
  split at h
  · rename_i hall
    have eff : veffM P H t o c = some (m, Hr, c') → (AllP c'.obl → AllP c.obl) ∧ Sub Hr H ∧ (∀ k, domB m.set k = true → domB Hr k = true ∨ domB H k = false) ∧ (AllP c'.obl → Wants ops o t → MicDoes P ops o t Hr m) := fun h => by
      obtain ⟨h1, h2, h3, h4⟩ := veffM_does (ops := ops) hall h
      exact ⟨fun x => by rw [h1] at x; exact x, h2, h3, fun _ => h4⟩
    split at h
    · rename_i cl ho
      split at h
      · rename_i f args hargs
        split at h
        · rename_i hb
          exact vcallK_does hcall ho hall hargs (fun f' e => by cases e; exact hb) h
        · split at h
          · rename_i v b hx
            have hvm := vdec_mono (b := b) (c := c)
            have hvf := vdec_fst (b := b) (c := c)
            generalize vdec b c = dc at h hvm hvf
            obtain ⟨x, c2⟩ := dc
            cases x
            · simp only [Option.some.injEq, Prod.mk.injEq] at h hvm hvf
              obtain ⟨rfl, rfl, rfl⟩ := h
              refine ⟨hvm, fun _ _ h => (by cases h), fun k hk => (by cases hk), fun z hw => ?_⟩
              have hb := hvf z
              subst hb
              exact ext_does ho hall hargs hx hw
            · cases h
          · exact eff h
      · rename_i l args hargs
        exact vcall_does hcall ho hall hargs (fun f' e => by cases e) h
      · split at h
        · rename_i r hr
          simp only [Option.some.injEq] at h
          subst h
          obtain ⟨h1, h2, h3, h4⟩ := app_does (ops := ops) ho hall hr
          exact ⟨fun x => by rw [h1] at x; exact x, h2, h3, fun _ => h4⟩
        · split at h
          · rename_i r hr
            simp only [Option.some.injEq] at h
            subst h
            exact appq_does (ops := ops) ho hall hr
          · split at h
            · rename_i r hr
              simp only [Option.some.injEq] at h
              subst h
              exact more_does (ops := ops) hall hr
            · split at h
              · rename_i r hr
                simp only [Option.some.injEq] at h
                subst h
                exact map_does (ops := ops) hall hr
              · exact eff h
    · rename_i cl ho
      split at h
      · rename_i d hd
        simp only [Option.some.injEq, Prod.mk.injEq] at h
        obtain ⟨rfl, rfl, rfl⟩ := h
        exact ⟨id, fun _ _ h => (by cases h), fun k hk => (by cases hk), fun _ hw => defer_does ho hall hd hw⟩
      · cases h
    · rename_i x ho
      split at h
      · rename_i ty v hx
        split at h
        · rename_i hv0
          simp only [Option.some.injEq, Prod.mk.injEq] at h
          obtain ⟨rfl, rfl, rfl⟩ := h
          exact ⟨id, fun _ _ h => (by cases h), fun k hk => (by cases hk), fun _ hw => panic_does ho hall hx hv0 hw⟩
        · cases h
      · cases h
    · rename_i ty len parts ho
      obtain ⟨h1, h2, h3, h4⟩ := slice_does (ops := ops) ho hall h
      exact ⟨fun x => by rw [h1] at x; exact x, h2, h3, fun _ => h4⟩
    · split at h
      · rename_i r hr
        simp only [Option.some.injEq] at h
        subst h
        exact ask_does (ops := ops) hall hr
      · split at h
        · rename_i r hr
          simp only [Option.some.injEq] at h
          subst h
          exact more_does (ops := ops) hall hr
        · split at h
          · rename_i r hr
            simp only [Option.some.injEq] at h
            subst h
            exact map_does (ops := ops) hall hr
          · exact eff h
  · cases h

theorem vwant_does {o : Oper} {t t1 : List Value} {c c1 : Ctl} {wd : Bool} (h : vwant ops t o c = some (wd, t1, c1)) :
    (AllP c1.obl → AllP c.obl) ∧ (AllP c1.obl → t1 = t ∧ ∀ (a : Act) (t' : List Value) (β : Num), a.tmps = (renL β t').toArray → (∀ x ∈ o.looksAt ops, t'[x]? = t[x]?) → Region.wanted o (yielded ops a.tmps) = wd) := by
  unfold vwant at h
  split at h
  · rename_i hg
    simp only [Option.some.injEq, Prod.mk.injEq] at h
    obtain ⟨rfl, rfl, rfl⟩ := h
    exact ⟨id, fun _ => ⟨rfl, fun a t' β _ _ => by unfold Region.wanted; rw [hg]⟩⟩
  · rename_i j want hg
    split at h
    · rename_i d hd
      split at h
      · rename_i b hb
        have hvm := vdec_mono (b := b) (c := c)
        have hvf := vdec_fst (b := b) (c := c)
        generalize vdec b c = dc at h hvm hvf
        obtain ⟨x, c2⟩ := dc
        simp only [Option.some.injEq, Prod.mk.injEq] at h hvm hvf
        obtain ⟨rfl, rfl, rfl⟩ := h
        refine ⟨hvm, fun z => ?_⟩
        have hx := hvf z
        subst hx
        have hlt := (List.getElem?_eq_some_iff.1 hb).1
        refine ⟨?_, fun a t' β ht hl => ?_⟩
        · refine List.ext_getElem? (fun k => ?_)
          by_cases hk : d = k
          · subst hk; rw [List.getElem?_set_self hlt, hb]
          · rw [List.getElem?_set_ne hk]
        · have hdm : d ∈ o.looksAt ops := by
            refine List.mem_append_right _ ?_
            rw [hg]
            simp only [hd, Option.toList_some, List.mem_singleton]
          have key : yielded ops a.tmps j = some x := by
            unfold yielded
            simp only [hd, Option.bind_some, ht, renL_map, List.getElem?_toArray, List.getElem?_map, hl d hdm, hb, Option.map_some, ren]
          unfold Region.wanted
          rw [hg]
          simp only [key]
          cases x <;> cases want <;> rfl
      · rename_i u hb
        simp only [Option.some.injEq, Prod.mk.injEq] at h
        obtain ⟨rfl, rfl, rfl⟩ := h
        refine ⟨id, fun _ => ⟨rfl, fun a t' β ht hl => ?_⟩⟩
        have hdm : d ∈ o.looksAt ops := by
          refine List.mem_append_right _ ?_
          rw [hg]
          simp only [hd, Option.toList_some, List.mem_singleton]
        have key : yielded ops a.tmps j = none := by
          unfold yielded
          simp only [hd, Option.bind_some, ht, renL_map, List.getElem?_toArray, List.getElem?_map, hl d hdm, hb, Option.map_some, ren]
        unfold Region.wanted
        rw [hg]
        simp only [key]
        cases want <;> rfl
      · cases h
    · cases h

theorem vmic_does {call : CallF} (hcall : CallOK P call) {o : Oper} {H : Hp} {t : List Value} {wd : Bool} {c c' : Ctl} {m : Mic} {Hr : Hp} (h : vmic P call H t o wd c = some (m, Hr, c')) :
    (AllP c'.obl → AllP c.obl) ∧ Sub Hr H ∧ (∀ k, domB m.set k = true → domB Hr k = true ∨ domB H k = false) ∧
      (AllP c'.obl → (∀ (a : Act) (t' : List Value) (β : Num), a.tmps = (renL β t').toArray → (∀ x ∈ o.looksAt ops, t'[x]? = t[x]?) → Region.wanted o (yielded ops a.tmps) = wd) → MicDoes P ops o t Hr m) := by
  unfold vmic at h
  cases wd with
  | true => exact vgo_does (ops := ops) hcall h
  | false =>
    simp only [Bool.false_eq_true, if_false, Option.some.injEq, Prod.mk.injEq] at h
    obtain ⟨rfl, rfl, rfl⟩ := h
    refine ⟨id, fun _ _ h => (by cases h), fun k hk => (by cases hk), fun x hw => ?_⟩
    intro ro n Q K A w0 β D t' H' a w i hi hR ht hs hf hv hdr hK hP
    unfold wpOpIn
    simp only [hi, hw a t' β hR.tm ht, Bool.false_eq_true, if_false]
    refine ⟨fun f _ => Fw_fn ro f, ?_⟩
    have hl := merge_nil H'
    have hd : ∀ i, domB (merge [] H') i = domB H' i := fun i => by unfold domB; rw [hl]
    exact hK rfl β _ w (fun _ _ => rfl) (hR.put (fun _ _ => rfl) (fun i hi => by rw [hd]; exact hi) (hR.rel.congr (fun _ _ => rfl) hl) o.dst (v := undef) rfl)

/-- One step of a region: its number, the operation, what it makes, the blocks that it looks at. -/
structure Stp where
  i : Nat
  o : Oper
  m : Mic
  r : Hp
/-- Where a region has come to. -/
inductive Out where
  | go (t : List Value) (D : List VDef) (H : Hp) (c : Ctl)
  | pan (ch : List PanicEntry) (t : List Value) (D : List VDef) (H : Hp) (c : Ctl)
def Out.ctl : Out → Ctl
  | .go _ _ _ c => c
  | .pan _ _ _ _ c => c
def Out.heap : Out → Hp
  | .go _ _ H _ => H
  | .pan _ _ _ H _ => H
/-- What it comes to. -/
def Out.post (A : Nat → Prop) (w0 : World) (β : Num) (H0 : Hp) (Q : Exit → Act → World → Prop) : Out → Prop
  | .go t D H _ => ∀ β' a' w', (∀ i, domB H0 i = true → β' i = β i) → RelA A w0 β' D t H a' w' → Q .normal a' w'
  | .pan ch t D H _ => ∀ t2 β' a' w', (D = [] ∨ t2 = t) → (∀ i, domB H0 i = true → β' i = β i) → RelA A w0 β' D t2 H a' w' → Q (.panic ch) a' w'
theorem Out.post_ext {A : Nat → Prop} {w0 : World} {β γ : Num} {H0 H1 : Hp} {Q : Exit → Act → World → Prop} {o : Out} (h : o.post A w0 β H0 Q) (hd : ∀ i, domB H0 i = true → domB H1 i = true ∧ γ i = β i) : o.post A w0 γ H1 Q := by
  cases o with
  | go t D H c => exact fun β' a' w' hx hR => h β' a' w' (fun i hi => (hx i (hd i hi).1).trans (hd i hi).2) hR
  | pan ch t D H c => exact fun t2 β' a' w' hD hx hR => h t2 β' a' w' hD (fun i hi => (hx i (hd i hi).1).trans (hd i hi).2) hR

def vsteps (P : Program) (call : CallF) (ops : Array Oper) : List Nat → List Value → List VDef → Hp → Ctl → Option (List Stp × Out)
  | [], t, D, H, c => some ([], .go t D H c)
  | i :: r, t, D, H, c =>
    match ops[i]? with
    | none => none
    | some o =>
      match vwant ops t o c with
      | none => none
      | some (wd, t1, c1) =>
        match vmic P call H t1 o wd c1 with
        | some (m, Hr, c') =>
          if wfV (domB (merge m.set H)) m.val then
            match m.pan with
            | some ch => some ([⟨i, o, m, Hr⟩], .pan ch t1 D (merge m.set H) c')
            | none =>
              match vsteps P call ops r (vput t1 o.dst m.val) (dadd m.dfr D) (merge m.set H) c' with
              | some (l, x) => some (⟨i, o, m, Hr⟩ :: l, x)
              | none => none
          else none
        | none => none

/-- The operations in the order of the text. -/
theorem vsteps_text {call : CallF} (hcall : CallOK P call) {ro : Option Nat} {n : Nat} {Q : Exit → Act → World → Prop} : ∀ (is : List Nat) (t : List Value) (D : List VDef) (H : Hp) (c : Ctl) (l : List Stp) (x : Out), vsteps P call ops is t D H c = some (l, x) →
    (AllP x.ctl.obl → AllP c.obl) ∧ (∀ i, domB H i = true → domB x.heap i = true) ∧ (AllP x.ctl.obl → (ro = none ∨ ∀ e ∈ l, e.m.dfr.isSome = false) → ∀ (A : Nat → Prop) (w0 : World) (β : Num) (a : Act) (w : World), RelA A w0 β D t H a w →
      x.post A w0 β H Q → wpOpsIn (Fw ro) n P ops Q is a w) := by
  intro is
  induction is with
  | nil =>
    intro t D H c l x h
    simp only [vsteps, Option.some.injEq, Prod.mk.injEq] at h
    obtain ⟨rfl, rfl⟩ := h
    exact ⟨id, fun _ h => h, fun _ _ A w0 β a w hR hQ => hQ β a w (fun _ _ => rfl) hR⟩
  | cons i r ih =>
    intro t D H c l x h
    simp only [vsteps] at h
    split at h
    · cases h
    · rename_i o ho
      split at h
      · cases h
      · rename_i wd t0 c0 hw
        split at h
        · rename_i m Hr c1 hm
          obtain ⟨w1, w2⟩ := vwant_does hw
          obtain ⟨d1, d2, d3, d4⟩ := vmic_does (ops := ops) hcall hm
          split at h
          · rename_i hv
            split at h
            · rename_i ch hp
              simp only [Option.some.injEq, Prod.mk.injEq] at h
              obtain ⟨rfl, rfl⟩ := h
              refine ⟨fun z => w1 (d1 z), fun i hi => by simp only [Out.heap]; rw [domB_merge, hi, Bool.or_true], fun z hro A w0 β a w hR hQ => ?_⟩
              obtain ⟨rfl, hwant⟩ := w2 (d1 z)
              rw [wpOpsIn_cons]
              exact d4 z hwant ro n Q _ A w0 β D t0 H a w i ho hR (fun _ _ => rfl) d2 d3 hv (fun hd => hro.elim id (fun h => by rw [h _ List.mem_cons_self] at hd; cases hd))
                (fun hn => by rw [hp] at hn; cases hn) (fun ch' hch' β' a' w' hb hR' => by rw [hp] at hch'; cases hch'; exact hQ t0 β' a' w' (.inr rfl) hb hR')
            · rename_i hp
              split at h
              · rename_i l1 x1 hr
                simp only [Option.some.injEq, Prod.mk.injEq] at h
                obtain ⟨rfl, rfl⟩ := h
                obtain ⟨k1, k2, k3⟩ := ih _ _ _ _ _ _ hr
                refine ⟨fun z => w1 (d1 (k1 z)), fun i hi => k2 i (by rw [domB_merge, hi, Bool.or_true]), fun z hro A w0 β a w hR hQ => ?_⟩
                obtain ⟨rfl, hwant⟩ := w2 (d1 (k1 z))
                rw [wpOpsIn_cons]
                refine d4 (k1 z) hwant ro n Q _ A w0 β D t0 H a w i ho hR (fun _ _ => rfl) d2 d3 hv (fun hd => hro.elim id (fun h => by rw [h _ List.mem_cons_self] at hd; cases hd))
                  (fun _ β' a' w' hb hR' => ?_) (fun ch' hch' => by rw [hp] at hch'; cases hch')
                exact k3 z (hro.imp id (fun h e he => h e (List.mem_cons_of_mem _ he))) A w0 β' a' w' hR' (Out.post_ext hQ (fun i hi => ⟨by rw [domB_merge, hi, Bool.or_true], hb i hi⟩))
              · cases h
          · cases h
        · cases h
end

end Go.Proofs.YtcjjckokaiobcaaDoor

/- A walk by computation: a region that draws its order. -/
namespace Go.Proofs.YtcjjckokaiobcaaDoor
open Go Go.RowKit
set_option linter.unusedSimpArgs false
set_option linter.unusedVariables false

/-- What those of L make, in the order of the text. -/
def foldT : List Stp → (Nat → Bool) → List Value → List Value
  | [], _, t => t
  | e :: r, L, t => foldT r L (if L e.i then vput t e.o.dst e.m.val else t)
def foldH : List Stp → (Nat → Bool) → Hp → Hp
  | [], _, H => H
  | e :: r, L, H => foldH r L (if L e.i then merge e.m.set H else H)

theorem vput_length (t : List Value) (d : Option Tmp) (v : Value) : (vput t d v).length = t.length := by
  cases d with
  | none => rfl
  | some d => simp [vput]
theorem vput_get_ne {t : List Value} {d : Option Tmp} {v : Value} {x : Nat} (h : d ≠ some x) : (vput t d v)[x]? = t[x]? := by
  cases d with
  | none => rfl
  | some d => exact List.getElem?_set_ne (fun e => h (by rw [e]))
theorem vput_same {t t' : List Value} {d : Option Tmp} {v : Value} {x : Nat} (hl : t.length = t'.length) (h : t[x]? = t'[x]?) : (vput t d v)[x]? = (vput t' d v)[x]? := by
  cases d with
  | none => exact h
  | some d =>
    simp only [vput, List.getElem?_set, hl, h]
theorem foldT_length : ∀ (l : List Stp) (L : Nat → Bool) (t : List Value), (foldT l L t).length = t.length
  | [], _, _ => rfl
  | e :: r, L, t => by
    rw [foldT, foldT_length r]
    split
    · exact vput_length _ _ _
    · rfl
theorem foldT_get (x : Nat) (L L' : Nat → Bool) : ∀ (l : List Stp) (t t' : List Value), t.length = t'.length → t[x]? = t'[x]? → (∀ e ∈ l, L e.i ≠ L' e.i → e.o.dst ≠ some x) → (foldT l L t)[x]? = (foldT l L' t')[x]?
  | [], _, _, _, h, _ => h
  | e :: r, t, t', hl, h, hd => by
    rw [foldT, foldT]
    have hr : ∀ e ∈ r, L e.i ≠ L' e.i → e.o.dst ≠ some x := fun e he => hd e (List.mem_cons_of_mem _ he)
    by_cases h1 : L e.i = true <;> by_cases h2 : L' e.i = true
    · rw [if_pos h1, if_pos h2]
      exact foldT_get x L L' r _ _ (by rw [vput_length, vput_length, hl]) (vput_same hl h) hr
    · rw [if_pos h1, if_neg h2]
      refine foldT_get x L L' r _ _ (by rw [vput_length, hl]) ?_ hr
      rw [vput_get_ne (hd e List.mem_cons_self (by rw [h1]; exact fun e => h2 e.symm)), h]
    · rw [if_neg h1, if_pos h2]
      refine foldT_get x L L' r _ _ (by rw [vput_length, hl]) ?_ hr
      rw [vput_get_ne (hd e List.mem_cons_self (by rw [h2]; exact h1)), h]
    · rw [if_neg h1, if_neg h2]
      exact foldT_get x L L' r _ _ hl h hr
theorem foldH_look (x : Nat) (L L' : Nat → Bool) : ∀ (l : List Stp) (H H' : Hp), look H x = look H' x → (∀ e ∈ l, L e.i ≠ L' e.i → domB e.m.set x = false) → look (foldH l L H) x = look (foldH l L' H') x
  | [], _, _, h, _ => h
  | e :: r, H, H', h, hd => by
    rw [foldH, foldH]
    have hr : ∀ e ∈ r, L e.i ≠ L' e.i → domB e.m.set x = false := fun e he => hd e (List.mem_cons_of_mem _ he)
    have hno : domB e.m.set x = false → ∀ G, look (merge e.m.set G) x = look G x := fun hx G => by
      rw [look_merge]
      have : look e.m.set x = none := by unfold domB at hx; simpa using hx
      rw [this]
    by_cases h1 : L e.i = true <;> by_cases h2 : L' e.i = true
    · rw [if_pos h1, if_pos h2]
      exact foldH_look x L L' r _ _ (by rw [look_merge, look_merge, h]) hr
    · rw [if_pos h1, if_neg h2]
      exact foldH_look x L L' r _ _ (by rw [hno (hd e List.mem_cons_self (by rw [h1]; exact fun e => h2 e.symm)), h]) hr
    · rw [if_neg h1, if_pos h2]
      exact foldH_look x L L' r _ _ (by rw [hno (hd e List.mem_cons_self (by rw [h2]; exact h1)), h]) hr
    · rw [if_neg h1, if_neg h2]
      exact foldH_look x L L' r _ _ h hr
theorem foldH_dom (x : Nat) (L : Nat → Bool) : ∀ (l : List Stp) (H : Hp), domB H x = true → domB (foldH l L H) x = true
  | [], _, h => h
  | e :: r, H, h => by
    rw [foldH]
    refine foldH_dom x L r _ ?_
    split
    · rw [domB_merge, h, Bool.or_true]
    · exact h
theorem foldH_dom_of (x : Nat) (L : Nat → Bool) (e : Stp) (hL : L e.i = true) (hx : domB e.m.set x = true) : ∀ (l : List Stp) (H : Hp), e ∈ l → domB (foldH l L H) x = true := by
  intro l
  induction l with
  | nil => intro H he; cases he
  | cons e0 r ih =>
    intro H he
    rw [foldH]
    rcases List.mem_cons.1 he with rfl | he
    · rw [if_pos hL]
      exact foldH_dom x L r _ (by rw [domB_merge, hx]; rfl)
    · exact ih _ he

def addL (L : Nat → Bool) (i : Nat) (k : Nat) : Bool := k == i || L k
theorem vput_comm (t : List Value) {d d' : Option Tmp} (v v' : Value) (h : ∀ x, d = some x → d' ≠ some x) : vput (vput t d v) d' v' = vput (vput t d' v') d v := by
  cases d with
  | none => rfl
  | some d =>
    cases d' with
    | none => rfl
    | some d' => exact List.set_comm _ _ (fun e => h d rfl (by rw [e]))
theorem foldT_put (L : Nat → Bool) (d : Option Tmp) (v : Value) : ∀ (l : List Stp) (t : List Value), (∀ e ∈ l, L e.i = true → ∀ x, d = some x → e.o.dst ≠ some x) → foldT l L (vput t d v) = vput (foldT l L t) d v
  | [], _, _ => rfl
  | e :: r, t, h => by
    rw [foldT, foldT, ← foldT_put L d v r _ (fun e he => h e (List.mem_cons_of_mem _ he))]
    by_cases h1 : L e.i = true
    · rw [if_pos h1, if_pos h1, vput_comm _ _ _ (h e List.mem_cons_self h1)]
    · rw [if_neg h1, if_neg h1]
theorem foldT_congr (L L' : Nat → Bool) : ∀ (l : List Stp) (t : List Value), (∀ e ∈ l, L e.i = L' e.i) → foldT l L t = foldT l L' t
  | [], _, _ => rfl
  | e :: r, t, h => by
    rw [foldT, foldT, h e List.mem_cons_self, foldT_congr L L' r _ (fun e he => h e (List.mem_cons_of_mem _ he))]
theorem foldT_add (L : Nat → Bool) (s : Stp) (hL : L s.i = false) : ∀ (l : List Stp) (t : List Value), l.Pairwise (fun a b => a.i ≠ b.i) → s ∈ l → (∀ e ∈ l, s.i < e.i → L e.i = true → ∀ x, s.o.dst = some x → e.o.dst ≠ some x) →
    (l.Pairwise (fun a b => a.i < b.i)) → foldT l (addL L s.i) t = vput (foldT l L t) s.o.dst s.m.val
  | e :: r, t, hp, hs, hd, hlt => by
    rw [foldT, foldT]
    rcases List.mem_cons.1 hs with rfl | hs'
    · have h1 : addL L s.i s.i = true := by simp [addL]
      rw [if_pos h1, if_neg (by rw [hL]; decide)]
      have hne : ∀ e ∈ r, s.i < e.i := (List.pairwise_cons.1 hlt).1
      rw [foldT_congr (addL L s.i) L r _ (fun e he => by
        have := hne e he
        simp only [addL]
        rw [beq_eq_false_iff_ne.2 (by omega), Bool.false_or])]
      exact foldT_put L _ _ r t (fun e he hl => hd e (List.mem_cons_of_mem _ he) (hne e he) hl)
    · have hne : e.i ≠ s.i := (List.pairwise_cons.1 hp).1 s hs'
      have h1 : addL L s.i e.i = L e.i := by simp only [addL]; rw [beq_eq_false_iff_ne.2 hne, Bool.false_or]
      rw [h1]
      exact foldT_add L s hL r _ (List.pairwise_cons.1 hp).2 hs' (fun e he => hd e (List.mem_cons_of_mem _ he)) (List.pairwise_cons.1 hlt).2
theorem foldH_add (x : Nat) (L : Nat → Bool) (s : Stp) (hL : L s.i = false) : ∀ (l : List Stp) (H : Hp), l.Pairwise (fun a b => a.i < b.i) → s ∈ l → (∀ e ∈ l, s.i < e.i → L e.i = true → domB s.m.set x = true → domB e.m.set x = false) →
    look (foldH l (addL L s.i) H) x = look (merge s.m.set (foldH l L H)) x
  | e :: r, H, hlt, hs, hd => by
    rw [foldH, foldH]
    rcases List.mem_cons.1 hs with rfl | hs'
    · have h1 : addL L s.i s.i = true := by simp [addL]
      rw [if_pos h1, if_neg (by rw [hL]; decide)]
      have hne : ∀ e ∈ r, s.i < e.i := (List.pairwise_cons.1 hlt).1
      have hL' : ∀ e ∈ r, addL L s.i e.i = L e.i := fun e he => by
        have := hne e he
        simp only [addL]
        rw [beq_eq_false_iff_ne.2 (by omega), Bool.false_or]
      cases hx : domB s.m.set x with
      | false =>
        have hn : look s.m.set x = none := by unfold domB at hx; simpa using hx
        rw [look_merge, hn]
        refine foldH_look x _ _ r _ _ (by rw [look_merge, hn]) (fun e he h => absurd (hL' e he) h)
      | true =>
        have key : ∀ (r : List Stp) (G : Hp), (∀ e ∈ r, addL L s.i e.i = true → domB e.m.set x = false) → look (foldH r (addL L s.i) G) x = look G x := by
          intro r
          induction r with
          | nil => intro G _; rfl
          | cons e r ih =>
            intro G h
            rw [foldH, ih _ (fun e he => h e (List.mem_cons_of_mem _ he))]
            split
            · rename_i h1
              have := h e List.mem_cons_self h1
              rw [look_merge]
              have hn : look e.m.set x = none := by unfold domB at this; simpa using this
              rw [hn]
            · rfl
        rw [key r _ (fun e he h => hd e (List.mem_cons_of_mem _ he) (hne e he) (by rw [hL' e he] at h; exact h) hx)]
        obtain ⟨o, ho⟩ := domB_iff.1 hx
        rw [look_merge, look_merge, ho]
    · have hne : e.i < s.i := (List.pairwise_cons.1 hlt).1 s hs'
      have h1 : addL L s.i e.i = L e.i := by simp only [addL]; rw [beq_eq_false_iff_ne.2 (by omega), Bool.false_or]
      rw [h1]
      exact foldH_add x L s hL r _ (List.pairwise_cons.1 hlt).2 hs' (fun e he => hd e (List.mem_cons_of_mem _ he))

section
variable {P : Program} {ops : Array Oper}
/-- The steps of a region: each from where the text has come to. -/
theorem vsteps_spec {call : CallF} (hcall : CallOK P call) : ∀ (is : List Nat) (t : List Value) (D : List VDef) (H : Hp) (c : Ctl) (l : List Stp) (t' : List Value) (D' : List VDef) (H' : Hp) (c' : Ctl), is.Pairwise (· < ·) → vsteps P call ops is t D H c = some (l, .go t' D' H' c') →
    (AllP c'.obl → AllP c.obl) ∧ l.map (·.i) = is ∧ ((∀ e ∈ l, e.m.dfr.isSome = false) → D' = D) ∧ (∀ e ∈ l, e.m.pan = none) ∧ (AllP c'.obl → t' = foldT l (fun _ => true) t) ∧ H' = foldH l (fun _ => true) H ∧
    (∀ e ∈ l, ops[e.i]? = some e.o ∧ (AllP c'.obl → MicDoes P ops e.o (foldT l (fun k => decide (k < e.i)) t) e.r e.m) ∧ Sub e.r (foldH l (fun k => decide (k < e.i)) H) ∧
      (∀ k, domB e.m.set k = true → domB e.r k = true ∨ domB (foldH l (fun k => decide (k < e.i)) H) k = false)) := by
  intro is
  induction is with
  | nil =>
    intro t D H c l t' D' H' c' _ h
    simp only [vsteps, Option.some.injEq, Prod.mk.injEq, Out.go.injEq] at h
    obtain ⟨rfl, rfl, rfl, rfl, rfl⟩ := h
    exact ⟨id, rfl, fun _ => rfl, fun _ h => (by cases h), fun _ => rfl, rfl, fun _ h => (by cases h)⟩
  | cons i r ih =>
    intro t D H c l t' D' H' c' hp h
    have hp2 := List.pairwise_cons.1 hp
    simp only [vsteps] at h
    split at h
    · cases h
    · rename_i o ho
      split at h
      · cases h
      · rename_i wd t0 c0 hw
        split at h
        · rename_i m Hr c1 hm
          split at h
          · rename_i hv
            split at h
            · simp only [Option.some.injEq, Prod.mk.injEq] at h
              obtain ⟨_, h⟩ := h
              cases h
            rename_i hpn
            split at h
            · rename_i l1 x1 hr
              simp only [Option.some.injEq, Prod.mk.injEq] at h
              obtain ⟨rfl, rfl⟩ := h
              obtain ⟨k1, k2, kd, kp, k3, k4, k5⟩ := ih _ _ _ _ _ _ _ _ _ hp2.2 hr
              obtain ⟨w1, w2⟩ := vwant_does hw
              obtain ⟨d1, d2, d3, d4⟩ := vmic_does (ops := ops) hcall hm
              have hgt : ∀ e ∈ l1, i < e.i := fun e he => hp2.1 e.i (by rw [← k2]; exact List.mem_map_of_mem he)
              have z1 : ∀ (l : List Stp) (t : List Value), (∀ e ∈ l, i < e.i) → foldT l (fun k => decide (k < i)) t = t := by
                intro l
                induction l with
                | nil => intro t _; rfl
                | cons e r ih =>
                  intro t h
                  have := h e List.mem_cons_self
                  rw [foldT, if_neg (by simp; omega)]
                  exact ih _ (fun e he => h e (List.mem_cons_of_mem _ he))
              have z2 : ∀ (l : List Stp) (t : Hp), (∀ e ∈ l, i < e.i) → foldH l (fun k => decide (k < i)) t = t := by
                intro l
                induction l with
                | nil => intro t _; rfl
                | cons e r ih =>
                  intro t h
                  have := h e List.mem_cons_self
                  rw [foldH, if_neg (by simp; omega)]
                  exact ih _ (fun e he => h e (List.mem_cons_of_mem _ he))
              refine ⟨fun x => w1 (d1 (k1 x)), by rw [List.map_cons, k2], fun hx => ?_, fun e he => ?_, fun x => ?_, by rw [foldH]; exact k4, fun e he => ?_⟩
              · have h0 := hx _ List.mem_cons_self
                rw [kd (fun e he => hx e (List.mem_cons_of_mem _ he))]
                cases hm' : m.dfr with
                | none => rfl
                | some d => rw [hm'] at h0; cases h0
              · rcases List.mem_cons.1 he with rfl | he
                · exact hpn
                · exact kp e he
              · have ht := (w2 (d1 (k1 x))).1
                rw [k3 x, ht, foldT]
                rfl
              rcases List.mem_cons.1 he with rfl | he
              · simp only [foldT, foldH]
                rw [if_neg (by simp), if_neg (by simp), z1 l1 t hgt, z2 l1 H hgt]
                refine ⟨ho, fun x => ?_, d2, d3⟩
                obtain ⟨ht, hwant⟩ := w2 (d1 (k1 x))
                rw [ht] at d4
                exact d4 (k1 x) hwant
              · have hlt := hgt e he
                simp only [foldT, foldH]
                rw [if_pos (by simpa using hlt), if_pos (by simpa using hlt)]
                obtain ⟨e1, e2, e3, e4⟩ := k5 e he
                refine ⟨e1, fun x => ?_, e3, e4⟩
                have ht := (w2 (d1 (k1 x))).1
                rw [← ht]
                exact e2 x
            · cases h
          · cases h
        · cases h

/-- .. and those up to a panic. -/
theorem vsteps_specP {call : CallF} (hcall : CallOK P call) : ∀ (is : List Nat) (t : List Value) (D : List VDef) (H : Hp) (c : Ctl) (l : List Stp) (ch : List PanicEntry) (t' : List Value) (D' : List VDef) (H' : Hp) (c' : Ctl), is.Pairwise (· < ·) → vsteps P call ops is t D H c = some (l, .pan ch t' D' H' c') →
    (AllP c'.obl → AllP c.obl) ∧ (∃ rest, is = l.map (·.i) ++ rest) ∧ ((∀ e ∈ l, e.m.dfr.isSome = false) → D' = D) ∧ (∃ l0 p, l = l0 ++ [p] ∧ p.m.pan = some ch ∧ ∀ e ∈ l0, e.m.pan = none) ∧ H' = foldH l (fun _ => true) H ∧
    (∀ e ∈ l, ops[e.i]? = some e.o ∧ (AllP c'.obl → MicDoes P ops e.o (foldT l (fun k => decide (k < e.i)) t) e.r e.m) ∧ Sub e.r (foldH l (fun k => decide (k < e.i)) H) ∧
      (∀ k, domB e.m.set k = true → domB e.r k = true ∨ domB (foldH l (fun k => decide (k < e.i)) H) k = false)) := by
  intro is
  induction is with
  | nil =>
    intro t D H c l ch t' D' H' c' _ h
    simp only [vsteps, Option.some.injEq, Prod.mk.injEq] at h
    obtain ⟨_, h⟩ := h
    cases h
  | cons i r ih =>
    intro t D H c l ch t' D' H' c' hp h
    have hp2 := List.pairwise_cons.1 hp
    simp only [vsteps] at h
    split at h
    · cases h
    · rename_i o ho
      split at h
      · cases h
      · rename_i wd t0 c0 hw
        split at h
        · rename_i m Hr c1 hm
          obtain ⟨w1, w2⟩ := vwant_does hw
          obtain ⟨d1, d2, d3, d4⟩ := vmic_does (ops := ops) hcall hm
          split at h
          · rename_i hv
            split at h
            · rename_i ch1 hpn
              simp only [Option.some.injEq, Prod.mk.injEq, Out.pan.injEq] at h
              obtain ⟨rfl, rfl, rfl, rfl, rfl, rfl⟩ := h
              refine ⟨fun z => w1 (d1 z), ⟨r, rfl⟩, fun _ => rfl, ⟨[], _, rfl, hpn, fun _ h => (by cases h)⟩, rfl, fun e he => ?_⟩
              rw [List.mem_singleton] at he
              subst he
              simp only [foldT, foldH]
              rw [if_neg (by simp), if_neg (by simp)]
              refine ⟨ho, fun x => ?_, d2, d3⟩
              obtain ⟨ht, hwant⟩ := w2 (d1 x)
              rw [ht] at d4
              exact d4 x hwant
            rename_i hpn
            split at h
            · rename_i l1 x1 hr
              simp only [Option.some.injEq, Prod.mk.injEq] at h
              obtain ⟨rfl, rfl⟩ := h
              obtain ⟨k1, ⟨rest, k2⟩, kd, ⟨l0, p, hl0, hpp, kp⟩, k4, k5⟩ := ih _ _ _ _ _ _ _ _ _ _ hp2.2 hr
              have hgt : ∀ e ∈ l1, i < e.i := fun e he => hp2.1 e.i (by rw [k2]; exact List.mem_append_left _ (List.mem_map_of_mem he))
              have z1 : ∀ (l : List Stp) (t : List Value), (∀ e ∈ l, i < e.i) → foldT l (fun k => decide (k < i)) t = t := by
                intro l
                induction l with
                | nil => intro t _; rfl
                | cons e r ih =>
                  intro t h
                  have := h e List.mem_cons_self
                  rw [foldT, if_neg (by simp; omega)]
                  exact ih _ (fun e he => h e (List.mem_cons_of_mem _ he))
              have z2 : ∀ (l : List Stp) (t : Hp), (∀ e ∈ l, i < e.i) → foldH l (fun k => decide (k < i)) t = t := by
                intro l
                induction l with
                | nil => intro t _; rfl
                | cons e r ih =>
                  intro t h
                  have := h e List.mem_cons_self
                  rw [foldH, if_neg (by simp; omega)]
                  exact ih _ (fun e he => h e (List.mem_cons_of_mem _ he))
              refine ⟨fun x => w1 (d1 (k1 x)), ⟨rest, by rw [List.map_cons, k2]; rfl⟩, fun hx => ?_, ⟨⟨i, o, m, Hr⟩ :: l0, p, by rw [hl0]; rfl, hpp, fun e he => ?_⟩, by rw [foldH]; exact k4, fun e he => ?_⟩
              · have h0 := hx _ List.mem_cons_self
                rw [kd (fun e he => hx e (List.mem_cons_of_mem _ he))]
                cases hm' : m.dfr with
                | none => rfl
                | some d => rw [hm'] at h0; cases h0
              · rcases List.mem_cons.1 he with rfl | he
                · exact hpn
                · exact kp e he
              rcases List.mem_cons.1 he with rfl | he
              · simp only [foldT, foldH]
                rw [if_neg (by simp), if_neg (by simp), z1 l1 t hgt, z2 l1 H hgt]
                refine ⟨ho, fun x => ?_, d2, d3⟩
                obtain ⟨ht, hwant⟩ := w2 (d1 (k1 x))
                rw [ht] at d4
                exact d4 (k1 x) hwant
              · have hlt := hgt e he
                simp only [foldT, foldH]
                rw [if_pos (by simpa using hlt), if_pos (by simpa using hlt)]
                obtain ⟨e1, e2, e3, e4⟩ := k5 e he
                refine ⟨e1, fun x => ?_, e3, e4⟩
                have ht := (w2 (d1 (k1 x))).1
                rw [← ht]
                exact e2 x
            · cases h
          · cases h
        · cases h

/-- Is number k ahead of number i, whatever the order? -/
def beforeB (ops : Array Oper) : Nat → Nat → Nat → Bool
  | 0, _, _ => false
  | n + 1, k, i =>
    match ops[i]? with
    | some o => o.after.toList.any fun e => Region.binds .any e && (e.on == k || (Nat.blt k e.on && beforeB ops n k e.on))
    | none => false
def Down (ops : Array Oper) (L : Nat → Bool) : Prop := ∀ (k : Nat) (o : Oper), L k = true → ops[k]? = some o → ∀ e ∈ o.after, Region.binds .any e = true → L e.on = true
theorem beforeB_down {L : Nat → Bool} (hD : Down ops L) : ∀ (n k i : Nat) (o : Oper), ops[i]? = some o → (∀ e ∈ o.after, Region.binds .any e = true → L e.on = true) → beforeB ops n k i = true → L k = true
  | 0, _, _, _, _, _, h => by cases h
  | n + 1, k, i, o, ho, hall, h => by
    simp only [beforeB, ho, List.any_eq_true, Bool.and_eq_true, Bool.or_eq_true, beq_iff_eq] at h
    obtain ⟨e, he, hb, h⟩ := h
    have hL := hall e (by simpa using he) hb
    rcases h with h | ⟨-, h⟩
    · rw [← h]; exact hL
    · cases ho2 : ops[e.on]? with
      | none =>
        cases n with
        | zero => cases h
        | succ n => simp only [beforeB, ho2] at h; cases h
      | some o2 => exact beforeB_down hD n k e.on o2 ho2 (hD e.on o2 hL ho2) h

def hits (a b : List Nat) : Bool := a.any fun x => b.contains x
def keys (H : Hp) : List Nat := H.map (·.1)
theorem keys_dom {H : Hp} {k : Nat} (h : domB H k = true) : k ∈ keys H := by
  induction H with
  | nil => cases h
  | cons e r ih =>
    obtain ⟨j, x⟩ := e
    unfold domB at h
    simp only [look] at h
    by_cases hk : j = k
    · exact List.mem_cons.2 (.inl hk.symm)
    · rw [if_neg hk] at h; exact List.mem_cons_of_mem _ (ih h)
/-- Does e look at, or make, what s makes? -/
def confl (ops : Array Oper) (e s : Stp) : Bool :=
  (match s.o.dst with | some d => (e.o.looksAt ops).contains d || e.o.dst == some d | none => false) || hits (keys s.m.set) (keys e.r ++ keys e.m.set)
def drawOK (ops : Array Oper) (H : Hp) (l : List Stp) : Bool :=
  (l.all fun e => e.m.dfr.isNone) && (l.all fun e => e.o.after.toList.all fun x => !Region.binds .any x || decide (x.on < e.i)) &&
  (l.all fun e => l.all fun s => e.i == s.i || !confl ops e s || (if s.i < e.i then beforeB ops 40 s.i e.i else beforeB ops 40 e.i s.i)) &&
  (l.all fun e => wfV (fun x => domB e.m.set x || domB H x || l.any fun s => domB s.m.set x && beforeB ops 40 s.i e.i) e.m.val)

theorem hits_of {a b : List Nat} {x : Nat} (ha : x ∈ a) (hb : x ∈ b) : hits a b = true :=
  List.any_eq_true.2 ⟨x, ha, by simpa using hb⟩

theorem wpAny_inv {F : Fence} {n : Nat} {Q : Exit → Act → World → Prop} {md : Region.Mode} (Inv : (Nat → Bool) → Act → World → Prop)
    (hstep : ∀ (L : Nat → Bool) (a : Act) (w : World) (i : Nat) (o : Oper), Down ops L → Inv L a w → L i = false → ops[i]? = some o → (∀ e ∈ o.after, Region.binds md e = true → L e.on = true) → wpOpIn F n P ops Q i (Inv (addL L i)) a w)
    (hdown : ∀ (k : Nat) (o : Oper), ops[k]? = some o → ∀ e ∈ o.after, Region.binds .any e = true → Region.binds md e = true)
    (hlow : ∀ (k : Nat) (o : Oper), ops[k]? = some o → ∀ e ∈ o.after, Region.binds md e = true → e.on < k)
    (hend : ∀ (L : Nat → Bool) (a : Act) (w : World), Inv L a w → (∀ i, i < ops.size → L i = true) → Q .normal a w) :
    ∀ (fuel : Nat) (listed : Array Bool) (L : Nat → Bool) (a : Act) (w : World), listed.size = ops.size → (∀ i, L i = listed.getD i false) → Down ops L → Inv L a w → ((List.range ops.size).filter fun i => !L i).length ≤ fuel → wpAnyIn F n P md ops Q fuel listed a w := by
  have nothing : ∀ (listed : Array Bool) (L : Nat → Bool), listed.size = ops.size → (∀ i, L i = listed.getD i false) → Region.ready md ops listed = [] → ∀ i, i < ops.size → L i = true := by
    intro listed L hsz hL hr i
    induction i using Nat.strongRecOn with
    | _ i ih =>
      intro hi
      cases hLi : L i with
      | true => rfl
      | false =>
        have ho : ops[i]? = some ops[i] := Array.getElem?_eq_getElem hi
        have hmem : i ∈ Region.ready md ops listed := by
          refine mem_ready.2 ⟨?_, ops[i], ho, fun e he hb => ?_⟩
          · rw [hL i] at hLi
            have : i < listed.size := by omega
            simp [this] at hLi ⊢
            exact hLi
          · have hlt := hlow i _ ho e he hb
            rw [← hL]
            exact ih e.on hlt (by omega)
        rw [hr] at hmem
        cases hmem
  intro fuel
  induction fuel with
  | zero =>
    intro listed L a w hsz hL hD hI hlen
    have hall : ∀ i, i < ops.size → L i = true := by
      intro i hi
      cases hLi : L i with
      | true => rfl
      | false =>
        have : i ∈ (List.range ops.size).filter fun i => !L i := List.mem_filter.2 ⟨List.mem_range.2 hi, by rw [hLi]; rfl⟩
        have := List.length_pos_of_mem this
        omega
    have hr : Region.ready md ops listed = [] := by
      refine List.eq_nil_iff_forall_not_mem.2 (fun i hi => ?_)
      obtain ⟨h1, o, ho, _⟩ := mem_ready.1 hi
      have hi' := (Array.getElem?_eq_some_iff.1 ho).1
      have h2 := hall i hi'
      rw [hL i] at h2
      have : i < listed.size := by omega
      simp [this] at h1 h2
      rw [h1] at h2
      cases h2
    exact ⟨hr, hend L a w hI hall⟩
  | succ fuel ih =>
    intro listed L a w hsz hL hD hI hlen
    refine ⟨fun hr => hend L a w hI (nothing listed L hsz hL hr), fun i hi => ?_⟩
    obtain ⟨h1, o, ho, h2⟩ := mem_ready.1 hi
    have hi' := (Array.getElem?_eq_some_iff.1 ho).1
    have hLi : L i = false := by
      rw [hL i]
      have : i < listed.size := by omega
      simp [this] at h1 ⊢
      exact h1
    have h2' : ∀ e ∈ o.after, Region.binds md e = true → L e.on = true := fun e he hb => by rw [hL]; exact h2 e he hb
    refine wpOpIn_mono (fun a' w' hI' => ?_) (hstep L a w i o hD hI hLi ho h2')
    refine ih (listed.setIfInBounds i true) (addL L i) a' w' (by simp [hsz]) (fun k => ?_) ?_ hI' ?_
    · unfold addL
      by_cases hk : k = i
      · subst hk
        have : k < listed.size := by omega
        simp [Array.getElem?_setIfInBounds, this]
      · rw [getD_set_ne false (fun e => hk e.symm), ← hL k, beq_eq_false_iff_ne.2 hk, Bool.false_or]
    · intro k ok hk hok e he hb
      unfold addL at hk ⊢
      rw [Bool.or_eq_true] at hk ⊢
      rcases hk with hk | hk
      · have : k = i := by simpa using hk
        subst this
        rw [ho] at hok
        cases hok
        exact .inr (h2' e he (hdown k _ ho e he hb))
      · exact .inr (hD k ok hk hok e he hb)
    · have : ((List.range ops.size).filter fun k => !addL L i k).length < ((List.range ops.size).filter fun k => !L k).length := by
        have hsub : ((List.range ops.size).filter fun k => !addL L i k) = ((List.range ops.size).filter fun k => !L k).filter fun k => !(k == i) := by
          rw [List.filter_filter]
          refine List.filter_congr (fun k _ => ?_)
          unfold addL
          cases k == i <;> simp
        rw [hsub]
        refine List.length_filter_lt_length_iff_exists.2 ⟨i, List.mem_filter.2 ⟨List.mem_range.2 hi', by rw [hLi]; rfl⟩, by simp⟩
      omega
end

end Go.Proofs.YtcjjckokaiobcaaDoor

/- A walk by computation: whatever order a region draws, what comes is as in the order of the text. -/
namespace Go.Proofs.YtcjjckokaiobcaaDoor
open Go Go.RowKit
set_option linter.unusedSimpArgs false
set_option linter.unusedVariables false

theorem foldH_congr (L L' : Nat → Bool) : ∀ (l : List Stp) (H : Hp), (∀ e ∈ l, L e.i = L' e.i) → foldH l L H = foldH l L' H
  | [], _, _ => rfl
  | e :: r, H, h => by
    rw [foldH, foldH, h e List.mem_cons_self, foldH_congr L L' r _ (fun e he => h e (List.mem_cons_of_mem _ he))]

section
variable {P : Program} {ops : Array Oper}

theorem drawOK_order {H : Hp} {l : List Stp} (h : drawOK ops H l = true) {e s : Stp} (he : e ∈ l) (hs : s ∈ l) (hne : e.i ≠ s.i) (hc : confl ops e s = true) :
    if s.i < e.i then beforeB ops 40 s.i e.i = true else beforeB ops 40 e.i s.i = true := by
  unfold drawOK at h
  simp only [Bool.and_eq_true] at h
  have h2 := List.all_eq_true.1 (List.all_eq_true.1 h.1.2 e he) s hs
  rw [hc, beq_eq_false_iff_ne.2 hne] at h2
  simp only [Bool.false_or, Bool.not_true] at h2
  split at h2 <;> rename_i hlt
  · rw [if_pos hlt]; exact h2
  · rw [if_neg hlt]; exact h2

/-- Of two that are at odds, the one ahead in the text has come, the one behind has not. -/
theorem odds {H : Hp} {l : List Stp} (hok : drawOK ops H l = true) (hops : ∀ e ∈ l, ops[e.i]? = some e.o) {L : Nat → Bool} (hD : Down ops L) {e s : Stp} (he : e ∈ l) (hs : s ∈ l)
    (hLe : L e.i = false) (hall : ∀ x ∈ e.o.after, Region.binds .any x = true → L x.on = true) (hc : confl ops e s = true) : L s.i = decide (s.i < e.i) := by
  by_cases hne : e.i = s.i
  · rw [← hne, hLe]; simp
  · have h := drawOK_order hok he hs hne hc
    by_cases hlt : s.i < e.i
    · rw [if_pos hlt] at h
      rw [beforeB_down hD 40 s.i e.i e.o (hops e he) hall h]
      simp [hlt]
    · rw [if_neg hlt] at h
      rw [decide_eq_false hlt]
      cases hL : L s.i with
      | false => rfl
      | true =>
        have := beforeB_down hD 40 e.i s.i s.o (hops s hs) (hD s.i s.o hL (hops s hs)) h
        rw [hLe] at this
        cases this

theorem vsteps_draw {call : CallF} (hcall : CallOK P call) {ro : Option Nat} {n : Nat} {Q : Exit → Act → World → Prop} {t : List Value} {D : List VDef} {H : Hp} {c : Ctl} {l : List Stp} {t' : List Value} {D' : List VDef} {H' : Hp} {c' : Ctl}
    (h : vsteps P call ops (List.range ops.size) t D H c = some (l, .go t' D' H' c')) (hok : drawOK ops H l = true) (hobl : AllP c'.obl)
    (A : Nat → Prop) (w0 : World) (β : Num) (a : Act) (w : World) (hR : RelA A w0 β D t H a w)
    (hQ : ∀ β' a' w', (∀ i, domB H i = true → β' i = β i) → RelA A w0 β' D' t' H' a' w' → Q .normal a' w') :
    wpAnyIn (Fw ro) n P .any ops Q ops.size (Array.replicate ops.size false) a w := by
  obtain ⟨-, hidx, hDD, hpn, ht', hH', hst⟩ := vsteps_spec hcall (List.range ops.size) t D H c l t' D' H' c' List.pairwise_lt_range h
  have hops : ∀ e ∈ l, ops[e.i]? = some e.o := fun e he => (hst e he).1
  have hsort : l.Pairwise (fun a b => a.i < b.i) := by
    have := List.pairwise_lt_range (n := ops.size)
    rw [← hidx] at this
    exact List.pairwise_map.1 this
  have hok2 := hok
  unfold drawOK at hok2
  simp only [Bool.and_eq_true] at hok2
  have hnod : ∀ e ∈ l, e.m.dfr.isSome = false := fun e he => by
    have := List.all_eq_true.1 hok2.1.1.1 e he
    cases hx : e.m.dfr with
    | none => rfl
    | some d => rw [hx] at this; cases this
  have hDe := hDD hnod
  have hfind : ∀ i, i < ops.size → ∃ e ∈ l, e.i = i := fun i hi => by
    have : i ∈ l.map (·.i) := by rw [hidx]; exact List.mem_range.2 hi
    obtain ⟨e, he, rfl⟩ := List.mem_map.1 this
    exact ⟨e, he, rfl⟩
  refine wpAny_inv (fun L a w => ∃ β', (∀ i, domB H i = true → β' i = β i) ∧ RelA A w0 β' D (foldT l L t) (foldH l L H) a w) ?_ (fun _ _ _ _ _ h => h) ?_ ?_ ops.size _ (fun _ => false) a w (by simp) (fun i => by
      by_cases hi : i < ops.size <;> simp [hi]) (fun _ _ h => (by cases h)) ?_ (Nat.le_trans (List.length_filter_le _ _) (by simp))
  · rintro L a w i o hD ⟨β', hext, hRL⟩ hLi ho hall
    obtain ⟨e, he, rfl⟩ := hfind i (Array.getElem?_eq_some_iff.1 ho).1
    obtain ⟨ho', hdo, hsub, hfr⟩ := hst e he
    rw [ho] at ho'
    cases ho'
    have hodds : ∀ s ∈ l, confl ops e s = true → L s.i = decide (s.i < e.i) := fun s hs hc => odds hok hops hD he hs hLi hall hc
    have hlook : ∀ k, k ∈ keys e.r ++ keys e.m.set → look (foldH l L H) k = look (foldH l (fun k => decide (k < e.i)) H) k := fun k hk =>
      foldH_look k _ _ l H H rfl (fun s hs hne => by
        cases hx : domB s.m.set k with
        | false => rfl
        | true =>
          refine absurd (hodds s hs ?_) hne
          unfold confl
          rw [hits_of (keys_dom hx) hk, Bool.or_true])
    refine hdo hobl ro n Q _ A w0 β' D _ _ a w e.i ho hRL (fun x hx => ?_) (fun k ob hk => ?_) (fun k hk => ?_) ?_ (fun hd => (by rw [hnod e he] at hd; cases hd)) (fun _ β'' a' w' hb hR' => ?_) (fun ch hch => (by rw [hpn e he] at hch; cases hch))
    · refine foldT_get x _ _ l t t rfl rfl (fun s hs hne hd => hne (hodds s hs ?_))
      unfold confl
      have : (e.o.looksAt ops).contains x = true := by simpa using hx
      simp [hd, hx]
    · rw [hlook k (List.mem_append_left _ (keys_dom (domB_of hk)))]
      exact hsub k ob hk
    · rcases hfr k hk with h1 | h1
      · exact .inl h1
      · right
        unfold domB at h1 ⊢
        rw [hlook k (List.mem_append_right _ (keys_dom hk))]
        exact h1
    · have h3 := List.all_eq_true.1 hok2.2 e he
      refine wfV_mono (fun k hk => ?_) _ h3
      rw [domB_merge, Bool.or_eq_true]
      simp only [Bool.or_eq_true, List.any_eq_true, Bool.and_eq_true] at hk
      rcases hk with (hk | hk) | ⟨s, hs, hk, hbf⟩
      · exact .inl hk
      · exact .inr (foldH_dom k L l H hk)
      · exact .inr (foldH_dom_of k L s (beforeB_down hD 40 s.i e.i e.o ho hall hbf) hk l H hs)
    · refine ⟨β'', fun i hi => by rw [hb i (foldH_dom i L l H hi), hext i hi], ?_⟩
      have hne : l.Pairwise (fun a b => a.i ≠ b.i) := hsort.imp (fun h => Nat.ne_of_lt h)
      have later : ∀ s ∈ l, e.i < s.i → L s.i = true → confl ops s e = true → False := fun s hs hlt hL hc => by
        have h := drawOK_order hok hs he (Ne.symm (Nat.ne_of_lt hlt)) hc
        rw [if_pos hlt] at h
        have := beforeB_down hD 40 e.i s.i s.o (hops s hs) (hD s.i s.o hL (hops s hs)) h
        rw [hLi] at this
        cases this
      rw [foldT_add L e hLi l t hne he (fun s hs hlt hL x hx hd => later s hs hlt hL (by unfold confl; simp [hx, hd])) hsort]
      have hlk : ∀ k, look (foldH l (addL L e.i) H) k = look (merge e.m.set (foldH l L H)) k := fun k =>
        foldH_add k L e hLi l H hsort he (fun s hs hlt hL hx => by
          cases hx2 : domB s.m.set k with
          | false => rfl
          | true =>
            refine (later s hs hlt hL ?_).elim
            unfold confl
            rw [hits_of (keys_dom hx) (List.mem_append_right _ (keys_dom hx2)), Bool.or_true])
      have hd : ∀ k, domB (foldH l (addL L e.i) H) k = domB (merge e.m.set (foldH l L H)) k := fun k => by unfold domB; rw [hlk]
      have hdn : dadd e.m.dfr D = D := by
        cases hx : e.m.dfr with
        | none => rfl
        | some d => have := hnod e he; rw [hx] at this; cases this
      rw [hdn] at hR'
      exact ⟨hR'.tm, hR'.df, wfL_mono (fun k hk => by rw [hd]; exact hk) _ hR'.wt, wfDs_mono (fun k hk => by rw [hd]; exact hk) hR'.wd, hR'.rel.congr (fun _ _ => rfl) hlk⟩
  · intro k o ho x hx hb
    obtain ⟨e, he, rfl⟩ := hfind k (Array.getElem?_eq_some_iff.1 ho).1
    have := hops e he
    rw [ho] at this
    cases this
    have h1 := List.all_eq_true.1 (List.all_eq_true.1 hok2.1.1.2 e he) x (by simpa using hx)
    rw [hb] at h1
    simpa using h1
  · rintro L a w ⟨β', hext, hRL⟩ hall
    have hL : ∀ e ∈ l, L e.i = true := fun e he => hall e.i (Array.getElem?_eq_some_iff.1 (hops e he)).1
    rw [foldT_congr L (fun _ => true) l t hL, foldH_congr L (fun _ => true) l H hL, ← ht' hobl, ← hH', ← hDe] at hRL
    exact hQ β' a w hext hRL
  · have z1 : ∀ (l : List Stp) (t : List Value), foldT l (fun _ => false) t = t := by
      intro l
      induction l with
      | nil => intro t; rfl
      | cons e r ih => intro t; rw [foldT]; exact ih _
    have z2 : ∀ (l : List Stp) (t : Hp), foldH l (fun _ => false) t = t := by
      intro l
      induction l with
      | nil => intro t; rfl
      | cons e r ih => intro t; rw [foldH]; exact ih _
    exact ⟨β, fun _ _ => rfl, by rw [z1, z2]; exact hR⟩

/-- A panic in a region that draws its order: what else may come ahead of it leaves the blocks alone. -/
def panOK (ops : Array Oper) (D : List VDef) (l : List Stp) : Bool :=
  D.isEmpty && (match l.getLast? with
    | some p => (l.all fun e => e.i == p.i || e.m.set.isEmpty) && (List.range ops.size).all fun k => decide (k ≤ p.i) || beforeB ops 40 p.i k && (match ops[k]? with | some o => o.after.toList.all fun x => !Region.binds .any x || decide (x.on < k) | none => true)
    | none => false)
theorem foldH_none (L : Nat → Bool) : ∀ (l : List Stp) (H : Hp), (∀ e ∈ l, L e.i = true → e.m.set = []) → ∀ x, look (foldH l L H) x = look H x
  | [], _, _, _ => rfl
  | e :: r, H, h, x => by
    rw [foldH, foldH_none L r _ (fun e he => h e (List.mem_cons_of_mem _ he))]
    by_cases hL : L e.i = true
    · rw [if_pos hL, h e List.mem_cons_self hL, merge_nil]
    · rw [if_neg hL]
theorem vsteps_drawP {call : CallF} (hcall : CallOK P call) {ro : Option Nat} {n : Nat} {Q : Exit → Act → World → Prop} {t : List Value} {D : List VDef} {H : Hp} {c : Ctl} {l : List Stp} {ch : List PanicEntry} {t' : List Value} {D' : List VDef} {H' : Hp} {c' : Ctl}
    (h : vsteps P call ops (List.range ops.size) t D H c = some (l, .pan ch t' D' H' c')) (hok : drawOK ops H l = true) (hpk : panOK ops D l = true) (hobl : AllP c'.obl)
    (A : Nat → Prop) (w0 : World) (β : Num) (a : Act) (w : World) (hR : RelA A w0 β D t H a w)
    (hQ : ∀ t2 β' a' w', (D' = [] ∨ t2 = t') → (∀ i, domB H i = true → β' i = β i) → RelA A w0 β' D' t2 H' a' w' → Q (.panic ch) a' w') :
    wpAnyIn (Fw ro) n P .any ops Q ops.size (Array.replicate ops.size false) a w := by
  obtain ⟨-, ⟨rest, hidx⟩, hDD, ⟨l0, p, hl, hpp, hpn⟩, hH', hst⟩ := vsteps_specP hcall (List.range ops.size) t D H c l ch t' D' H' c' List.pairwise_lt_range h
  have hops : ∀ e ∈ l, ops[e.i]? = some e.o := fun e he => (hst e he).1
  have hsort : l.Pairwise (fun a b => a.i < b.i) := by
    have := List.pairwise_lt_range (n := ops.size)
    rw [hidx] at this
    exact List.pairwise_map.1 (List.pairwise_append.1 this).1
  have hok2 := hok
  unfold drawOK at hok2
  simp only [Bool.and_eq_true] at hok2
  have hnod : ∀ e ∈ l, e.m.dfr.isSome = false := fun e he => by
    have := List.all_eq_true.1 hok2.1.1.1 e he
    cases hx : e.m.dfr with
    | none => rfl
    | some d => rw [hx] at this; cases this
  have hDe := hDD hnod
  have hpl : p ∈ l := by rw [hl]; simp
  unfold panOK at hpk
  have hlast : l.getLast? = some p := by rw [hl]; simp
  rw [hlast] at hpk
  simp only [Bool.and_eq_true] at hpk
  obtain ⟨hD0, hset0, hafter0⟩ := hpk
  have hD1 : D = [] := List.isEmpty_iff.1 hD0
  have hset : ∀ e ∈ l, e.i ≠ p.i → e.m.set = [] := fun e he hne => by
    have := List.all_eq_true.1 hset0 e he
    rw [beq_eq_false_iff_ne.2 hne, Bool.false_or] at this
    exact List.isEmpty_iff.1 this
  have hafter : ∀ k, k < ops.size → p.i < k → beforeB ops 40 p.i k = true := fun k hk hlt => by
    have := List.all_eq_true.1 hafter0 k (List.mem_range.2 hk)
    rw [decide_eq_false (by omega), Bool.false_or, Bool.and_eq_true] at this
    exact this.1
  have hlow : ∀ (k : Nat) (o : Oper), ops[k]? = some o → ¬ k ≤ p.i → ∀ x ∈ o.after, Region.binds .any x = true → x.on < k := fun k o ho hlt x hx hb => by
    have := List.all_eq_true.1 hafter0 k (List.mem_range.2 (Array.getElem?_eq_some_iff.1 ho).1)
    rw [decide_eq_false hlt, Bool.false_or, Bool.and_eq_true, ho] at this
    have h1 := List.all_eq_true.1 this.2 x (by simpa using hx)
    rw [hb] at h1
    simpa using h1
  have hplast : ∀ e ∈ l, e.i ≤ p.i := fun e he => by
    rw [hl] at he hsort
    rcases List.mem_append.1 he with he | he
    · exact Nat.le_of_lt ((List.pairwise_append.1 hsort).2.2 e he p (by simp))
    · rw [List.mem_singleton] at he; rw [he]; exact Nat.le_refl _
  have hlen : ∀ i, i < ops.size → i ≤ p.i → ∃ e ∈ l, e.i = i := fun i hi hle => by
    have hm : i ∈ List.range ops.size := List.mem_range.2 hi
    have hw := List.pairwise_lt_range (n := ops.size)
    rw [hidx] at hm hw
    rcases List.mem_append.1 hm with hm | hm
    · obtain ⟨e, he, rfl⟩ := List.mem_map.1 hm
      exact ⟨e, he, rfl⟩
    · have := (List.pairwise_append.1 hw).2.2 p.i (List.mem_map_of_mem hpl) i hm
      omega
  have hpanL0 : ∀ e ∈ l, e.i ≠ p.i → e.m.pan = none := fun e he hne => by
    rw [hl] at he
    rcases List.mem_append.1 he with he | he
    · exact hpn e he
    · rw [List.mem_singleton] at he; rw [he] at hne; exact absurd rfl hne
  have hinj : ∀ e ∈ l, ∀ s ∈ l, e.i = s.i → e = s := by
    have key : ∀ (l : List Stp), l.Pairwise (fun a b => a.i < b.i) → ∀ e ∈ l, ∀ s ∈ l, e.i = s.i → e = s := by
      intro l
      induction l with
      | nil => intro _ e he; cases he
      | cons x r ih =>
        intro hp e he s hs heq
        have hp2 := List.pairwise_cons.1 hp
        rcases List.mem_cons.1 he with he1 | he1 <;> rcases List.mem_cons.1 hs with hs1 | hs1
        · rw [he1, hs1]
        · have := hp2.1 s hs1; rw [he1] at heq; omega
        · have := hp2.1 e he1; rw [hs1] at heq; omega
        · exact ih hp2.2 e he1 s hs1 heq
    exact key l hsort
  refine wpAny_inv (fun L a w => L p.i = false ∧ (∀ e ∈ l, L e.i = true → e.i ≠ p.i) ∧ ∃ β', (∀ i, domB H i = true → β' i = β i) ∧ RelA A w0 β' D (foldT l L t) (foldH l L H) a w) ?_ (fun _ _ _ _ _ h => h) ?_ ?_ ops.size _ (fun _ => false) a w (by simp) (fun i => by
      by_cases hi : i < ops.size <;> simp [hi]) (fun _ _ h => (by cases h)) ?_ (Nat.le_trans (List.length_filter_le _ _) (by simp))
  · rintro L a w i o hD ⟨hLp, hLn, β', hext, hRL⟩ hLi ho hall
    have hisz := (Array.getElem?_eq_some_iff.1 ho).1
    by_cases hle : i ≤ p.i
    case neg =>
      have := beforeB_down hD 40 p.i i o ho hall (hafter i hisz (by omega))
      rw [hLp] at this
      cases this
    obtain ⟨e, he, rfl⟩ := hlen i hisz hle
    obtain ⟨ho', hdo, hsub, hfr⟩ := hst e he
    rw [ho] at ho'
    cases ho'
    have hodds : ∀ s ∈ l, confl ops e s = true → L s.i = decide (s.i < e.i) := fun s hs hc => odds hok hops hD he hs hLi hall hc
    have hlook : ∀ k, k ∈ keys e.r ++ keys e.m.set → look (foldH l L H) k = look (foldH l (fun k => decide (k < e.i)) H) k := fun k hk =>
      foldH_look k _ _ l H H rfl (fun s hs hne => by
        cases hx : domB s.m.set k with
        | false => rfl
        | true =>
          refine absurd (hodds s hs ?_) hne
          unfold confl
          rw [hits_of (keys_dom hx) hk, Bool.or_true])
    refine hdo hobl ro n Q _ A w0 β' D _ _ a w e.i ho hRL (fun x hx => ?_) (fun k ob hk => ?_) (fun k hk => ?_) ?_ (fun hd => (by rw [hnod e he] at hd; cases hd)) (fun hpnone β'' a' w' hb hR' => ?_) (fun ch' hch β'' a' w' hb hR' => ?_)
    · refine foldT_get x _ _ l t t rfl rfl (fun s hs hne hd => hne (hodds s hs ?_))
      unfold confl
      have : (e.o.looksAt ops).contains x = true := by simpa using hx
      simp [hd, hx]
    · rw [hlook k (List.mem_append_left _ (keys_dom (domB_of hk)))]
      exact hsub k ob hk
    · rcases hfr k hk with h1 | h1
      · exact .inl h1
      · right
        unfold domB at h1 ⊢
        rw [hlook k (List.mem_append_right _ (keys_dom hk))]
        exact h1
    · have h3 := List.all_eq_true.1 hok2.2 e he
      refine wfV_mono (fun k hk => ?_) _ h3
      rw [domB_merge, Bool.or_eq_true]
      simp only [Bool.or_eq_true, List.any_eq_true, Bool.and_eq_true] at hk
      rcases hk with (hk | hk) | ⟨s, hs, hk, hbf⟩
      · exact .inl hk
      · exact .inr (foldH_dom k L l H hk)
      · exact .inr (foldH_dom_of k L s (beforeB_down hD 40 s.i e.i e.o ho hall hbf) hk l H hs)
    · have hnep : e.i ≠ p.i := fun heq => by
        have := hinj e he p hpl heq
        subst this
        rw [hpp] at hpnone
        cases hpnone
      refine ⟨?_, ?_, β'', fun i hi => by rw [hb i (foldH_dom i L l H hi), hext i hi], ?_⟩
      · simp only [addL]; rw [beq_eq_false_iff_ne.2 (fun h => hnep h.symm), hLp]; rfl
      · intro s hs hL heq
        simp only [addL, Bool.or_eq_true, beq_iff_eq] at hL
        rcases hL with hL | hL
        · exact hnep (by rw [← hL, heq])
        · rw [heq, hLp] at hL; cases hL
      have hne : l.Pairwise (fun a b => a.i ≠ b.i) := hsort.imp (fun h => Nat.ne_of_lt h)
      have later : ∀ s ∈ l, e.i < s.i → L s.i = true → confl ops s e = true → False := fun s hs hlt hL hc => by
        have h := drawOK_order hok hs he (Ne.symm (Nat.ne_of_lt hlt)) hc
        rw [if_pos hlt] at h
        have := beforeB_down hD 40 e.i s.i s.o (hops s hs) (hD s.i s.o hL (hops s hs)) h
        rw [hLi] at this
        cases this
      rw [foldT_add L e hLi l t hne he (fun s hs hlt hL x hx hd => later s hs hlt hL (by unfold confl; simp [hx, hd])) hsort]
      have hlk : ∀ k, look (foldH l (addL L e.i) H) k = look (merge e.m.set (foldH l L H)) k := fun k =>
        foldH_add k L e hLi l H hsort he (fun s hs hlt hL hx => by
          cases hx2 : domB s.m.set k with
          | false => rfl
          | true =>
            refine (later s hs hlt hL ?_).elim
            unfold confl
            rw [hits_of (keys_dom hx) (List.mem_append_right _ (keys_dom hx2)), Bool.or_true])
      have hd : ∀ k, domB (foldH l (addL L e.i) H) k = domB (merge e.m.set (foldH l L H)) k := fun k => by unfold domB; rw [hlk]
      have hdn : dadd e.m.dfr D = D := by
        cases hx : e.m.dfr with
        | none => rfl
        | some d => have := hnod e he; rw [hx] at this; cases this
      rw [hdn] at hR'
      exact ⟨hR'.tm, hR'.df, wfL_mono (fun k hk => by rw [hd]; exact hk) _ hR'.wt, wfDs_mono (fun k hk => by rw [hd]; exact hk) hR'.wd, hR'.rel.congr (fun _ _ => rfl) hlk⟩
    · have heq : e.i = p.i := by
        by_cases hne : e.i = p.i
        · exact hne
        · have := hpanL0 e he hne
          rw [hch] at this
          cases this
      have hep := hinj e he p hpl heq
      subst hep
      rw [hpp] at hch
      cases hch
      have hlk : ∀ x, look H' x = look (merge e.m.set (foldH l L H)) x := fun x => by
        have h1 : ∀ y, look (foldH l0 (fun _ => true) H) y = look H y := foldH_none _ l0 H (fun s hs _ => by
          refine hset s (by rw [hl]; exact List.mem_append_left _ hs) (fun heq => ?_)
          rw [hl] at hsort
          have := (List.pairwise_append.1 hsort).2.2 s hs e (by simp)
          omega)
        have h2 := foldH_none L l H (fun s hs hL => hset s hs (hLn s hs hL))
        have h3 : ∀ (l0 : List Stp) (H : Hp), foldH (l0 ++ [e]) (fun _ => true) H = merge e.m.set (foldH l0 (fun _ => true) H) := by
          intro l0
          induction l0 with
          | nil => intro H; rfl
          | cons s r ih => intro H; rw [List.cons_append, foldH, foldH]; exact ih _
        rw [hH', hl, h3, look_merge, look_merge, h1, ← hl, h2]
      have hd : ∀ k, domB H' k = domB (merge e.m.set (foldH l L H)) k := fun k => by unfold domB; rw [hlk]
      subst hDe
      exact hQ (foldT l L t) β'' a' w' (.inl hD1) (fun i hi => by rw [hb i (foldH_dom i L l H hi), hext i hi])
        ⟨hR'.tm, hR'.df, wfL_mono (fun k hk => by rw [hd]; exact hk) _ hR'.wt, wfDs_mono (fun k hk => by rw [hd]; exact hk) hR'.wd, hR'.rel.congr (fun _ _ => rfl) hlk⟩
  · intro k o ho x hx hb
    have hisz := (Array.getElem?_eq_some_iff.1 ho).1
    by_cases hle : k ≤ p.i
    · obtain ⟨e, he, rfl⟩ := hlen k hisz hle
      have := hops e he
      rw [ho] at this
      cases this
      have h1 := List.all_eq_true.1 (List.all_eq_true.1 hok2.1.1.2 e he) x (by simpa using hx)
      rw [hb] at h1
      simpa using h1
    · exact hlow k o ho hle x hx hb
  · rintro L a w ⟨hLp, -⟩ hall
    have hsz := (Array.getElem?_eq_some_iff.1 (hops p hpl)).1
    rw [hall p.i hsz] at hLp
    cases hLp
  · have z1 : ∀ (l : List Stp) (t : List Value), foldT l (fun _ => false) t = t := by
      intro l
      induction l with
      | nil => intro t; rfl
      | cons e r ih => intro t; rw [foldT]; exact ih _
    have z2 : ∀ (l : List Stp) (t : Hp), foldH l (fun _ => false) t = t := by
      intro l
      induction l with
      | nil => intro t; rfl
      | cons e r ih => intro t; rw [foldH]; exact ih _
    exact ⟨rfl, fun _ _ h => (by cases h), β, fun _ _ => rfl, by rw [z1, z2]; exact hR⟩

/-- A region, in a round of a loop or not. -/
def vregion (P : Program) (call : CallF) (rd : Bool) (ops : Array Oper) (draw : Bool) (t : List Value) (D : List VDef) (H : Hp) (c : Ctl) : Option Out :=
  match vsteps P call ops (List.range ops.size) t D H c with
  | some (l, x) =>
    if rd && l.any (fun e => e.m.dfr.isSome) then none
    else if draw then
      match x with
      | .go _ _ _ _ => if drawOK ops H l then some x else none
      | .pan _ _ _ _ _ => if drawOK ops H l && panOK ops D l then some x else none
    else some x
  | none => none
theorem vregion_spec {call : CallF} (hcall : CallOK P call) {rd : Bool} {draw : Bool} {t : List Value} {D : List VDef} {H : Hp} {c : Ctl} {x : Out} (h : vregion P call rd ops draw t D H c = some x) :
    (AllP x.ctl.obl → AllP c.obl) ∧ (∀ i, domB H i = true → domB x.heap i = true) ∧
    (P.follows .mixedOrders = true → AllP x.ctl.obl → ∀ (ro : Option Nat), (rd = false → ro = none) → ∀ (n id : Nat) (Q : Exit → Act → World → Prop) (A : Nat → Prop) (w0 : World) (β : Num) (a : Act) (w : World), RelA A w0 β D t H a w →
      x.post A w0 β H Q → (Code.region id ops draw).wpIn (Fw ro) n P Q a w) := by
  unfold vregion at h
  split at h
  · rename_i l x1 hs
    have hx : x1 = x := by
      split at h
      · cases h
      · split at h
        · split at h
          · split at h
            · simpa using h
            · cases h
          · split at h
            · simpa using h
            · cases h
        · simpa using h
    subst hx
    have htxt := fun (ro : Option Nat) (n : Nat) (Q : Exit → Act → World → Prop) => vsteps_text (ro := ro) (n := n) (Q := Q) hcall _ _ _ _ _ _ _ hs
    refine ⟨(htxt none 0 (fun _ _ _ => True)).1, (htxt none 0 (fun _ _ _ => True)).2.1, fun hmix hobl ro hro n id Q A w0 β a w hR hQ => ?_⟩
    split at h
    · cases h
    · rename_i hrd
      have hdf : ro = none ∨ ∀ e ∈ l, e.m.dfr.isSome = false := by
        cases rd with
        | false => exact .inl (hro rfl)
        | true =>
          right
          intro e he
          cases hd : e.m.dfr.isSome with
          | false => rfl
          | true => exact absurd (by rw [Bool.true_and]; exact List.any_eq_true.2 ⟨e, he, hd⟩) hrd
      split at h
      · rename_i hdraw
        subst hdraw
        split at h
        · rename_i t' D' H' c'
          split at h
          · rename_i hok
            refine wpIn_region_any hmix ?_
            exact vsteps_draw hcall hs hok hobl A w0 β a w.drew ⟨hR.tm, hR.df, hR.wt, hR.wd, hR.rel.drew⟩ hQ
          · cases h
        · rename_i ch t' D' H' c'
          split at h
          · rename_i hok
            rw [Bool.and_eq_true] at hok
            refine wpIn_region_any hmix ?_
            exact vsteps_drawP hcall hs hok.1 hok.2 hobl A w0 β a w.drew ⟨hR.tm, hR.df, hR.wt, hR.wd, hR.rel.drew⟩ hQ
          · cases h
      · rename_i hdraw
        have : draw = false := by simpa using hdraw
        subst this
        exact wpIn_region ((htxt ro n Q).2.2 hobl hdf A w0 β a w hR hQ)
  · cases h
end

end Go.Proofs.YtcjjckokaiobcaaDoor

/- A walk by computation: code. -/
namespace Go.Proofs.YtcjjckokaiobcaaDoor
open Go Go.RowKit
set_option linter.unusedSimpArgs false
set_option linter.unusedVariables false

/-- Where blocks lie. -/
def blk (β : Num) (i : Nat) : Nat := (β i).1
section
variable {P : Program}

/-- How code is left. -/
inductive Ex where
  | normal
  | exit (id : Nat)
  | goto (l : Nat)
  | ret
  | pan (ch : List PanicEntry)
def Ex.out : Ex → Exit
  | .normal => .normal
  | .exit id => .exit id
  | .goto l => .goto l
  | .ret => .ret
  | .pan ch => .panic ch

/-- A loop over a function is entered: its record, and the block of the calls that wait. -/
def venter (rd : Option Nat) (H : Hp) (t : List Value) (ps : Array Tmp) (assign body : Code) (c : Ctl) : Option (Hp × Nat × List VDef × Ctl) :=
  match rd with
  | none =>
    if domB H c.n || domB H (c.n + 1) then none
    else some (hput (hput H c.n (.deferred (some []))) (c.n + 1) (.loop { state := .ready, pending := none, fn := 0, tmps := t.toArray, params := ps, assign, body, defers := c.n }), c.n + 1, [.mark c.n], { c with n := c.n + 2 })
  | some l0 =>
    match look H l0 with
    | some (.loop r0) =>
      if domB H c.n then none
      else some (hput H c.n (.loop { state := .ready, pending := none, fn := 0, tmps := t.toArray, params := ps, assign, body, defers := r0.defers }), c.n, [], { c with n := c.n + 1 })
    | _ => none

abbrev Fin5 := Option (Ex × List Value × List VDef × Hp × Ctl)
/-- Code within a scope: who jumps to a label there goes on behind it. -/
def vscope (run : Code → List Value → List VDef → Hp → Ctl → Fin5) (b : Code) : Nat → Code → List Value → List VDef → Hp → Ctl → Fin5
  | 0, _, _, _, _, _ => none
  | j + 1, k, t, D, H, c =>
    match run k t D H c with
    | some (.goto l, t', D', H', c') =>
      match findLabel b l with
      | some rest => vscope run b j rest t' D' H' c'
      | none => some (.goto l, t', D', H', c')
    | r => r

def vcode (P : Program) (call : CallF) (rd : Option Nat) : Nat → Code → List Value → List VDef → Hp → Ctl → Option (Ex × List Value × List VDef × Hp × Ctl)
  | 0, _, _, _, _, _ => none
  | n + 1, k, t, D, H, c =>
    match k with
    | .skip => some (.normal, t, D, H, c)
    | .label _ => some (.normal, t, D, H, c)
    | .seq x y =>
      match vcode P call rd n x t D H c with
      | some (.normal, t', D', H', c') => vcode P call rd n y t' D' H' c'
      | r => r
    | .cond o x y =>
      if opdOK o then
        match vev t o with
        | .bool b =>
          match vdec b c with
          | (d, c1) => vcode P call rd n (if d then x else y) t D H c1
        | _ => none
      else none
    | .block id b =>
      match vcode P call rd n b t D H c with
      | some (.exit i, t', D', H', c') => if i = id then some (.normal, t', D', H', c') else some (.exit i, t', D', H', c')
      | r => r
    | .loop b =>
      match vcode P call rd n b t D H c with
      | some (.normal, t', D', H', c') => vcode P call rd n (.loop b) t' D' H' c'
      | r => r
    | .exit id => some (.exit id, t, D, H, c)
    | .goto l => some (.goto l, t, D, H, c)
    | .ret => some (.ret, t, D, H, c)
    | .region _ ops draw =>
      match vregion P call rd.isSome ops draw t D H c with
      | some (.go t' D' H' c') => some (.normal, t', D', H', c')
      | some (.pan ch t' D' H' c') => some (.pan ch, t', D', H', c')
      | none => none
    | .scope b => vscope (vcode P call rd n) b n b t D H c
    | .rangeFunc g ps assign body =>
      if opdOK g then
        match vev t g with
        | .func (.func f) first cap =>
          if hasBody P f then
            match venter rd H t ps assign body c with
            | some (H1, l, M, c1) =>
              match vcall call H1 (.func f) (first ++ #[.func (.yield l) #[] #[]] ++ cap) c1 with
              | some (m, _, c2) =>
                match m.pan with
                | none =>
                  match look (merge m.set H1) l with
                  | some (.loop r) =>
                    if r.state = .busy then none
                    else
                      match r.pending with
                      | none => some (.normal, t, M ++ D, hput (merge m.set H1) l (.loop { r with state := .exhausted }), c2)
                      | some k => vcode P call rd n k t (M ++ D) (hput (merge m.set H1) l (.loop { r with state := .exhausted })) c2
                  | _ => none
                | some _ => none
              | none => none
            | none => none
          else none
        | _ => none
      else none
    | _ => none

/-- .. who panics with nothing that waits for the end may have come to any temporaries. -/
def CameR (A : Nat → Prop) (w0 : World) (β' : Num) (ex : Ex) (t' : List Value) (D' : List VDef) (H' : Hp) (a : Act) (w : World) : Prop :=
  match ex with
  | .pan _ => ∃ t2, (D' = [] ∨ t2 = t') ∧ RelA A w0 β' D' t2 H' a w
  | _ => RelA A w0 β' D' t' H' a w
theorem CameR.some {A : Nat → Prop} {w0 : World} {β' : Num} {ex : Ex} {t' : List Value} {D' : List VDef} {H' : Hp} {a : Act} {w : World} (h : CameR A w0 β' ex t' D' H' a w) :
    ∃ t2, ((D' = [] ∧ ∃ ch, ex = .pan ch) ∨ t2 = t') ∧ RelA A w0 β' D' t2 H' a w := by
  cases ex with
  | pan ch => obtain ⟨t2, hD, h⟩ := h; exact ⟨t2, hD.imp (fun h => ⟨h, ch, rfl⟩) id, h⟩
  | _ => exact ⟨t', .inr rfl, h⟩
/-- Where code has come to. -/
def Came (A : Nat → Prop) (w0 : World) (β : Num) (H : Hp) (ex : Ex) (t' : List Value) (D' : List VDef) (H' : Hp) (e : Exit) (a : Act) (w : World) : Prop :=
  e = ex.out ∧ ∃ β', (∀ i, domB H i = true → β' i = β i) ∧ CameR A w0 β' ex t' D' H' a w

theorem exists_least {p : Nat → Prop} (h : ∃ m, p m) : ∃ m, p m ∧ ∀ k, p k → m ≤ k := by
  obtain ⟨m, hm⟩ := h
  induction m using Nat.strongRecOn with
  | _ m ih =>
    by_cases hs : ∃ k, k < m ∧ p k
    · obtain ⟨k, hk, hpk⟩ := hs
      exact ih k hk hpk
    · refine ⟨m, hm, fun k hk => ?_⟩
      rcases Nat.lt_or_ge k m with h | h
      · exact absurd ⟨k, h, hk⟩ hs
      · exact h
theorem wpIn_loop_by {F : Fence} {n0 : Nat} {c : Code} {Q : Exit → Act → World → Prop} (I : Nat → Act → World → Prop) {n : Nat} {a : Act} {w : World} (h0 : I n a w)
    (round : ∀ m a w, I m a w → c.wpIn F n0 P (Exit.then (fun a' w' => ∃ m', m' < m ∧ I m' a' w') Q) a w) : (Code.loop c).wpIn F n0 P Q a w := by
  classical
  refine wpIn_loop (fun a w => ∃ m, I m a w) (fun a w => if h : ∃ m, I m a w then Classical.choose (exists_least h) else 0) ⟨n, h0⟩ (fun a w hI => ?_)
  refine wpIn_mono (round _ a w (Classical.choose_spec (exists_least hI)).1) (fun e a' w' h => ?_)
  cases e with
  | normal =>
    obtain ⟨m', hlt, hI'⟩ := h
    have hex : ∃ m, I m a' w' := ⟨m', hI'⟩
    refine ⟨hex, ?_⟩
    simp only [dif_pos hex, dif_pos hI]
    exact Nat.lt_of_le_of_lt ((Classical.choose_spec (exists_least hex)).2 m' hI') hlt
  | _ => exact h


theorem callFunc_run {f : FuncId} (hb : hasBody P f = true) (args : Array Value) (w : World) : (callFunc f args).run P w = .ok (.enter f args) w := by
  unfold hasBody at hb
  cases hf : P.funcs[f]? with
  | none => rw [hf] at hb; cases hb
  | some fn =>
    rw [hf] at hb
    simp only [Bool.and_eq_true, Bool.not_eq_true'] at hb
    have e : calm P (callFunc f args) = some (.enter f args) := by
      simp only [callFunc, calm_bind, program, calm, Option.bind_some, hf]
      simp only [hb.1, hb.2, Bool.false_eq_true, if_false]
      rfl
    exact calm_run e w

theorem venter_spec {rd : Option Nat} {H : Hp} {t : List Value} {ps : Array Tmp} {assign body : Code} {c : Ctl} {H1 : Hp} {l : Nat} {M : List VDef} {c1 : Ctl} (h : venter rd H t ps assign body c = some (H1, l, M, c1)) :
    c1.obl = c.obl ∧ (∀ i, domB H i = true → domB H1 i = true) ∧ domB H1 l = true ∧ wfDs (domB H1) M = true ∧
    ∀ (A : Nat → Prop) (w0 : World) (β : Num) (D : List VDef) (a : Act) (w : World), RelA A w0 β D t H a w → ∀ fn, ∃ β1 w1, (∀ i, domB H i = true → β1 i = β i) ∧
      (Instr.enterLoop fn a.tmps ps assign body (rd.map (blk β))).run P w = .ok ((β1 l).1, M.map (renD β1)) w1 ∧ Rel A w0 β1 H1 w1 := by
  unfold venter at h
  cases rd with
  | none =>
    simp only at h
    split at h
    · cases h
    · rename_i hn
      simp only [Option.some.injEq, Prod.mk.injEq] at h
      obtain ⟨rfl, rfl, rfl, rfl⟩ := h
      rw [Bool.not_eq_true, Bool.or_eq_false_iff] at hn
      refine ⟨rfl, fun i hi => by rw [domB_hput, domB_hput, hi]; simp, by rw [domB_hput]; simp, ?_, ?_⟩
      · simp [wfDs, wfD, domB_hput]
      · intro A w0 β D a w hR fn
        have r1 := hR.rel.new hn.1 (o := .deferred (some [])) (x := .deferred (some [])) (cap := 0) rfl rfl
        have hd1 : ∀ i, domB H i = true → domB (hput H c.n (.deferred (some []))) i = true := fun i hi => by rw [domB_hput, hi, Bool.or_true]
        have hag : ∀ i, domB H i = true → upd1 β c.n (w.heap.size, 0) i = β i := fun i hi => upd1_ne (fun e => by rw [e, hn.1] at hi; cases hi)
        have hn1 : domB (hput H c.n (.deferred (some []))) (c.n + 1) = false := by
          rw [domB_hput, hn.2, decide_eq_false (by omega)]; rfl
        have hwt : wfA (domB (hput H c.n (.deferred (some [])))) t.toArray = true := wfL_mono hd1 t hR.wt
        have r2 := r1.new hn1 (o := .loop { state := .ready, pending := none, fn := 0, tmps := t.toArray, params := ps, assign, body, defers := c.n })
          (x := .loop { state := .ready, pending := none, fn := fn, tmps := renA (upd1 β c.n (w.heap.size, 0)) t.toArray, params := ps, assign, body, defers := (upd1 β c.n (w.heap.size, 0) c.n).1 }) (cap := 0)
          (by simp only [wfO, Bool.and_eq_true]; exact ⟨hwt, by rw [domB_hput]; simp⟩) ⟨fn, fun h => absurd rfl h, rfl⟩
        refine ⟨_, _, fun i hi => ?_, ?_, r2⟩
        · rw [upd1_ne (fun e => by rw [e, hn.2] at hi; cases hi), hag i hi]
        · simp only [Option.map_none]
          rw [run_enterLoop_outer]
          have e1 : a.tmps = renA (upd1 β c.n (w.heap.size, 0)) t.toArray := by
            rw [hR.tm, ← renL_congr hag t hR.wt]; rfl
          have e2 : upd1 β c.n (w.heap.size, 0) c.n = (w.heap.size, 0) := upd1_self
          rw [e1, e2, upd1_self]
          simp only [List.map_cons, List.map_nil, renD, upd1_ne (show c.n ≠ c.n + 1 by omega), upd1_self, World.size_alloc]
  | some l0 =>
    simp only at h
    split at h
    · rename_i r0 hl0
      split at h
      · cases h
      · rename_i hn
        simp only [Option.some.injEq, Prod.mk.injEq] at h
        obtain ⟨rfl, rfl, rfl, rfl⟩ := h
        rw [Bool.not_eq_true] at hn
        refine ⟨rfl, fun i hi => by rw [domB_hput, hi, Bool.or_true], by rw [domB_hput]; simp, rfl, ?_⟩
        intro A w0 β D a w hR fn
        obtain ⟨fn0, _, hrec⟩ := hR.rel.lies l0 _ hl0
        have hwf0 := hR.rel.wf l0 _ hl0
        simp only [wfO, Bool.and_eq_true] at hwf0
        have r2 := hR.rel.new hn (o := .loop { state := .ready, pending := none, fn := 0, tmps := t.toArray, params := ps, assign, body, defers := r0.defers })
          (x := .loop { state := .ready, pending := none, fn := fn, tmps := renA β t.toArray, params := ps, assign, body, defers := (β r0.defers).1 }) (cap := 0)
          (by simp only [wfO, Bool.and_eq_true]; exact ⟨hR.wt, hwf0.2⟩) ⟨fn, fun h => absurd rfl h, rfl⟩
        refine ⟨_, _, fun i hi => upd1_ne (fun e => by rw [e, hn] at hi; cases hi), ?_, r2⟩
        simp only [Option.map_some, blk]
        rw [run_enterLoop_inner hrec, hR.tm]
        simp only [List.map_nil, upd1_self]
        rfl
    · cases h

theorem stepR_scope {b : Frame} {a : Act} {k : List Item} {cs : List Frame} {w : World} {c : Code} : step P (lone (b.atR a (.code (.scope c) :: k)) cs w) = .next (lone (b.atR a (.code c :: .inScope c :: k)) cs w) :=
  step_lone_go (by simp [stepG, stepG.exec, Frame.atR])
theorem stepR_inScope {b : Frame} {a : Act} {k : List Item} {cs : List Frame} {w : World} {c : Code} : step P (lone (b.atR a (.inScope c :: k)) cs w) = .next (lone (b.atR a k) cs w) :=
  step_lone_go (by simp [stepG, stepG.exec, Frame.atR])
/-- Code, run within a scope. -/
def ScIn (F : Fence) (n : Nat) (P : Program) (c k0 : Code) (Q : Exit → Act → World → Prop) (a : Act) (w : World) : Prop :=
  ∀ (b : Frame) (k : List Item) (cs : List Frame), b.roundOf = F.round → F.fn b.fn → F.room (cs.length + 1 + n) →
    ∃ e a' w', Q e a' w' ∧ ArrivesIn (Machine.fenced P F) P (lone (b.atR a (.code k0 :: .inScope c :: k)) cs w) b k cs e a' w'
theorem wpIn_scope_of {F : Fence} {n : Nat} {c : Code} {Q : Exit → Act → World → Prop} {a : Act} {w : World} (h : ScIn F n P c c Q a w) : (Code.scope c).wpIn F n P Q a w := by
  intro b k cs hro hb hr
  obtain ⟨e, a', w', hq, harr⟩ := h b k cs hro hb hr
  exact ⟨e, a', w', hq, .of_steps (.one (fenced_calm hb hr rfl) stepR_scope) harr⟩
theorem scIn_of {F : Fence} {n : Nat} {c k0 : Code} {Q : Exit → Act → World → Prop} {a : Act} {w : World}
    (h : k0.wpIn F n P (fun e a' w' => match e with | .goto l => (match findLabel c l with | some rest => ScIn F n P c rest Q a' w' | none => Q (.goto l) a' w') | e => Q e a' w') a w) : ScIn F n P c k0 Q a w := by
  intro b k cs hro hb hr
  obtain ⟨e, a₁, w₁, hq, harr⟩ := h b (.inScope c :: k) cs hro hb hr
  cases e with
  | normal => exact ⟨.normal, a₁, w₁, hq, StepsIn.trans harr (.one (fenced_calm hb hr rfl) stepR_inScope)⟩
  | exit id => exact ⟨.exit id, a₁, w₁, hq, fun k' hk => harr.1 k' (by simp only [exitTo]; exact hk), fun hr' hk => let ⟨k₁, h1, h2⟩ := harr.2 hr' (by simp only [exitTo]; exact hk); ⟨k₁, h1, h2⟩⟩
  | goto l =>
    cases hf : findLabel c l with
    | some rest =>
      simp only [hf] at hq
      obtain ⟨e₂, a₂, w₂, hq₂, harr₂⟩ := hq b k cs hro hb hr
      exact ⟨e₂, a₂, w₂, hq₂, .of_steps (harr.1 _ (by simp only [gotoIn, hf])) harr₂⟩
    | none =>
      simp only [hf] at hq
      exact ⟨.goto l, a₁, w₁, hq, fun k' hk => harr.1 k' (by simp only [gotoIn, hf]; exact hk), fun hr' hk => let ⟨k₁, h1, h2⟩ := harr.2 hr' (by simp only [gotoIn, hf]; exact hk); ⟨k₁, h1, h2⟩⟩
  | ret => exact ⟨_, a₁, w₁, hq, harr⟩
  | panic ch => exact ⟨_, a₁, w₁, hq, harr⟩
  | outgrown => exact ⟨_, a₁, w₁, hq, harr⟩

/-- What is shown of code that a walk has run. -/
def Ran (P : Program) (rd : Option Nat) (k : Code) (t : List Value) (D : List VDef) (H : Hp) (c : Ctl) (ex : Ex) (t' : List Value) (D' : List VDef) (H' : Hp) (c' : Ctl) : Prop :=
  (AllP c'.obl → AllP c.obl) ∧ (∀ i, domB H i = true → domB H' i = true) ∧
    (AllP c'.obl → (∀ l, rd = some l → domB H l = true) → ∀ (n0 : Nat) (A : Nat → Prop) (w0 : World) (β : Num) (a : Act) (w : World), RelA A w0 β D t H a w → k.wpIn (Fw (rd.map (blk β))) n0 P (Came A w0 β H ex t' D' H') a w)
theorem vscope_does {rd : Option Nat} {run : Code → List Value → List VDef → Hp → Ctl → Fin5} (hrun : ∀ k t D H c ex t' D' H' c', run k t D H c = some (ex, t', D', H', c') → Ran P rd k t D H c ex t' D' H' c') (b : Code) :
    ∀ (j : Nat) (k : Code) (t : List Value) (D : List VDef) (H : Hp) (c : Ctl) (ex : Ex) (t' : List Value) (D' : List VDef) (H' : Hp) (c' : Ctl), vscope run b j k t D H c = some (ex, t', D', H', c') →
    (AllP c'.obl → AllP c.obl) ∧ (∀ i, domB H i = true → domB H' i = true) ∧
    (AllP c'.obl → (∀ l, rd = some l → domB H l = true) → ∀ (n0 : Nat) (A : Nat → Prop) (w0 : World) (β : Num) (a : Act) (w : World), RelA A w0 β D t H a w → ScIn (Fw (rd.map (blk β))) n0 P b k (Came A w0 β H ex t' D' H') a w) := by
  intro j
  induction j with
  | zero => intro k t D H c ex t' D' H' c' h; cases h
  | succ j ih =>
    intro k t D H c ex t' D' H' c' h
    simp only [vscope] at h
    split at h
    · rename_i l t1 D1 H1 c1 hr
      obtain ⟨m1, d1, r1⟩ := hrun _ _ _ _ _ _ _ _ _ _ hr
      split at h
      · rename_i rest hf
        obtain ⟨m2, d2, r2⟩ := ih _ _ _ _ _ _ _ _ _ _ h
        refine ⟨fun z => m1 (m2 z), fun i hi => d2 i (d1 i hi), fun z hl n0 A w0 β a w hR => scIn_of (wpIn_mono (r1 (m2 z) hl n0 A w0 β a w hR) ?_)⟩
        rintro e a' w' ⟨rfl, β', hb, hR'⟩
        simp only [Ex.out, hf]
        have h2 := r2 z (fun l hl' => d1 l (hl l hl')) n0 A w0 β' a' w' hR'
        have hrd : rd.map (blk β') = rd.map (blk β) := by
          cases hrr : rd with
          | none => rfl
          | some l => simp only [Option.map_some, blk, hb l (hl l hrr)]
        rw [hrd] at h2
        intro b' k' cs' x1 x2 x3
        obtain ⟨e, a'', w'', ⟨he, β'', hb', hR''⟩, harr⟩ := h2 b' k' cs' x1 x2 x3
        exact ⟨e, a'', w'', ⟨he, β'', fun i hi => (hb' i (d1 i hi)).trans (hb i hi), hR''⟩, harr⟩
      · rename_i hf
        simp only [Option.some.injEq, Prod.mk.injEq] at h
        obtain ⟨rfl, rfl, rfl, rfl, rfl⟩ := h
        refine ⟨m1, d1, fun z hl n0 A w0 β a w hR => scIn_of (wpIn_mono (r1 z hl n0 A w0 β a w hR) ?_)⟩
        rintro e a' w' ⟨rfl, hR'⟩
        simp only [Ex.out, hf]
        exact ⟨rfl, hR'⟩
    · rename_i hne
      obtain ⟨m1, d1, r1⟩ := hrun _ _ _ _ _ _ _ _ _ _ h
      refine ⟨m1, d1, fun z hl n0 A w0 β a w hR => scIn_of (wpIn_mono (r1 z hl n0 A w0 β a w hR) ?_)⟩
      rintro e a' w' ⟨rfl, hR'⟩
      cases ex with
      | goto l => exact absurd h (hne _ _ _ _ _)
      | _ => exact ⟨rfl, hR'⟩

theorem vcode_does {call : CallF} (hcall : CallOK P call) (hmix : P.follows .mixedOrders = true) (rd : Option Nat) : ∀ (n : Nat) (k : Code) (t : List Value) (D : List VDef) (H : Hp) (c : Ctl) (ex : Ex) (t' : List Value) (D' : List VDef) (H' : Hp) (c' : Ctl), vcode P call rd n k t D H c = some (ex, t', D', H', c') →
    (AllP c'.obl → AllP c.obl) ∧ (∀ i, domB H i = true → domB H' i = true) ∧
    (AllP c'.obl → (∀ l, rd = some l → domB H l = true) → ∀ (n0 : Nat) (A : Nat → Prop) (w0 : World) (β : Num) (a : Act) (w : World), RelA A w0 β D t H a w → k.wpIn (Fw (rd.map (blk β))) n0 P (Came A w0 β H ex t' D' H') a w) := by
  intro n
  induction n using Nat.strongRecOn with
  | _ n ihs =>
  cases n with
  | zero => intro k t D H c ex t' D' H' c' h; cases h
  | succ n =>
    have ih := ihs n (Nat.lt_succ_self n)
    intro k t D H c ex t' D' H' c' h
    have hrdx : ∀ {G : Hp} {β β' : Num}, (∀ l, rd = some l → domB G l = true) → (∀ i, domB G i = true → β' i = β i) → rd.map (blk β') = rd.map (blk β) := fun hl hb => by
      cases hr : rd with
      | none => rfl
      | some l => simp only [Option.map_some, blk, hb l (hl l hr)]
    cases k with
    | skip =>
      simp only [vcode, Option.some.injEq, Prod.mk.injEq] at h
      obtain ⟨rfl, rfl, rfl, rfl, rfl⟩ := h
      exact ⟨id, fun _ h => h, fun _ _ n0 A w0 β a w hR => wpIn_skip ⟨rfl, β, fun _ _ => rfl, hR⟩⟩
    | label l =>
      simp only [vcode, Option.some.injEq, Prod.mk.injEq] at h
      obtain ⟨rfl, rfl, rfl, rfl, rfl⟩ := h
      exact ⟨id, fun _ h => h, fun _ _ n0 A w0 β a w hR => wpIn_label ⟨rfl, β, fun _ _ => rfl, hR⟩⟩
    | exit id' =>
      simp only [vcode, Option.some.injEq, Prod.mk.injEq] at h
      obtain ⟨rfl, rfl, rfl, rfl, rfl⟩ := h
      exact ⟨id, fun _ h => h, fun _ _ n0 A w0 β a w hR => wpIn_exit ⟨rfl, β, fun _ _ => rfl, hR⟩⟩
    | goto l =>
      simp only [vcode, Option.some.injEq, Prod.mk.injEq] at h
      obtain ⟨rfl, rfl, rfl, rfl, rfl⟩ := h
      exact ⟨id, fun _ h => h, fun _ _ n0 A w0 β a w hR => wpIn_goto ⟨rfl, β, fun _ _ => rfl, hR⟩⟩
    | ret =>
      simp only [vcode, Option.some.injEq, Prod.mk.injEq] at h
      obtain ⟨rfl, rfl, rfl, rfl, rfl⟩ := h
      exact ⟨id, fun _ h => h, fun _ _ n0 A w0 β a w hR => wpIn_ret ⟨rfl, β, fun _ _ => rfl, hR⟩⟩
    | region id' ops draw =>
      simp only [vcode] at h
      have hro : ∀ β : Num, rd.isSome = false → rd.map (blk β) = none := fun β hr => by cases rd with | none => rfl | some l => cases hr
      split at h
      · rename_i t1 D1 H1 c1 hr
        simp only [Option.some.injEq, Prod.mk.injEq] at h
        obtain ⟨rfl, rfl, rfl, rfl, rfl⟩ := h
        obtain ⟨v1, v2, v3⟩ := vregion_spec hcall hr
        exact ⟨v1, v2, fun x _ n0 A w0 β a w hR => v3 hmix x _ (hro β) n0 id' _ A w0 β a w hR (fun β' a' w' hb hR' => ⟨rfl, β', hb, hR'⟩)⟩
      · rename_i ch t1 D1 H1 c1 hr
        simp only [Option.some.injEq, Prod.mk.injEq] at h
        obtain ⟨rfl, rfl, rfl, rfl, rfl⟩ := h
        obtain ⟨v1, v2, v3⟩ := vregion_spec hcall hr
        exact ⟨v1, v2, fun x _ n0 A w0 β a w hR => v3 hmix x _ (hro β) n0 id' _ A w0 β a w hR (fun t2 β' a' w' hD hb hR' => ⟨rfl, β', hb, t2, hD, hR'⟩)⟩
      · cases h
    | seq x y =>
      simp only [vcode] at h
      split at h
      · rename_i t1 D1 H1 c1 hx
        obtain ⟨m1, d1, r1⟩ := ih _ _ _ _ _ _ _ _ _ _ hx
        obtain ⟨m2, d2, r2⟩ := ih _ _ _ _ _ _ _ _ _ _ h
        refine ⟨fun z => m1 (m2 z), fun i hi => d2 i (d1 i hi), fun z hl n0 A w0 β a w hR => wpIn_seq ?_⟩
        refine wpIn_mono (r1 (m2 z) hl n0 A w0 β a w hR) ?_
        rintro e a' w' ⟨rfl, β', hb, hR'⟩
        have h2 := r2 z (fun l hl' => d1 l (hl l hl')) n0 A w0 β' a' w' hR'
        rw [hrdx hl hb] at h2
        refine wpIn_mono h2 ?_
        rintro e a'' w'' ⟨rfl, β'', hb', hR''⟩
        exact ⟨rfl, β'', fun i hi => (hb' i (d1 i hi)).trans (hb i hi), hR''⟩
      · rename_i hne
        obtain ⟨m1, d1, r1⟩ := ih _ _ _ _ _ _ _ _ _ _ h
        refine ⟨m1, d1, fun z hl n0 A w0 β a w hR => wpIn_seq ?_⟩
        refine wpIn_mono (r1 z hl n0 A w0 β a w hR) ?_
        rintro e a' w' ⟨rfl, hR'⟩
        cases ex with
        | normal => exact absurd h (hne _ _ _ _)
        | _ => exact ⟨rfl, hR'⟩
    | cond o x y =>
      simp only [vcode] at h
      split at h
      · rename_i ho
        split at h
        · rename_i b hb
          have hvm := vdec_mono (b := b) (c := c)
          have hvf := vdec_fst (b := b) (c := c)
          generalize vdec b c = dc at h hvm hvf
          obtain ⟨d, c1⟩ := dc
          simp only at h hvm hvf
          obtain ⟨m1, d1, r1⟩ := ih _ _ _ _ _ _ _ _ _ _ h
          refine ⟨fun z => hvm (m1 z), d1, fun z hl n0 A w0 β a w hR => ?_⟩
          have hd := hvf (m1 z)
          subst hd
          exact wpIn_cond (by rw [hR.eval ho, hb]; rfl) (r1 z hl n0 A w0 β a w hR)
        · cases h
      · cases h
    | block id' b =>
      simp only [vcode] at h
      split at h
      · rename_i i t1 D1 H1 c1 hx
        obtain ⟨m1, d1, r1⟩ := ih _ _ _ _ _ _ _ _ _ _ hx
        split at h
        · rename_i hi
          simp only [Option.some.injEq, Prod.mk.injEq] at h
          obtain ⟨rfl, rfl, rfl, rfl, rfl⟩ := h
          refine ⟨m1, d1, fun z hl n0 A w0 β a w hR => wpIn_block (wpIn_mono (r1 z hl n0 A w0 β a w hR) ?_)⟩
          rintro e a' w' ⟨rfl, hR'⟩
          simp only [Ex.out, Exit.inBlock, if_pos hi]
          exact ⟨rfl, hR'⟩
        · rename_i hi
          simp only [Option.some.injEq, Prod.mk.injEq] at h
          obtain ⟨rfl, rfl, rfl, rfl, rfl⟩ := h
          refine ⟨m1, d1, fun z hl n0 A w0 β a w hR => wpIn_block (wpIn_mono (r1 z hl n0 A w0 β a w hR) ?_)⟩
          rintro e a' w' ⟨rfl, hR'⟩
          simp only [Ex.out, Exit.inBlock, if_neg hi]
          exact ⟨rfl, hR'⟩
      · rename_i hne
        obtain ⟨m1, d1, r1⟩ := ih _ _ _ _ _ _ _ _ _ _ h
        refine ⟨m1, d1, fun z hl n0 A w0 β a w hR => wpIn_block (wpIn_mono (r1 z hl n0 A w0 β a w hR) ?_)⟩
        rintro e a' w' ⟨rfl, hR'⟩
        cases ex with
        | exit i => exact absurd h (hne _ _ _ _ _)
        | _ => exact ⟨rfl, hR'⟩
    | loop b =>
      have h' := h
      simp only [vcode] at h'
      have front : (AllP c'.obl → AllP c.obl) ∧ (∀ i, domB H i = true → domB H' i = true) := by
        split at h'
        · rename_i t1 D1 H1 c1 hx
          obtain ⟨m1, d1, -⟩ := ih _ _ _ _ _ _ _ _ _ _ hx
          obtain ⟨m2, d2, -⟩ := ih _ _ _ _ _ _ _ _ _ _ h'
          exact ⟨fun z => m1 (m2 z), fun i hi => d2 i (d1 i hi)⟩
        · obtain ⟨m1, d1, -⟩ := ih _ _ _ _ _ _ _ _ _ _ h'
          exact ⟨m1, d1⟩
      refine ⟨front.1, front.2, fun z hl n0 A w0 β a w hR => ?_⟩
      refine wpIn_loop_by (fun m a w => ∃ t1 D1 H1 c1 β1, vcode P call rd m (.loop b) t1 D1 H1 c1 = some (ex, t', D', H', c') ∧ m ≤ n + 1 ∧ RelA A w0 β1 D1 t1 H1 a w ∧ ∀ i, domB H i = true → domB H1 i = true ∧ β1 i = β i)
        ⟨t, D, H, c, β, h, Nat.le_refl _, hR, fun i hi => ⟨hi, rfl⟩⟩ ?_
      rintro m a w ⟨t1, D1, H1, c1, β1, hv, hm, hR1, hx1⟩
      have hl1 : ∀ l, rd = some l → domB H1 l = true := fun l hr => (hx1 l (hl l hr)).1
      have hrd1 : rd.map (blk β1) = rd.map (blk β) := hrdx hl (fun i hi => (hx1 i hi).2)
      cases m with
      | zero => cases hv
      | succ k =>
        have ihk := ihs k (by omega)
        simp only [vcode] at hv
        split at hv
        · rename_i t2 D2 H2 c2 hx
          obtain ⟨m1, d1, r1⟩ := ihk _ _ _ _ _ _ _ _ _ _ hx
          obtain ⟨m2, -, -⟩ := ihk _ _ _ _ _ _ _ _ _ _ hv
          have h1 := r1 (m2 z) hl1 n0 A w0 β1 a w hR1
          rw [hrd1] at h1
          refine wpIn_mono h1 ?_
          rintro e a' w' ⟨rfl, β', hb, hR'⟩
          exact ⟨k, Nat.lt_succ_self k, t2, D2, H2, c2, β', hv, by omega, hR', fun i hi => ⟨d1 i (hx1 i hi).1, (hb i (hx1 i hi).1).trans (hx1 i hi).2⟩⟩
        · rename_i hne
          obtain ⟨m1, d1, r1⟩ := ihk _ _ _ _ _ _ _ _ _ _ hv
          have h1 := r1 z hl1 n0 A w0 β1 a w hR1
          rw [hrd1] at h1
          refine wpIn_mono h1 ?_
          rintro e a' w' ⟨rfl, β', hb, hR'⟩
          have hc : Came A w0 β H ex t' D' H' ex.out a' w' := ⟨rfl, β', fun i hi => (hb i (hx1 i hi).1).trans (hx1 i hi).2, hR'⟩
          cases ex with
          | normal => exact absurd hv (hne _ _ _ _)
          | _ => exact hc
    | scope b =>
      simp only [vcode] at h
      obtain ⟨m1, d1, r1⟩ := vscope_does (P := P) (rd := rd) (run := vcode P call rd n) (fun k t D H c ex t' D' H' c' h => ih k t D H c ex t' D' H' c' h) b _ _ _ _ _ _ _ _ _ _ _ h
      exact ⟨m1, d1, fun z hl n0 A w0 β a w hR => wpIn_scope_of (r1 z hl n0 A w0 β a w hR)⟩
    | rangeFunc g ps assign body =>
      simp only [vcode] at h
      split at h
      case isFalse => cases h
      rename_i hg
      split at h
      case h_2 => cases h
      rename_i f first cap hgv
      split at h
      case isFalse => cases h
      rename_i hbody
      split at h
      case h_2 => cases h
      rename_i H1 l M c1 hen
      split at h
      case h_2 => cases h
      rename_i m Hr c2 hvc
      split at h
      case h_2 => cases h
      rename_i hmp
      split at h
      case h_2 => cases h
      rename_i r hlr
      split at h
      case isTrue => cases h
      rename_i hbusy
      obtain ⟨n1, n2, n3, n4, n5⟩ := venter_spec (P := P) hen
      obtain ⟨s1, s2, s3, s4, s5⟩ := vcall_spec hcall hvc
      -- what comes behind the loop
      have hd2 : ∀ i, domB H i = true → domB (hput (merge m.set H1) l (.loop { r with state := .exhausted })) i = true := fun i hi => by
        rw [domB_hput, domB_merge, n2 i hi]; simp
      have main : AllP c2.obl → ∀ (n0 : Nat) (A : Nat → Prop) (w0 : World) (β : Num) (a : Act) (w : World) (Q : Exit → Act → World → Prop), RelA A w0 β D t H a w →
          (∀ β2 a4 w4, (∀ i, domB H i = true → β2 i = β i) → RelA A w0 β2 (M ++ D) t (hput (merge m.set H1) l (.loop { r with state := .exhausted })) a4 w4 →
            (r.pending = none → Q .normal a4 w4) ∧ ∀ k, r.pending = some k → k.wpIn (Fw (rd.map (blk β))) n0 P Q a4 w4) → (Code.rangeFunc g ps assign body).wpIn (Fw (rd.map (blk β))) n0 P Q a w := by
        intro z n0 A w0 β a w Q hR hQ
        obtain ⟨rs, H2, hcv, hmr, hms, hcl2, hclr, hdom1, hwr⟩ := s5 z
        refine wpIn_rangeFunc (fun fn _ => ?_)
        obtain ⟨β1, w1, hb1, hrun, hR1⟩ := n5 A w0 β D a w hR fn
        rw [Fw_round]
        have hga : a.eval g = .func (.func f) (renA β first) (renA β cap) := by rw [hR.eval hg, hgv]; rfl
        have hgw := vev_wf hR.wt hg
        rw [hgv] at hgw
        simp only [wfV, Bool.and_eq_true] at hgw
        refine ⟨(β1 l).1, M.map (renD β1), w1, { target := .fn (.func f) (renA β cap), args := renA β first ++ #[.func (.yield (β1 l).1) #[] #[]] }, w1, f, renA β1 (first ++ #[.func (.yield l) #[] #[]] ++ cap), w1, hrun, ?_, fun _ _ => Fw_fn _ _, ?_, (fun h0 => (by rw [Fw_depth] at h0; cases h0)), ?_⟩
        · simp only [resolve, rangeCall, hga, Deferred.ofValue]
          simp [Act.eval]
        · simp only [invoke]
          rw [callFunc_run hbody, renA_map, renA_map, renA_map, Array.map_append, Array.map_append]
          have ef := renA_congr hb1 first hgw.1.2
          have ec := renA_congr hb1 cap hgw.2
          rw [renA_map, renA_map] at ef ec
          rw [ef, ec]
          simp [ren, renF, renA, renL]
        · have hcv1 := hcv β1 w1 (hR1.sub s2 hclr)
          refine Fw_calls (hcv1.mono ?_)
          rintro e w2 ⟨β', hx, rfl, hk⟩
          have hk2 := hk.part hms hcl2
          obtain ⟨hbk1, hbk2⟩ := hR1.back s2 hk2 hx hdom1 (fun i hi => s3 i hi)
          cases rs with
          | pan ch => rw [hmr] at hmp; cases hmp
          | ret v =>
            simp only [Res.out, rangePost]
            generalize hβ2 : (fun i => if domB H1 i = true then β1 i else β' i) = β2 at hbk1 hbk2
            have hag : ∀ i, domB H1 i = true → β2 i = β1 i := fun i hi => by rw [← hβ2]; exact if_pos hi
            obtain ⟨fn', hfn', hrec⟩ := hbk1.lies l _ hlr
            rw [hag l n3] at hrec
            have hwfr := hbk1.wf l _ hlr
            have hend := run_endLoop (P := P) hrec (by simpa using hbusy)
            refine ⟨_, _, hend, ?_⟩
            have hR3 := hbk1.obj (b := l) (liveB_of hlr rfl) (winB_of hlr rfl) (o := .loop { r with state := .exhausted }) (x := .loop { r with state := .exhausted, fn := fn', tmps := renA β2 r.tmps, defers := (β2 r.defers).1 }) hwfr ⟨fn', hfn', rfl⟩
            rw [hag l n3] at hR3
            have hag2 : ∀ i, domB H i = true → β2 i = β i := fun i hi => (hag i (n2 i hi)).trans (hb1 i hi)
            have hmerge : ∀ i, domB H1 i = true → domB (hput (merge m.set H1) l (.loop { r with state := .exhausted })) i = true := fun i hi => by rw [domB_hput, domB_merge, hi]; simp
            have hRA : RelA A w0 β2 (M ++ D) t (hput (merge m.set H1) l (.loop { r with state := .exhausted })) { a with defers := M.map (renD β1) ++ a.defers } _ :=
              ⟨by rw [renL_congr hag2 t hR.wt]; exact hR.tm, by
                show M.map (renD β1) ++ a.defers = _
                rw [List.map_append, hR.df, renDs_congr hag2 hR.wd, renDs_congr hag n4], wfL_mono hd2 t hR.wt, by
                unfold wfDs
                rw [List.all_append, Bool.and_eq_true]
                exact ⟨wfDs_mono hmerge n4, wfDs_mono hd2 hR.wd⟩, hR3⟩
            have hq := hQ β2 _ _ hag2 hRA
            clear hRA hR3 hend hwfr hrec
            revert hq
            generalize w2.putObj (β1 l).1 _ = W4
            rintro ⟨q1, q2⟩
            show match r.pending with
              | none => Q .normal _ W4
              | some c => c.wpIn (Fw (rd.map (blk β))) n0 P Q _ W4
            cases hp : r.pending with
            | none => exact q1 hp
            | some k => exact q2 k hp
      split at h
      · rename_i hpend
        simp only [Option.some.injEq, Prod.mk.injEq] at h
        obtain ⟨rfl, rfl, rfl, rfl, rfl⟩ := h
        refine ⟨fun z => by rw [← n1]; exact s1 z, hd2, fun z hl n0 A w0 β a w hR => main z n0 A w0 β a w _ hR (fun β2 a4 w4 hb hRA => ?_)⟩
        exact ⟨fun _ => ⟨rfl, β2, hb, hRA⟩, fun k hk => (by rw [hpend] at hk; cases hk)⟩
      · rename_i k hpend
        obtain ⟨m1, d1, r1⟩ := ih _ _ _ _ _ _ _ _ _ _ h
        refine ⟨fun z => by rw [← n1]; exact s1 (m1 z), fun i hi => d1 i (hd2 i hi), fun z hl n0 A w0 β a w hR => main (m1 z) n0 A w0 β a w _ hR (fun β2 a4 w4 hb hRA => ?_)⟩
        refine ⟨fun hk => (by rw [hpend] at hk; cases hk), fun k' hk => ?_⟩
        have hkk : k' = k := by rw [hpend] at hk; cases hk; rfl
        subst hkk
        have h2 := r1 z (fun l hr => hd2 l (hl l hr)) n0 A w0 β2 a4 w4 hRA
        rw [hrdx hl hb] at h2
        refine wpIn_mono h2 ?_
        rintro e a'' w'' ⟨rfl, β'', hb', hR''⟩
        exact ⟨rfl, β'', fun i hi => (hb' i (hd2 i hi)).trans (hb i hi), hR''⟩
    | _ => cases h

/-- A variable's value. -/
def vload (P : Program) (H : Hp) (ty : TypeId) (x : Value) : Option Value :=
  match veff P H (fun _ => x) { dst := none, op := .load ty (.tmp 0), type := 0, pos := "", after := #[], guard := none } with
  | some (.val v) => some v
  | _ => none
theorem vload_run {A : Nat → Prop} {w0 : World} {β : Num} {H : Hp} {w : World} (hR : Rel A w0 β H w) {ty : TypeId} {x v : Value} (h : vload P H ty x = some v) :
    (do loadVar ty (← asAddr (ren β x))).run P w = .ok (ren β v) w := by
  unfold vload at h
  split at h
  · rename_i u hu
    simp only [Option.some.injEq] at h
    subst h
    have hrun := eff_run (ρ' := fun _ => ren β x) hR hu (fun _ _ => rfl)
    simp only [EffRun, execOp, Instr.loadAt] at hrun
    cases x with
    | pointer p =>
      cases p with
      | none => simp [ren, Instr.sureAddr, Sem.run_bind] at hrun
      | some a =>
        simp only [ren, Instr.sureAddr, Sem.run_bind, Sem.run_pure, Result.andThen_ok, asAddr] at hrun ⊢
        cases hl : (loadVar ty (renP β a)).run P w with
        | ok y w1 =>
          rw [hl] at hrun
          simp only [Result.andThen_ok, Sem.run_pure, Result.ok.injEq, Next.value.injEq] at hrun
          obtain ⟨rfl, rfl⟩ := hrun
          rfl
        | halt y w1 => rw [hl] at hrun; cases hrun
    | _ => simp only [veff] at hu; cases hu
  · cases h

def vres1 (P : Program) (t : List Value) (H : Hp) : ResultVar → Option Value
  | .tmp i => some (t.getD i undef)
  | .cell a ty => vload P H ty (t.getD a undef)
def vresL (P : Program) (t : List Value) (H : Hp) : List ResultVar → Option (List Value)
  | [] => some []
  | r :: l =>
    match vres1 P t H r with
    | some v =>
      match vresL P t H l with
      | some vs => some (v :: vs)
      | none => none
    | none => none
/-- What a function hands back. -/
def vresults (P : Program) (fn : Func) (t : List Value) (H : Hp) : Option Value :=
  match vresL P t H fn.results.toList with
  | some [v] => some v
  | some vs => some (.tuple vs.toArray)
  | none => none
theorem getD_ren (β : Num) (t : List Value) (i : Nat) : (renL β t).toArray.getD i undef = ren β (t.getD i undef) := by
  simp only [renL_map, List.getD_eq_getElem?_getD, Array.getD_eq_getD_getElem?, List.getElem?_toArray, List.getElem?_map]
  cases t[i]? <;> rfl
def res1 (T : Array Value) (r : ResultVar) : Sem Value :=
  match r with
  | .tmp i => pure (T.getD i undef)
  | .cell a ty => do loadVar ty (← asAddr (T.getD a undef))
theorem vresL_run {A : Nat → Prop} {w0 : World} {β : Num} {t : List Value} {H : Hp} {w : World} (hR : Rel A w0 β H w) : ∀ (l : List ResultVar) (vs : List Value), vresL P t H l = some vs →
    (l.mapM (res1 (renL β t).toArray)).run P w = .ok (renL β vs) w
  | [], vs, h => by
    simp only [vresL, Option.some.injEq] at h
    subst h
    rfl
  | r :: l, vs, h => by
    simp only [vresL] at h
    split at h
    · rename_i v hv
      split at h
      · rename_i us hus
        simp only [Option.some.injEq] at h
        subst h
        have ih := vresL_run hR l us hus
        rw [List.mapM_cons, Sem.run_bind]
        have h1 : (res1 (renL β t).toArray r).run P w = .ok (ren β v) w := by
          cases r with
          | tmp i =>
            simp only [vres1, Option.some.injEq] at hv
            subst hv
            simp only [res1, getD_ren]
            rfl
          | cell a ty =>
            simp only [vres1] at hv
            simp only [res1, getD_ren]
            exact vload_run hR hv
        rw [h1, Result.andThen_ok, Sem.run_bind, ih]
        rfl
      · cases h
    · cases h
theorem vresults_run {A : Nat → Prop} {w0 : World} {β : Num} {t : List Value} {H : Hp} {w : World} (hR : Rel A w0 β H w) {fn : Func} {v : Value} (h : vresults P fn t H = some v) :
    (results fn (renL β t).toArray).run P w = .ok (ren β v) w := by
  unfold results
  rw [Sem.run_bind, Array.mapM_eq_mapM_toList, Sem.run_map]
  change (((List.mapM (res1 (renL β t).toArray) fn.results.toList).run P w).andThen _).andThen _ = _
  unfold vresults at h
  cases hl : vresL P t H fn.results.toList with
  | none => rw [hl] at h; cases h
  | some vs =>
    rw [hl] at h
    rw [vresL_run (t := t) hR _ _ hl]
    simp only [Result.andThen_ok, Sem.run_pure]
    match vs, h with
    | [], h => simp only [Option.some.injEq] at h; subst h; rfl
    | [u], h => simp only [Option.some.injEq] at h; subst h; rfl
    | u :: u' :: us, h =>
      simp only [Option.some.injEq] at h
      subst h
      have hz : ¬ (renL β (u :: u' :: us)).toArray.size = 1 := by simp [renL]
      rw [dif_neg hz]
      rfl

end

end Go.Proofs.YtcjjckokaiobcaaDoor

/- A walk by computation: functions, what waits for their end, and rounds of loops. -/
namespace Go.Proofs.YtcjjckokaiobcaaDoor
open Go Go.RowKit
set_option linter.unusedSimpArgs false
set_option linter.unusedVariables false

section
variable {P : Program}

def recoverV (u : FrameMode) : Value × FrameMode :=
  match u with
  | .panicking ({ v, recovered := false, goexit := false } :: older) => (v, .panicking ({ v, recovered := true } :: older))
  | u => (.nilIface, u)
def isRecover (o : Oper) : Bool :=
  match o.guard, o.op with
  | none, .call { callee := .builtin .recover, args := ⟨[]⟩, .. } => true
  | _, _ => false
def vassign (ops : Array Oper) : List Nat → List Value → Option (List Value)
  | [], t => some t
  | i :: r, t =>
    match ops[i]? with
    | some o =>
      match o.guard, o.op with
      | none, .assign x => if opdOK x then vassign ops r (vput t o.dst (vev t x)) else none
      | none, .move x => if opdOK x then vassign ops r (vput t o.dst (vev t x)) else none
      | _, _ => none
    | none => none

theorem RelA.self {A : Nat → Prop} {w0 : World} {β : Num} {D : List VDef} {t : List Value} {H : Hp} {a : Act} {w : World} (h : RelA A w0 β D t H a w) (dst : Option Tmp) {v : Value} (hv : wfV (domB H) v = true) :
    RelA A w0 β D (vput t dst v) H (a.put dst (ren β v)) w := h.put (fun _ _ => rfl) (fun _ h => h) h.rel dst hv

theorem vassign_does {n : Nat} {ops : Array Oper} {Q : Exit → Act → List Frame → World → Prop} {cs : List Frame} : ∀ (is : List Nat) (t t' : List Value), vassign ops is t = some t' →
    ∀ (A : Nat → Prop) (w0 : World) (β : Num) (D : List VDef) (H : Hp) (a : Act) (w : World), RelA A w0 β D t H a w → (∀ a', RelA A w0 β D t' H a' w → Q .normal a' cs w) → wpOpsSIn Fence.wide n P ops Q is a cs w := by
  intro is
  induction is with
  | nil =>
    intro t t' h A w0 β D H a w hR hQ
    simp only [vassign, Option.some.injEq] at h
    subst h
    exact hQ a hR
  | cons i r ih =>
    intro t t' h A w0 β D H a w hR hQ
    simp only [vassign] at h
    split at h
    · rename_i o ho
      have key : ∀ x, o.guard = none → (o.op = .assign x ∨ o.op = .move x) → opdOK x = true → vassign ops r (vput t o.dst (vev t x)) = some t' → wpOpsSIn Fence.wide n P ops Q (i :: r) a cs w := by
        intro x hg hop hx hv
        simp only [wpOpsSIn, ho]
        refine ⟨fun _ _ => trivial, ?_⟩
        have hw : Region.wanted o (yielded ops a.tmps) = true := by unfold Region.wanted; rw [hg]
        rw [if_pos hw]
        have hrun : (execOp a.eval o).run P w = .ok (.value (ren β (vev t x))) w := by
          rw [← hR.eval hx]
          unfold execOp
          rcases hop with h | h <;> (rw [h]; rfl)
        rw [hrun]
        exact ih _ _ hv A w0 β D H _ w (hR.self o.dst (vev_wf hR.wt hx)) hQ
      split at h
      · rename_i x hg hop
        split at h
        · rename_i hx; exact key x hg (.inl hop) hx h
        · cases h
      · rename_i x hg hop
        split at h
        · rename_i hx; exact key x hg (.inr hop) hx h
        · cases h
      · cases h
    · cases h

def frame0 (fn : Func) (args : Array Value) : List Value := args.toList ++ List.replicate (fn.ntmps - args.size) undef
theorem frame0_rel {A : Nat → Prop} {w0 : World} {β : Num} {H : Hp} {w : World} {fn : Func} {args : Array Value} (hR : Rel A w0 β H w) (hargs : wfA (domB H) args = true) :
    RelA A w0 β [] (frame0 fn args) H { tmps := renA β args ++ Array.replicate (fn.ntmps - (renA β args).size) undef, defers := [] } w := by
  refine ⟨?_, rfl, ?_, rfl, hR⟩
  · have hsz : (renA β args).size = args.size := by rw [renA_map, Array.size_map]
    rw [hsz, renA_map, renL_map]
    apply Array.ext'
    simp only [frame0, List.map_append, List.map_replicate, Array.toList_append, Array.toList_map, Array.toList_replicate]
    rfl
  · rw [wfL_all]
    rw [wfA_list, wfL_all] at hargs
    intro x hx
    rcases List.mem_append.1 hx with hx | hx
    · exact hargs x hx
    · rw [List.eq_of_mem_replicate hx]; rfl

def exEnds : Ex → Bool
  | .normal => true
  | .ret => true
  | _ => false
/-- A function that is called at the end of another. -/
def vdcall (P : Program) (call : CallF) (m : Nat) (f : FuncId) (args : Array Value) (u : FrameMode) (H : Hp) (c : Ctl) : Option (FrameMode × Hp × Ctl) :=
  match P.funcs[f]? with
  | some fn =>
    match fn.body with
    | some (.seq (.region _ ops false) rest) =>
      match ops[0]? with
      | some o =>
        if isRecover o then
          if wfV noB (recoverV u).1 then
            match vassign ops (List.range' 1 (ops.size - 1)) (vput (frame0 fn args) o.dst (recoverV u).1) with
            | some t2 =>
              match vcode P call none m rest t2 [] H c with
              | some (ex, t3, [], H3, c3) => if exEnds ex && (vresults P fn t3 H3).isSome then some ((recoverV u).2, H3, c3) else none
              | _ => none
            | none => none
          else none
        else none
      | none => none
    | _ => none
  | none => none

theorem vdcall_does {call : CallF} (hcall : CallOK P call) (hmix : P.follows .mixedOrders = true) {m : Nat} {f : FuncId} {args : Array Value} {u : FrameMode} {H : Hp} {c : Ctl} {u' : FrameMode} {H' : Hp} {c' : Ctl}
    (h : vdcall P call m f args u H c = some (u', H', c')) : (AllP c'.obl → AllP c.obl) ∧ (∀ i, domB H i = true → domB H' i = true) ∧
    (AllP c'.obl → ∀ (n : Nat) (A : Nat → Prop) (w0 : World) (β : Num) (w : World), Rel A w0 β H w → wfA (domB H) args = true →
      CallsDIn Fence.wide n P f (renA β args) u w fun e u2 w' => (∃ v, e = .returned v) ∧ u2 = u' ∧ ∃ β', (∀ i, domB H i = true → β' i = β i) ∧ Rel A w0 β' H' w') := by
  unfold vdcall at h
  split at h
  case h_2 => cases h
  rename_i fn hf
  split at h
  case h_2 => cases h
  rename_i id ops rest hb
  split at h
  case h_2 => cases h
  rename_i o ho
  split at h
  case isFalse => cases h
  rename_i hrec
  split at h
  case isFalse => cases h
  rename_i hv0
  split at h
  case h_2 => cases h
  rename_i t2 hass
  split at h
  case h_2 => cases h
  rename_i ex t3 H3 c3 hv
  split at h
  case isFalse => cases h
  rename_i hend
  simp only [Option.some.injEq, Prod.mk.injEq] at h
  obtain ⟨rfl, rfl, rfl⟩ := h
  obtain ⟨m1, d1, r1⟩ := vcode_does hcall hmix none m _ _ _ _ _ _ _ _ _ _ hv
  refine ⟨m1, d1, fun z n A w0 β w hR hargs => callsDIn_of_wpSIn hf hb trivial (fun c₀ cs hu => wpSIn_seq (wpSIn_region ?_))⟩
  have hsz : 0 < ops.size := (Array.getElem?_eq_some_iff.1 ho).1
  have hrange : List.range ops.size = 0 :: List.range' 1 (ops.size - 1) := by
    rw [List.range_eq_range']
    obtain ⟨k, hk⟩ : ∃ k, ops.size = k + 1 := ⟨ops.size - 1, by omega⟩
    rw [hk, Nat.add_sub_cancel, List.range'_succ]
  rw [hrange]
  have hR0 := frame0_rel (fn := fn) hR hargs
  have hgo : o.guard = none ∧ ∀ a : Act, (execOp a.eval o).run P w = .ok .recover w := by
    obtain ⟨dst, op, type, pos, after, guard⟩ := o
    unfold isRecover at hrec
    simp only at hrec
    split at hrec
    · exact ⟨rfl, fun a => rfl⟩
    · cases hrec
  simp only [wpOpsSIn, ho]
  refine ⟨fun _ _ => trivial, ?_⟩
  have hw : ∀ y, Region.wanted o y = true := fun y => by unfold Region.wanted; rw [hgo.1]
  rw [if_pos (hw _), hgo.2]
  -- behind the recover
  have go : ∀ (cs' : List Frame), cs' = { c₀ with mode := (recoverV u).2 } :: cs →
      wpOpsSIn Fence.wide n P ops (Exit.thenS (rest.wpSIn Fence.wide n P (bodyPostS P fn c₀ cs fun e u2 w' => (∃ v, e = .returned v) ∧ u2 = (recoverV u).2 ∧ ∃ β', (∀ i, domB H i = true → β' i = β i) ∧ Rel A w0 β' H3 w')) (bodyPostS P fn c₀ cs fun e u2 w' => (∃ v, e = .returned v) ∧ u2 = (recoverV u).2 ∧ ∃ β', (∀ i, domB H i = true → β' i = β i) ∧ Rel A w0 β' H3 w'))
        (List.range' 1 (ops.size - 1)) (({ tmps := renA β args ++ Array.replicate (fn.ntmps - (renA β args).size) undef, defers := [] } : Act).put o.dst (recoverV u).1) cs' w := by
    rintro cs' rfl
    have hp := hR0.self o.dst (v := (recoverV u).1) (wfV_mono (p := noB) (fun _ h => (by cases h)) _ hv0)
    rw [ren_plain β hv0] at hp
    refine vassign_does _ _ _ hass A w0 β [] H _ w hp (fun a' hR' => ?_)
    refine wpSIn_of_wpIn rfl (wpIn_mono (r1 z (fun l hl => by cases hl) n A w0 β a' w hR') ?_)
    rintro e a'' w'' ⟨rfl, β', hb', hR0''⟩
    rw [Bool.and_eq_true] at hend
    have hR'' : RelA A w0 β' [] t3 H3 a'' w'' := by
      cases ex with
      | pan ch => cases hend.1
      | _ => exact hR0''
    obtain ⟨v, hres⟩ := Option.isSome_iff_exists.1 hend.2
    have hfin : a''.defers = [] ∧ ∃ u2, ({ c₀ with mode := (recoverV u).2 } :: cs : List Frame) = { c₀ with mode := u2 } :: cs ∧ ∃ v, (results fn a''.tmps).run P w'' = .ok v w'' ∧
        ((∃ v', Ending.returned v = .returned v') ∧ u2 = (recoverV u).2 ∧ ∃ β', (∀ i, domB H i = true → β' i = β i) ∧ Rel A w0 β' H3 w'') :=
      ⟨hR''.df, (recoverV u).2, rfl, ren β' v, by rw [hR''.tm]; exact vresults_run hR''.rel hres, ⟨_, rfl⟩, rfl, β', hb', hR''.rel⟩
    cases ex with
    | normal => exact hfin
    | ret => exact hfin
    | _ => cases hend.1
  have hrd : recoverD (c₀ :: cs) = match u with | .panicking ({ v, recovered := false, goexit := false } :: older) => some (v, { c₀ with mode := .panicking ({ v, recovered := true } :: older) } :: cs) | _ => none := by
    subst hu
    rfl
  have hc₀ : ({ c₀ with mode := u } : Frame) = c₀ := by subst hu; rfl
  simp only
  cases hr : recoverD (c₀ :: cs) with
  | none =>
    simp only
    have hnone : recoverV u = (.nilIface, u) := by
      rw [hr] at hrd
      unfold recoverV
      split
      · rename_i v older
        cases hrd
      · rfl
    have := go (c₀ :: cs) (by rw [hnone]; simp only; rw [hc₀])
    rw [hnone] at this ⊢
    exact this
  | some vc =>
    obtain ⟨v, cs'⟩ := vc
    simp only
    rw [hr] at hrd
    have hsome : ∃ older, u = .panicking ({ v, recovered := false, goexit := false } :: older) ∧ cs' = { c₀ with mode := .panicking ({ v, recovered := true } :: older) } :: cs := by
      split at hrd
      · rename_i v' older
        simp only [Option.some.injEq, Prod.mk.injEq] at hrd
        obtain ⟨rfl, rfl⟩ := hrd
        exact ⟨older, rfl, rfl⟩
      · cases hrd
    obtain ⟨older, hu2, hcs⟩ := hsome
    have e1 : recoverV u = (v, .panicking ({ v, recovered := true } :: older)) := by rw [hu2]; rfl
    have := go cs' (by rw [e1]; exact hcs)
    rw [e1] at this ⊢
    exact this

def vleave (P : Program) (call : CallF) (m : Nat) (fn : Func) (t : List Value) : List VDef → FrameMode → Hp → Ctl → Option (Res × Hp × Ctl)
  | [], .returning, H, c =>
    match vresults P fn t H with
    | some v => some (.ret v, H, c)
    | none => none
  | [], .panicking ch, H, c => some (.pan ch, H, c)
  | [], .run, _, _ => none
  | _ :: _, .run, _, _ => none
  | .mark r :: ds, u, H, c =>
    match look H r with
    | some (.deferred (some [])) => vleave P call m fn t ds u (hput H r (.deferred none)) c
    | _ => none
  | .fn f cap args :: ds, u, H, c =>
    if hasBody P f then
      match vdcall P call m f (args ++ cap) u H c with
      | some (u', H', c') => vleave P call m fn t ds (settle u') H' c'
      | none => none
    else none

theorem leavesInM_mono {n : Nat} {fn : Func} {tm : Array Value} {R R' : Ending → World → Prop} (hr : ∀ e w, R e w → R' e w) (ds : List Deferred) : ∀ (u : FrameMode) (w : World), LeavesInM Fence.wide n P fn tm R ds u w → LeavesInM Fence.wide n P fn tm R' ds u w := by
  induction ds with
  | nil =>
    intro u w h
    cases u with
    | run => exact h
    | returning => obtain ⟨v, h1, h2⟩ := h; exact ⟨v, h1, hr _ _ h2⟩
    | panicking ch => exact hr _ _ h
  | cons d ds ih =>
    rintro u w ⟨h0, h⟩
    refine ⟨h0, ?_⟩
    rcases h with ⟨r, w', h1, h2, h3⟩ | ⟨h1, fv, cap, f, args, h2, h3, h4, h5⟩
    · exact .inl ⟨r, w', h1, h2, ih _ _ h3⟩
    · refine .inr ⟨h1, fv, cap, f, args, h2, h3, h4, CallsDIn.mono h5 (fun e u' w' he => ?_)⟩
      cases e with
      | returned v => exact ih _ _ he
      | panicked ch => exact ih _ _ he
      | outgrown => exact hr _ _ he

theorem vleave_does {call : CallF} (hcall : CallOK P call) (hmix : P.follows .mixedOrders = true) {m : Nat} {fn : Func} {t : List Value} : ∀ (D : List VDef) (u : FrameMode) (H : Hp) (c : Ctl) (r : Res) (H' : Hp) (c' : Ctl), vleave P call m fn t D u H c = some (r, H', c') →
    (AllP c'.obl → AllP c.obl) ∧ (∀ i, domB H i = true → domB H' i = true) ∧
    (AllP c'.obl → ∀ (n : Nat) (A : Nat → Prop) (w0 : World) (β : Num) (w : World), Rel A w0 β H w → wfDs (domB H) D = true → wfL (domB H) t = true →
      LeavesInM Fence.wide n P fn (renL β t).toArray (fun e w' => ∃ β', (∀ i, domB H i = true → β' i = β i) ∧ e = r.out β' ∧ Rel A w0 β' H' w') (D.map (renD β)) u w) := by
  intro D
  induction D with
  | nil =>
    intro u H c r H' c' h
    cases u with
    | run => cases h
    | returning =>
      simp only [vleave] at h
      split at h
      · rename_i v hres
        simp only [Option.some.injEq, Prod.mk.injEq] at h
        obtain ⟨rfl, rfl, rfl⟩ := h
        exact ⟨id, fun _ h => h, fun _ n A w0 β w hR _ ht => ⟨ren β v, vresults_run hR hres, β, fun _ _ => rfl, rfl, hR⟩⟩
      · cases h
    | panicking ch =>
      simp only [vleave, Option.some.injEq, Prod.mk.injEq] at h
      obtain ⟨rfl, rfl, rfl⟩ := h
      exact ⟨id, fun _ h => h, fun _ n A w0 β w hR _ ht => ⟨β, fun _ _ => rfl, rfl, hR⟩⟩
  | cons d ds ih =>
    intro u H c r H' c' h
    have hnr : u ≠ .run := by rintro rfl; cases d <;> cases h
    cases d with
    | mark b =>
      have h2 : (match look H b with
          | some (.deferred (some [])) => vleave P call m fn t ds u (hput H b (.deferred none)) c
          | _ => none) = some (r, H', c') := by
        cases u with
        | run => exact absurd rfl hnr
        | returning => exact h
        | panicking ch => exact h
      clear h
      split at h2
      · rename_i hl
        obtain ⟨m1, d1, r1⟩ := ih _ _ _ _ _ _ h2
        have hdom : ∀ i, domB H i = true → domB (hput H b (.deferred none)) i = true := fun i hi => by rw [domB_hput, hi, Bool.or_true]
        refine ⟨m1, fun i hi => d1 i (hdom i hi), fun z n A w0 β w hR hwd hwt => ?_⟩
        have hlies : w.heap[(β b).1]? = some (.deferred (some [])) := hR.lies b _ hl
        have hR2 := hR.obj (b := b) (liveB_of hl rfl) (winB_of hl rfl) (o := .deferred none) (x := .deferred none) rfl rfl
        unfold wfDs at hwd
        rw [List.all_cons, Bool.and_eq_true] at hwd
        have := r1 z n A w0 β _ hR2 (wfDs_mono hdom hwd.2) (wfL_mono hdom _ hwt)
        refine ⟨hnr, .inl ⟨(β b).1, _, rfl, run_takeDeferred hlies, ?_⟩⟩
        refine leavesInM_mono ?_ _ _ _ this
        rintro e w' ⟨β', hb, he, hR'⟩
        exact ⟨β', fun i hi => hb i (hdom i hi), he, hR'⟩
      · cases h2
    | fn f cap args =>
      have h2 : (if hasBody P f then
          match vdcall P call m f (args ++ cap) u H c with
          | some (u', H', c') => vleave P call m fn t ds (settle u') H' c'
          | none => none
        else none) = some (r, H', c') := by
        cases u with
        | run => exact absurd rfl hnr
        | returning => exact h
        | panicking ch => exact h
      clear h
      split at h2
      case isFalse => cases h2
      rename_i hbody
      split at h2
      case h_2 => cases h2
      rename_i u1 H1 c1 hd
      obtain ⟨a1, a2, a3⟩ := vdcall_does hcall hmix hd
      obtain ⟨m1, d1, r1⟩ := ih _ _ _ _ _ _ h2
      refine ⟨fun z => a1 (m1 z), fun i hi => d1 i (a2 i hi), fun z n A w0 β w hR hwd hwt => ?_⟩
      unfold wfDs at hwd
      rw [List.all_cons, Bool.and_eq_true] at hwd
      have hwa := hwd.1
      simp only [wfD, Bool.and_eq_true] at hwa
      have happ : wfA (domB H) (args ++ cap) = true := by
        rw [wfA_list, wfL_all] at *
        intro v hv
        rw [Array.toList_append, List.mem_append] at hv
        exact hv.elim (((wfL_all _ _).1 (by rw [← wfA_list]; exact hwa.2)) v) (hwa.1 v)
      refine ⟨hnr, .inr ⟨(fun h0 => (by cases h0)), .func f, renA β cap, f, renA β (args ++ cap), rfl, ?_, fun _ _ => trivial, ?_⟩⟩
      · show (callFunc f (renA β args ++ renA β cap)).run P w = _
        rw [callFunc_run hbody, renA_map, renA_map, renA_map, Array.map_append]
      · refine CallsDIn.mono (a3 (m1 z) (n - 1) A w0 β w hR happ) ?_
        rintro e u2 w' ⟨⟨v, rfl⟩, rfl, β', hb, hR'⟩
        have := r1 z n A w0 β' w' hR' (wfDs_mono a2 hwd.2) (wfL_mono a2 _ hwt)
        rw [renL_congr hb t hwt, renDs_congr hb hwd.2] at this
        refine leavesInM_mono ?_ _ _ _ this
        rintro e w'' ⟨β'', hb', he, hR''⟩
        exact ⟨β'', fun i hi => (hb' i (a2 i hi)).trans (hb i hi), he, hR''⟩
end

end Go.Proofs.YtcjjckokaiobcaaDoor

/- A walk by computation: a panic out of a region that draws its order, where new blocks may have been made ahead of it. -/
namespace Go.Proofs.YtcjjckokaiobcaaDoor
open Go Go.RowKit
set_option linter.unusedSimpArgs false
set_option linter.unusedVariables false

section
variable {P : Program} {ops : Array Oper}

/-- What may come ahead of a panic that stands ahead of it in the text. -/
def extOp : Op → Bool
  | .alloc _ => true
  | .load _ _ => true
  | .fieldAddr _ _ _ => true
  | .indexAddr _ _ _ => true
  | .extract _ _ => true
  | .move _ => true
  | _ => false
/-- What stands behind the panic in the text and may come ahead of it. -/
def vexts (P : Program) (ops : Array Oper) (t : List Value) (H : Hp) (l : List Stp) (p : Nat) : List Nat → List Stp → Nat → Option (List Stp)
  | [], acc, _ => some acc
  | k :: r, acc, n =>
    if beforeB ops 40 p k then vexts P ops t H l p r acc n
    else
      match ops[k]? with
      | some o =>
        if o.guard.isNone && extOp o.op && o.op.operands.toList.all opdOK then
          match veffM P (foldH (l ++ acc) (fun j => decide (j < k)) H) (foldT (l ++ acc) (fun j => decide (j < k)) t) o { n := n, orc := [], obl := [], log := [] } with
          | some (m, rr, c') => vexts P ops t H l p r (acc ++ [⟨k, o, m, rr⟩]) c'.n
          | none => none
        else none
      | none => none
theorem foldT_cut (f : Nat → Bool) : ∀ (a b : List Stp) (t : List Value), (∀ x ∈ b, f x.i = false) → foldT (a ++ b) f t = foldT a f t
  | [], b, t, h => by
    induction b generalizing t with
    | nil => rfl
    | cons x r ih =>
      have hx : f x.i = false := h x List.mem_cons_self
      have e : foldT (x :: r) f t = foldT r f t := by simp only [foldT, hx, Bool.false_eq_true, if_false]
      exact e.trans (ih t (fun y hy => h y (List.mem_cons_of_mem _ hy)))
  | x :: a, b, t, h => by rw [List.cons_append, foldT, foldT]; exact foldT_cut f a b _ h
theorem foldH_cut (f : Nat → Bool) : ∀ (a b : List Stp) (t : Hp), (∀ x ∈ b, f x.i = false) → foldH (a ++ b) f t = foldH a f t
  | [], b, t, h => by
    induction b generalizing t with
    | nil => rfl
    | cons x r ih =>
      have hx : f x.i = false := h x List.mem_cons_self
      have e : foldH (x :: r) f t = foldH r f t := by simp only [foldH, hx, Bool.false_eq_true, if_false]
      exact e.trans (ih t (fun y hy => h y (List.mem_cons_of_mem _ hy)))
  | x :: a, b, t, h => by rw [List.cons_append, foldH, foldH]; exact foldH_cut f a b _ h
theorem vexts_spec {t : List Value} {H : Hp} {l : List Stp} {p : Nat} : ∀ (is : List Nat) (acc : List Stp) (n : Nat) (ex : List Stp), is.Pairwise (· < ·) → vexts P ops t H l p is acc n = some ex →
    ∃ tl, ex = acc ++ tl ∧ (∀ e ∈ tl, e.i ∈ is ∧ ops[e.i]? = some e.o ∧ Sub e.r (foldH (l ++ ex) (fun j => decide (j < e.i)) H) ∧ MicDoes P ops e.o (foldT (l ++ ex) (fun j => decide (j < e.i)) t) e.r e.m) ∧
      (∀ k ∈ is, beforeB ops 40 p k = true ∨ ∃ e ∈ tl, e.i = k) ∧ tl.Pairwise (fun a b => a.i < b.i) := by
  intro is
  induction is with
  | nil =>
    intro acc n ex _ h
    simp only [vexts, Option.some.injEq] at h
    subst h
    exact ⟨[], by simp, fun _ h => (by cases h), fun _ h => (by cases h), List.Pairwise.nil⟩
  | cons k r ih =>
    intro acc n ex hp h
    have hp2 := List.pairwise_cons.1 hp
    simp only [vexts] at h
    split at h
    · rename_i hb
      obtain ⟨tl, h0, h1, h2, h3⟩ := ih _ _ _ hp2.2 h
      refine ⟨tl, h0, fun e he => ?_, fun j hj => ?_, h3⟩
      · obtain ⟨a, b⟩ := h1 e he
        exact ⟨List.mem_cons_of_mem _ a, b⟩
      · rcases List.mem_cons.1 hj with hj1 | hj1
        · rw [hj1]; exact .inl hb
        · exact h2 j hj1
    · split at h
      case h_2 => cases h
      rename_i o ho
      split at h
      case isFalse => cases h
      rename_i hc
      simp only [Bool.and_eq_true, Option.isNone_iff_eq_none] at hc
      obtain ⟨⟨hg, -⟩, hall⟩ := hc
      split at h
      case h_2 => cases h
      rename_i m rr c' hm
      obtain ⟨tl, h0, h1, h2, h3⟩ := ih _ _ _ hp2.2 h
      obtain ⟨-, hsub, -, hd⟩ := veffM_does (ops := ops) hall hm
      have hw : Wants ops o (foldT (l ++ acc) (fun j => decide (j < k)) t) := fun a t' β _ _ => by unfold Region.wanted; rw [hg]
      have hmd := hd hw
      have hgt : ∀ x ∈ (⟨k, o, m, rr⟩ : Stp) :: tl, (fun j => decide (j < k)) x.i = false := fun x hx => by
        rcases List.mem_cons.1 hx with rfl | hx
        · simp
        · have := hp2.1 x.i (h1 x hx).1
          simp only [decide_eq_false_iff_not]
          omega
      have e0 : ex = acc ++ (⟨k, o, m, rr⟩ :: tl) := by rw [h0, List.append_assoc]; rfl
      refine ⟨⟨k, o, m, rr⟩ :: tl, e0, fun x hx => ?_, fun j hj => ?_, List.pairwise_cons.2 ⟨fun x hx => hp2.1 x.i (h1 x hx).1, h3⟩⟩
      · rcases List.mem_cons.1 hx with rfl | hx1
        · refine ⟨List.mem_cons_self, ho, ?_, ?_⟩
          · rw [e0, ← List.append_assoc, foldH_cut _ (l ++ acc) _ H hgt]; exact hsub
          · rw [e0, ← List.append_assoc, foldT_cut _ (l ++ acc) _ t hgt]; exact hmd
        · obtain ⟨a, b⟩ := h1 x hx1
          exact ⟨List.mem_cons_of_mem _ a, b⟩
      · rcases List.mem_cons.1 hj with hj1 | hj1
        · exact .inr ⟨_, List.mem_cons_self, hj1.symm⟩
        · rcases h2 j hj1 with h | ⟨x, hx, hx2⟩
          · exact .inl h
          · exact .inr ⟨x, List.mem_cons_of_mem _ hx, hx2⟩

def drawPOK (ops : Array Oper) (H H' : Hp) (l ex : List Stp) (p : Nat) : Bool :=
  drawOK ops H (l ++ ex) && (closedH H' && ((l.all fun e => e.i == p || e.m.set.isEmpty) && ((ex.all fun e => e.m.pan.isNone && (keys e.m.set).all fun k => !domB H' k && !domB (foldH (l ++ ex) (fun j => decide (j < e.i)) H) k) &&
    (List.range ops.size).all fun k => match ops[k]? with | some o => o.after.toList.all fun x => !Region.binds .any x || decide (x.on < k) | none => true)))
def vdrawP (P : Program) (call : CallF) (ops : Array Oper) (t : List Value) (H : Hp) (c : Ctl) : Option (List PanicEntry × Hp × Ctl) :=
  match vsteps P call ops (List.range ops.size) t [] H c with
  | some (l, .pan ch _ _ H' c') =>
    match l.getLast? with
    | some p =>
      match vexts P ops t H l p.i (List.range' (p.i + 1) (ops.size - (p.i + 1))) [] c'.n with
      | some ex => if drawPOK ops H H' l ex p.i then some (ch, H', c') else none
      | none => none
    | none => none
  | _ => none

theorem vdrawP_spec {call : CallF} (hcall : CallOK P call) {t : List Value} {H : Hp} {c : Ctl} {ch : List PanicEntry} {H' : Hp} {c' : Ctl} (h : vdrawP P call ops t H c = some (ch, H', c')) :
    (AllP c'.obl → AllP c.obl) ∧ (∀ i, domB H i = true → domB H' i = true) ∧ (AllP c'.obl → ∀ (ro : Option Nat) (n : Nat) (Q : Exit → Act → World → Prop) (A : Nat → Prop) (w0 : World) (β : Num) (a : Act) (w : World), RelA A w0 β [] t H a w →
      (∀ β' a' w', (∀ i, domB H i = true → β' i = β i) → a'.defers = [] → Rel A w0 β' H' w' → Q (.panic ch) a' w') → wpAnyIn (Fw ro) n P .any ops Q ops.size (Array.replicate ops.size false) a w) := by
  unfold vdrawP at h
  split at h
  case h_2 => cases h
  rename_i l ch1 t1 D1 H1 c1 hs
  split at h
  case h_2 => cases h
  rename_i p0 hlast
  split at h
  case h_2 => cases h
  rename_i ex hex
  split at h
  case isFalse => cases h
  rename_i hpk
  simp only [Option.some.injEq, Prod.mk.injEq] at h
  obtain ⟨rfl, rfl, rfl⟩ := h
  obtain ⟨hm1, ⟨rest, hidx⟩, hDD, ⟨l0, p, hl, hpp, hpn⟩, hH', hst⟩ := vsteps_specP hcall (List.range ops.size) t [] H c l ch1 t1 D1 H1 c1 List.pairwise_lt_range hs
  have hp0 : p0 = p := by
    rw [hl, List.getLast?_append] at hlast
    simpa using hlast.symm
  subst hp0
  refine ⟨hm1, fun i hi => by rw [hH']; exact foldH_dom i _ l H hi, fun hobl ro n Q A w0 β a w hR hQ => ?_⟩
  have hsort1 : l.Pairwise (fun a b => a.i < b.i) := by
    have := List.pairwise_lt_range (n := ops.size)
    rw [hidx] at this
    exact List.pairwise_map.1 (List.pairwise_append.1 this).1
  obtain ⟨tl, htl, x1, x2, x3⟩ := vexts_spec (P := P) _ _ _ _ List.pairwise_lt_range' hex
  rw [List.nil_append] at htl
  subst htl
  have hpl : p0 ∈ l := by rw [hl]; simp
  have hplast : ∀ e ∈ l, e.i ≤ p0.i := fun e he => by
    rw [hl] at he hsort1
    rcases List.mem_append.1 he with he | he
    · exact Nat.le_of_lt ((List.pairwise_append.1 hsort1).2.2 e he p0 (by simp))
    · rw [List.mem_singleton] at he; rw [he]; exact Nat.le_refl _
  have hexgt : ∀ e ∈ ex, p0.i < e.i := fun e he => by
    have := (x1 e he).1
    rw [List.mem_range'_1] at this
    omega
  obtain ⟨l2, hl2⟩ : ∃ l2, l ++ ex = l2 := ⟨_, rfl⟩
  have hsort : l2.Pairwise (fun a b => a.i < b.i) := by
    rw [← hl2]
    exact List.pairwise_append.2 ⟨hsort1, x3, fun a ha b hb => Nat.lt_of_le_of_lt (hplast a ha) (hexgt b hb)⟩
  unfold drawPOK at hpk
  rw [hl2] at hpk
  simp only [Bool.and_eq_true] at hpk
  obtain ⟨hok, hclosed, hset0, hex0, hlow0⟩ := hpk
  have hok2 := hok
  unfold drawOK at hok2
  simp only [Bool.and_eq_true] at hok2
  have hnod : ∀ e ∈ l2, e.m.dfr.isSome = false := fun e he => by
    have := List.all_eq_true.1 hok2.1.1.1 e he
    cases hx : e.m.dfr with
    | none => rfl
    | some d => rw [hx] at this; cases this
  have hset : ∀ e ∈ l, e.i ≠ p0.i → e.m.set = [] := fun e he hne => by
    have := List.all_eq_true.1 hset0 e he
    rw [beq_eq_false_iff_ne.2 hne, Bool.false_or] at this
    exact List.isEmpty_iff.1 this
  have hexk : ∀ e ∈ ex, e.m.pan = none ∧ ∀ k, domB e.m.set k = true → domB H1 k = false ∧ domB (foldH l2 (fun j => decide (j < e.i)) H) k = false := fun e he => by
    have := List.all_eq_true.1 hex0 e he
    rw [Bool.and_eq_true] at this
    refine ⟨by simpa using this.1, fun k hk => ?_⟩
    have h2 := List.all_eq_true.1 this.2 k (keys_dom hk)
    simpa using h2
  have hlow : ∀ (k : Nat) (o : Oper), ops[k]? = some o → ∀ x ∈ o.after, Region.binds .any x = true → x.on < k := fun k o ho x hx hb => by
    have := List.all_eq_true.1 hlow0 k (List.mem_range.2 (Array.getElem?_eq_some_iff.1 ho).1)
    rw [ho] at this
    have h1 := List.all_eq_true.1 this x (by simpa using hx)
    rw [hb] at h1
    simpa using h1
  have hin : ∀ e, e ∈ l2 ↔ e ∈ l ∨ e ∈ ex := fun e => by rw [← hl2, List.mem_append]
  have hlen : ∀ i, i < ops.size → beforeB ops 40 p0.i i = false → ∃ e ∈ l2, e.i = i := fun i hi hnb => by
    by_cases hle : i ≤ p0.i
    · have hm : i ∈ List.range ops.size := List.mem_range.2 hi
      have hw := List.pairwise_lt_range (n := ops.size)
      rw [hidx] at hm hw
      rcases List.mem_append.1 hm with hm | hm
      · obtain ⟨e, he, rfl⟩ := List.mem_map.1 hm
        exact ⟨e, (hin e).2 (.inl he), rfl⟩
      · have := (List.pairwise_append.1 hw).2.2 p0.i (List.mem_map_of_mem hpl) i hm
        omega
    · rcases x2 i (by rw [List.mem_range'_1]; omega) with h | ⟨e, he, h⟩
      · rw [hnb] at h; cases h
      · exact ⟨e, (hin e).2 (.inr he), h⟩
  have hpan : ∀ e ∈ l2, e.i ≠ p0.i → e.m.pan = none := fun e he hne => by
    rcases (hin e).1 he with he | he
    · rw [hl] at he
      rcases List.mem_append.1 he with he | he
      · exact hpn e he
      · rw [List.mem_singleton] at he; rw [he] at hne; exact absurd rfl hne
    · exact (hexk e he).1
  have hinj : ∀ e ∈ l2, ∀ s ∈ l2, e.i = s.i → e = s := by
    have key : ∀ (l : List Stp), l.Pairwise (fun a b => a.i < b.i) → ∀ e ∈ l, ∀ s ∈ l, e.i = s.i → e = s := by
      intro l
      induction l with
      | nil => intro _ e he; cases he
      | cons x r ih =>
        intro hp e he s hs heq
        have hp2 := List.pairwise_cons.1 hp
        rcases List.mem_cons.1 he with he1 | he1 <;> rcases List.mem_cons.1 hs with hs1 | hs1
        · rw [he1, hs1]
        · have := hp2.1 s hs1; rw [he1] at heq; omega
        · have := hp2.1 e he1; rw [hs1] at heq; omega
        · exact ih hp2.2 e he1 s hs1 heq
    exact key l2 hsort
  have hp2 : p0 ∈ l2 := (hin p0).2 (.inl hpl)
  have cutT : ∀ e ∈ l, ∀ t, foldT l2 (fun k => decide (k < e.i)) t = foldT l (fun k => decide (k < e.i)) t := fun e he t => by
    have key : ∀ (l : List Stp) (t : List Value), foldT (l ++ ex) (fun k => decide (k < e.i)) t = foldT l (fun k => decide (k < e.i)) t := by
      intro l
      induction l with
      | nil =>
        intro t
        have z : ∀ (ex : List Stp) (t : List Value), (∀ x ∈ ex, p0.i < x.i) → foldT ex (fun k => decide (k < e.i)) t = t := by
          intro ex
          induction ex with
          | nil => intro t _; rfl
          | cons x r ih =>
            intro t hx
            have := hx x List.mem_cons_self
            have := hplast e he
            rw [foldT, if_neg (by simp; omega)]
            exact ih _ (fun y hy => hx y (List.mem_cons_of_mem _ hy))
        exact z ex t hexgt
      | cons x r ih => intro t; rw [List.cons_append, foldT, foldT]; exact ih _
    rw [← hl2]; exact key l t
  have cutH : ∀ e ∈ l, ∀ t, foldH l2 (fun k => decide (k < e.i)) t = foldH l (fun k => decide (k < e.i)) t := fun e he t => by
    have key : ∀ (l : List Stp) (t : Hp), foldH (l ++ ex) (fun k => decide (k < e.i)) t = foldH l (fun k => decide (k < e.i)) t := by
      intro l
      induction l with
      | nil =>
        intro t
        have z : ∀ (ex : List Stp) (t : Hp), (∀ x ∈ ex, p0.i < x.i) → foldH ex (fun k => decide (k < e.i)) t = t := by
          intro ex
          induction ex with
          | nil => intro t _; rfl
          | cons x r ih =>
            intro t hx
            have := hx x List.mem_cons_self
            have := hplast e he
            rw [foldH, if_neg (by simp; omega)]
            exact ih _ (fun y hy => hx y (List.mem_cons_of_mem _ hy))
        exact z ex t hexgt
      | cons x r ih => intro t; rw [List.cons_append, foldH, foldH]; exact ih _
    rw [← hl2]; exact key l t
  have hst2 : ∀ e ∈ l2, ops[e.i]? = some e.o ∧ MicDoes P ops e.o (foldT l2 (fun k => decide (k < e.i)) t) e.r e.m ∧ Sub e.r (foldH l2 (fun k => decide (k < e.i)) H) ∧
      (∀ k, domB e.m.set k = true → domB e.r k = true ∨ domB (foldH l2 (fun k => decide (k < e.i)) H) k = false) := fun e he => by
    rcases (hin e).1 he with he | he
    · obtain ⟨a1, a2, a3, a4⟩ := hst e he
      rw [cutT e he, cutH e he]
      exact ⟨a1, a2 hobl, a3, a4⟩
    · obtain ⟨-, a1, a2, a3⟩ := x1 e he
      rw [hl2] at a2 a3
      exact ⟨a1, a3, a2, fun k hk => .inr ((hexk e he).2 k hk).2⟩
  have hops : ∀ e ∈ l2, ops[e.i]? = some e.o := fun e he => (hst2 e he).1
  refine wpAny_inv (fun L a w => L p0.i = false ∧ (∀ e ∈ l2, L e.i = true → e.i ≠ p0.i) ∧ ∃ β', (∀ i, domB H i = true → β' i = β i) ∧ RelA A w0 β' [] (foldT l2 L t) (foldH l2 L H) a w) ?_ (fun _ _ _ _ _ h => h) (fun k o ho x hx hb => hlow k o ho x hx hb) ?_ ops.size _ (fun _ => false) a w (by simp) (fun i => by
      by_cases hi : i < ops.size <;> simp [hi]) (fun _ _ h => (by cases h)) ?_ (Nat.le_trans (List.length_filter_le _ _) (by simp))
  · rintro L a w i o hD ⟨hLp, hLn, β', hext, hRL⟩ hLi ho hall
    have hisz := (Array.getElem?_eq_some_iff.1 ho).1
    have hnb : beforeB ops 40 p0.i i = false := by
      cases hb : beforeB ops 40 p0.i i with
      | false => rfl
      | true =>
        have := beforeB_down hD 40 p0.i i o ho hall hb
        rw [hLp] at this
        cases this
    obtain ⟨e, he, rfl⟩ := hlen i hisz hnb
    obtain ⟨ho', hdo, hsub, hfr⟩ := hst2 e he
    rw [ho] at ho'
    cases ho'
    have hodds : ∀ s ∈ l2, confl ops e s = true → L s.i = decide (s.i < e.i) := fun s hs hc => odds hok hops hD he hs hLi hall hc
    have hlook : ∀ k, k ∈ keys e.r ++ keys e.m.set → look (foldH l2 L H) k = look (foldH l2 (fun k => decide (k < e.i)) H) k := fun k hk =>
      foldH_look k _ _ l2 H H rfl (fun s hs hne => by
        cases hx : domB s.m.set k with
        | false => rfl
        | true =>
          refine absurd (hodds s hs ?_) hne
          unfold confl
          rw [hits_of (keys_dom hx) hk, Bool.or_true])
    refine hdo ro n Q _ A w0 β' [] _ _ a w e.i ho hRL (fun x hx => ?_) (fun k ob hk => ?_) (fun k hk => ?_) ?_ (fun hd => (by rw [hnod e he] at hd; cases hd)) (fun hpnone β'' a' w' hb hR' => ?_) (fun ch' hch β'' a' w' hb hR' => ?_)
    · refine foldT_get x _ _ l2 t t rfl rfl (fun s hs hne hd => hne (hodds s hs ?_))
      unfold confl
      have : (e.o.looksAt ops).contains x = true := by simpa using hx
      simp [hd, hx]
    · rw [hlook k (List.mem_append_left _ (keys_dom (domB_of hk)))]
      exact hsub k ob hk
    · rcases hfr k hk with h1 | h1
      · exact .inl h1
      · right
        unfold domB at h1 ⊢
        rw [hlook k (List.mem_append_right _ (keys_dom hk))]
        exact h1
    · have h3 := List.all_eq_true.1 hok2.2 e he
      refine wfV_mono (fun k hk => ?_) _ h3
      rw [domB_merge, Bool.or_eq_true]
      simp only [Bool.or_eq_true, List.any_eq_true, Bool.and_eq_true] at hk
      rcases hk with (hk | hk) | ⟨s, hs, hk, hbf⟩
      · exact .inl hk
      · exact .inr (foldH_dom k L l2 H hk)
      · exact .inr (foldH_dom_of k L s (beforeB_down hD 40 s.i e.i e.o ho hall hbf) hk l2 H hs)
    · have hnep : e.i ≠ p0.i := fun heq => by
        have := hinj e he p0 hp2 heq
        subst this
        rw [hpp] at hpnone
        cases hpnone
      refine ⟨?_, ?_, β'', fun i hi => by rw [hb i (foldH_dom i L l2 H hi), hext i hi], ?_⟩
      · simp only [addL]; rw [beq_eq_false_iff_ne.2 (fun h => hnep h.symm), hLp]; rfl
      · intro s hs hL heq
        simp only [addL, Bool.or_eq_true, beq_iff_eq] at hL
        rcases hL with hL | hL
        · exact hnep (by rw [← hL, heq])
        · rw [heq, hLp] at hL; cases hL
      have hne : l2.Pairwise (fun a b => a.i ≠ b.i) := hsort.imp (fun h => Nat.ne_of_lt h)
      have later : ∀ s ∈ l2, e.i < s.i → L s.i = true → confl ops s e = true → False := fun s hs hlt hL hc => by
        have h := drawOK_order hok hs he (Ne.symm (Nat.ne_of_lt hlt)) hc
        rw [if_pos hlt] at h
        have := beforeB_down hD 40 e.i s.i s.o (hops s hs) (hD s.i s.o hL (hops s hs)) h
        rw [hLi] at this
        cases this
      rw [foldT_add L e hLi l2 t hne he (fun s hs hlt hL x hx hd => later s hs hlt hL (by unfold confl; simp [hx, hd])) hsort]
      have hlk : ∀ k, look (foldH l2 (addL L e.i) H) k = look (merge e.m.set (foldH l2 L H)) k := fun k =>
        foldH_add k L e hLi l2 H hsort he (fun s hs hlt hL hx => by
          cases hx2 : domB s.m.set k with
          | false => rfl
          | true =>
            refine (later s hs hlt hL ?_).elim
            unfold confl
            rw [hits_of (keys_dom hx) (List.mem_append_right _ (keys_dom hx2)), Bool.or_true])
      have hd : ∀ k, domB (foldH l2 (addL L e.i) H) k = domB (merge e.m.set (foldH l2 L H)) k := fun k => by unfold domB; rw [hlk]
      have hdn : dadd e.m.dfr [] = [] := by
        cases hx : e.m.dfr with
        | none => rfl
        | some d => have := hnod e he; rw [hx] at this; cases this
      rw [hdn] at hR'
      exact ⟨hR'.tm, hR'.df, wfL_mono (fun k hk => by rw [hd]; exact hk) _ hR'.wt, wfDs_mono (fun k hk => by rw [hd]; exact hk) hR'.wd, hR'.rel.congr (fun _ _ => rfl) hlk⟩
    · have heq : e.i = p0.i := by
        by_cases hne : e.i = p0.i
        · exact hne
        · have := hpan e he hne
          rw [hch] at this
          cases this
      have hep := hinj e he p0 hp2 heq
      subst hep
      rw [hpp] at hch
      cases hch
      have hall0 : ∀ y, look (foldH l0 (fun _ => true) H) y = look H y := foldH_none _ l0 H (fun s hs _ => by
        refine hset s (by rw [hl]; exact List.mem_append_left _ hs) (fun heq => ?_)
        rw [hl] at hsort1
        have := (List.pairwise_append.1 hsort1).2.2 s hs e (by simp)
        omega)
      have h3 : ∀ (l0 : List Stp) (H : Hp), foldH (l0 ++ [e]) (fun _ => true) H = merge e.m.set (foldH l0 (fun _ => true) H) := by
        intro l0
        induction l0 with
        | nil => intro H; rfl
        | cons s r ih => intro H; rw [List.cons_append, foldH, foldH]; exact ih _
      have hsub2 : Sub H1 (merge e.m.set (foldH l2 L H)) := fun x ob hx => by
        have hx2 : look (merge e.m.set (foldH l0 (fun _ => true) H)) x = some ob := by rw [← h3, ← hl, ← hH']; exact hx
        rw [look_merge] at hx2 ⊢
        cases hm : look e.m.set x with
        | some y => rw [hm] at hx2; exact hx2
        | none =>
          rw [hm] at hx2
          simp only at hx2 ⊢
          rw [hall0 x] at hx2
          rw [← hx2]
          have hdx := domB_of hx
          have key : ∀ (l : List Stp) (G : Hp), (∀ s ∈ l, L s.i = true → domB s.m.set x = false) → look (foldH l L G) x = look G x := fun l G hk =>
            (foldH_look x L (fun _ => false) l G G rfl (fun s hs hne => by
              cases hL : L s.i with
              | true => exact hk s hs hL
              | false => exact absurd hL hne)).trans (by
                have z : ∀ (l : List Stp) (t : Hp), foldH l (fun _ => false) t = t := by
                  intro l
                  induction l with
                  | nil => intro t; rfl
                  | cons e r ih => intro t; rw [foldH]; exact ih _
                rw [z])
          refine key l2 H (fun s hs hL => ?_)
          rcases (hin s).1 hs with hs1 | hs1
          · rw [hset s hs1 (hLn s hs hL)]; rfl
          · cases hq : domB s.m.set x with
            | false => rfl
            | true =>
              have := ((hexk s hs1).2 x hq).1
              rw [hdx] at this
              cases this
      exact hQ β'' a' w' (fun i hi => by rw [hb i (foldH_dom i L l2 H hi), hext i hi]) (by rw [hR'.df]; rfl) (hR'.rel.part hsub2 hclosed)
  · rintro L a w ⟨hLp, -⟩ hall
    have hsz := (Array.getElem?_eq_some_iff.1 (hops p0 hp2)).1
    rw [hall p0.i hsz] at hLp
    cases hLp
  · have z1 : ∀ (l : List Stp) (t : List Value), foldT l (fun _ => false) t = t := by
      intro l
      induction l with
      | nil => intro t; rfl
      | cons e r ih => intro t; rw [foldT]; exact ih _
    have z2 : ∀ (l : List Stp) (t : Hp), foldH l (fun _ => false) t = t := by
      intro l
      induction l with
      | nil => intro t; rfl
      | cons e r ih => intro t; rw [foldH]; exact ih _
    exact ⟨rfl, fun _ _ h => (by cases h), β, fun _ _ => rfl, by rw [z1, z2]; exact hR⟩

/-- Code that ends in such a panic. -/
def vpan (P : Program) (call : CallF) (rd : Option Nat) (m : Nat) : Nat → Code → List Value → Hp → Ctl → Option (List PanicEntry × Hp × Ctl)
  | 0, _, _, _, _ => none
  | n + 1, k, t, H, c =>
    match k with
    | .region _ ops true => vdrawP P call ops t H c
    | .block _ b => vpan P call rd m n b t H c
    | .seq x y =>
      match vcode P call rd m x t [] H c with
      | some (.normal, t', [], H', c') => vpan P call rd m n y t' H' c'
      | some _ => none
      | none => vpan P call rd m n x t H c
    | _ => none
theorem vpan_spec {call : CallF} (hcall : CallOK P call) (hmix : P.follows .mixedOrders = true) (rd : Option Nat) (m : Nat) : ∀ (n : Nat) (k : Code) (t : List Value) (H : Hp) (c : Ctl) (ch : List PanicEntry) (H' : Hp) (c' : Ctl), vpan P call rd m n k t H c = some (ch, H', c') →
    (AllP c'.obl → AllP c.obl) ∧ (∀ i, domB H i = true → domB H' i = true) ∧ (AllP c'.obl → (∀ l, rd = some l → domB H l = true) → ∀ (n0 : Nat) (A : Nat → Prop) (w0 : World) (β : Num) (a : Act) (w : World), RelA A w0 β [] t H a w →
      k.wpIn (Fw (rd.map (blk β))) n0 P (fun e a' w' => e = .panic ch ∧ ∃ β', (∀ i, domB H i = true → β' i = β i) ∧ a'.defers = [] ∧ Rel A w0 β' H' w') a w) := by
  intro n
  induction n with
  | zero => intro k t H c ch H' c' h; cases h
  | succ n ih =>
    intro k t H c ch H' c' h
    simp only [vpan] at h
    split at h
    · rename_i id ops
      obtain ⟨v1, v2, v3⟩ := vdrawP_spec hcall h
      refine ⟨v1, v2, fun z _ n0 A w0 β a w hR => wpIn_region_any hmix ?_⟩
      refine v3 z (rd.map (blk β)) n0 _ A w0 β a w.drew ⟨hR.tm, hR.df, hR.wt, hR.wd, hR.rel.drew⟩ (fun β' a' w' hb hd hR' => ?_)
      exact ⟨rfl, β', hb, hd, hR'⟩
    · obtain ⟨v1, v2, v3⟩ := ih _ _ _ _ _ _ _ h
      refine ⟨v1, v2, fun z hl n0 A w0 β a w hR => wpIn_block (wpIn_mono (v3 z hl n0 A w0 β a w hR) ?_)⟩
      rintro e a' w' ⟨rfl, hR'⟩
      exact ⟨rfl, hR'⟩
    · rename_i x y
      split at h
      · rename_i t' H2 c2 hv
        obtain ⟨m1, d1, r1⟩ := vcode_does hcall hmix rd m _ _ _ _ _ _ _ _ _ _ hv
        obtain ⟨m2, d2, r2⟩ := ih _ _ _ _ _ _ _ h
        refine ⟨fun z => m1 (m2 z), fun i hi => d2 i (d1 i hi), fun z hl n0 A w0 β a w hR => wpIn_seq (wpIn_mono (r1 (m2 z) hl n0 A w0 β a w hR) ?_)⟩
        rintro e a' w' ⟨rfl, β', hb, hR'⟩
        have hrd : rd.map (blk β') = rd.map (blk β) := by
          cases hrr : rd with
          | none => rfl
          | some l => simp only [Option.map_some, blk, hb l (hl l hrr)]
        have h2 := r2 z (fun l hl' => d1 l (hl l hl')) n0 A w0 β' a' w' hR'
        rw [hrd] at h2
        refine wpIn_mono h2 ?_
        rintro e a'' w'' ⟨rfl, β'', hb', hd, hR''⟩
        exact ⟨rfl, β'', fun i hi => (hb' i (d1 i hi)).trans (hb i hi), hd, hR''⟩
      · cases h
      · obtain ⟨m2, d2, r2⟩ := ih _ _ _ _ _ _ _ h
        refine ⟨m2, d2, fun z hl n0 A w0 β a w hR => wpIn_seq (wpIn_mono (r2 z hl n0 A w0 β a w hR) ?_)⟩
        rintro e a' w' ⟨rfl, hR'⟩
        exact ⟨rfl, hR'⟩
    · cases h
end

end Go.Proofs.YtcjjckokaiobcaaDoor

/- A walk by computation: a function, whole. -/
namespace Go.Proofs.YtcjjckokaiobcaaDoor
open Go Go.RowKit
set_option linter.unusedSimpArgs false
set_option linter.unusedVariables false

section
variable {P : Program}

/-- What yield's temporaries are. -/
def yset (ps : List Nat) (args : List Value) (t : List Value) : List Value := (ps.zip args).foldl (fun t pv => t.set pv.1 pv.2) t
theorem yset_real (β : Num) : ∀ (ps : List Nat) (args t : List Value), (((ps.zip (renL β args)).foldl (fun (t : Array Value) (pv : Nat × Value) => t.setIfInBounds pv.1 pv.2) (renL β t).toArray)) = (renL β (yset ps args t)).toArray
  | [], _, _ => rfl
  | _ :: _, [], _ => rfl
  | p :: ps, v :: args, t => by
    simp only [renL, List.zip_cons_cons, List.foldl_cons, yset]
    have e : (renL β t).toArray.setIfInBounds p (ren β v) = (renL β (t.set p v)).toArray := by
      rw [renL_map, renL_map, List.map_set]
      simp
    rw [e]
    exact yset_real β ps args (t.set p v)
theorem yset_wf {q : Nat → Bool} : ∀ (ps : List Nat) (args t : List Value), wfL q args = true → wfL q t = true → wfL q (yset ps args t) = true
  | [], _, _, _, h => h
  | _ :: _, [], _, _, h => h
  | p :: ps, v :: args, t, ha, h => by
    simp only [wfL, Bool.and_eq_true] at ha
    simp only [yset, List.zip_cons_cons, List.foldl_cons]
    refine yset_wf ps args (t.set p v) ha.2 ?_
    rw [wfL_all] at h ⊢
    intro x hx
    rcases List.mem_or_eq_of_mem_set hx with hx | rfl
    · exact h x hx
    · exact ha.1

/-- How a round is left: the jump that waits. -/
def jumpOf : Ex → Option (Option Code)
  | .normal => some none
  | .ret => some (some .ret)
  | .exit id => some (some (.exit id))
  | .goto l => some (some (.goto l))
  | .pan _ => none

def vyield (P : Program) (call : CallF) (m : Nat) (l : Nat) (args : Array Value) (H : Hp) (c : Ctl) : Option (Res × Hp × Ctl) :=
  match look H l with
  | some (.loop r) =>
    if args.size = r.params.size ∧ r.state = .ready then
      match vcode P call (some l) m r.assign (yset r.params.toList args.toList r.tmps.toList) [] H c with
      | some (.normal, t1, D1, H1, c1) =>
        match look H1 l with
        | some (.loop r1) =>
          if r1.state = .ready then
            match vcode P call (some l) m r.body t1 D1 (hput H1 l (.loop { r1 with state := .busy })) c1 with
            | some (ex, t2, D2, H3, c2) =>
              match look H3 l with
              | some (.loop r3) =>
                match jumpOf ex with
                | some j => some (.ret (.bool j.isNone), hput H3 l (.loop { r3 with state := if j.isNone then .ready else .done, pending := j }), c2)
                | none =>
                  match ex with
                  | .pan ch => if D2.isEmpty && !(Nat.beq r.fn 0) && (P.funcs[r.fn]?).isSome then some (.pan ch, H3, c2) else none
                  | _ => none
              | _ => none
            | none =>
              match D1 with
              | [] =>
                match vpan P call (some l) m 300 r.body t1 (hput H1 l (.loop { r1 with state := .busy })) c1 with
                | some (ch, H3, c2) => if !(Nat.beq r.fn 0) && (P.funcs[r.fn]?).isSome then some (.pan ch, H3, c2) else none
                | none => none
              | _ => none
          else none
        | _ => none
      | _ => none
    else none
  | _ => none

/-- A round that panics, of a function that there is. -/
theorem roundIn_pan {n l : Nat} {f : FuncId} {tmps : Array Value} {assign body : Code} {w : World} {R : Ending → World → Prop} (hf : (P.funcs[f]?).isSome = true)
    (h : assign.wpIn (Fence.wide.inRound l) n P (Exit.then (fun a₁ w₁ => ∃ w₂, (Instr.beginRound l).run P w₁ = .ok () w₂ ∧ body.wpIn (Fence.wide.inRound l) n P (fun e a w => ∃ ch, e = .panic ch ∧ a.defers = [] ∧ R (.panicked ch) w) a₁ w₂) (fun _ _ _ => False))
      { tmps := tmps, defers := [] } w) :
    RoundIn Fence.wide n P l f tmps assign body w R := by
  refine ⟨trivial, fun c cs hr => ?_⟩
  let b : Frame := { (default : Frame) with fn := f, kind := .normal, roundOf := some l }
  have hb0 : Frame.round l f tmps assign body .normal = b.atR { tmps := tmps, defers := [] } [.code assign, .beginRound, .code body] := by
    simp [Frame.round, Frame.atR, b]
  have hr' : (Fence.wide.inRound l).room ((c :: cs).length + 1 + n) := hr
  have hF' : (Fence.wide.inRound l).fn b.fn := trivial
  obtain ⟨e, a₁, w₁, hq, harr⟩ := h b [.beginRound, .code body] (c :: cs) rfl hF' hr'
  rw [← hb0] at harr
  cases e with
  | normal =>
    obtain ⟨w₂, hbr, hbody⟩ := hq
    have s1 : StepsIn (Machine.fenced P (Fence.wide.inRound l)) P (lone (b.atR a₁ [.beginRound, .code body]) (c :: cs) w₁) (lone (b.atR a₁ [.code body]) (c :: cs) w₂) :=
      .one (fenced_calm (fr := b.atR a₁ [.beginRound, .code body]) hF' hr' rfl) (stepR_beginRound rfl hbr)
    obtain ⟨e₂, a₂, w₃, ⟨ch, rfl, hd, hR⟩, harr₂⟩ := hbody b [] (c :: cs) rfl hF' hr'
    obtain ⟨todo, hs⟩ := harr₂
    obtain ⟨fc, hfc⟩ := Option.isSome_iff_exists.1 hf
    exact ⟨.panicked ch, w₃, hR, (StepsIn.trans harr s1).trans (StepsIn.trans hs (.one (fenced_wide P _) (step_leave_panicked ⟨rfl, hd, fc, hfc⟩)))⟩
  | exit id => exact hq.elim
  | goto t => exact hq.elim
  | ret => exact hq.elim
  | panic chain => exact hq.elim
  | outgrown => exact hq.elim

theorem vyield_does {call : CallF} (hcall : CallOK P call) (hmix : P.follows .mixedOrders = true) {m l : Nat} {args : Array Value} {H : Hp} {c : Ctl} {r : Res} {H' : Hp} {c' : Ctl} (h : vyield P call m l args H c = some (r, H', c')) :
    (AllP c'.obl → AllP c.obl) ∧ (AllP c'.obl → wfA (domB H) args = true → CallsV P (.yield l) args H r H') := by
  unfold vyield at h
  split at h
  case h_2 => cases h
  rename_i rc hl
  split at h
  case isFalse => cases h
  rename_i hsz
  split at h
  case h_2 => cases h
  rename_i t1 D1 H1 c1 hv1
  split at h
  case h_2 => cases h
  rename_i r1 hl1
  split at h
  case isFalse => cases h
  rename_i hready
  split at h
  case h_2 =>
    rename_i hv2
    split at h
    case h_2 => cases h
    split at h
    case h_2 => cases h
    rename_i ch H3 c2 hv3
    split at h
    case isFalse => cases h
    rename_i hc
    simp only [Bool.and_eq_true, Bool.not_eq_true'] at hc
    simp only [Option.some.injEq, Prod.mk.injEq] at h
    obtain ⟨rfl, rfl, rfl⟩ := h
    have hnz : rc.fn ≠ 0 := fun e => by have := hc.1; simp [e] at this
    obtain ⟨m1, d1, k1⟩ := vcode_does hcall hmix (some l) m _ _ _ _ _ _ _ _ _ _ hv1
    obtain ⟨m2, d2, k2⟩ := vpan_spec hcall hmix (some l) m 300 _ _ _ _ _ _ _ hv3
    refine ⟨fun z => m1 (m2 z), fun z hargs β w hR => ?_⟩
    intro n
    obtain ⟨fn, hfn, hrec⟩ := hR.lies l _ hl
    have hwf := hR.wf l _ hl
    simp only [wfO, Bool.and_eq_true] at hwf
    have hy := run_yield (P := P) (args := renA β args) hrec (by rw [renA_map, Array.size_map]; exact hsz.1)
    refine ⟨_, _, _, _, hy, ?_⟩
    have htm : ((rc.params.zip (renA β args)).foldl (fun (tmps : Array Value) (x : Nat × Value) => tmps.setIfInBounds x.1 x.2) (renA β rc.tmps)) = (renL β (yset rc.params.toList args.toList rc.tmps.toList)).toArray := by
      rw [← yset_real, ← Array.foldl_toList, Array.toList_zip]
      have e1 : (renA β args).toList = renL β args.toList := by rw [renA_map, renL_map, Array.toList_map]
      have e2 : renA β rc.tmps = (renL β rc.tmps.toList).toArray := by obtain ⟨l⟩ := rc.tmps; rfl
      rw [e1, e2]
    have hR0 : RelA (rng β H) w β [] (yset rc.params.toList args.toList rc.tmps.toList) H { tmps := (rc.params.zip (renA β args)).foldl (fun (tmps : Array Value) (x : Nat × Value) => tmps.setIfInBounds x.1 x.2) (renA β rc.tmps), defers := [] } w :=
      ⟨htm, rfl, yset_wf _ _ _ (by rw [← wfA_list]; exact hargs) (by rw [← wfA_list]; exact hwf.1), rfl, hR⟩
    have hlH : ∀ l', some l = some l' → domB H l' = true := fun l' e => by cases e; exact domB_of hl
    refine roundIn_pan (by show (P.funcs[fn]?).isSome = true; rw [hfn hnz]; exact hc.2) (wpIn_mono (k1 (m2 z) hlH n (rng β H) w β _ w hR0) ?_)
    rintro e a1 w1 ⟨rfl, β1, hb1, hR1⟩
    simp only [Ex.out, Exit.then]
    obtain ⟨fn1, hfn1, hrec1⟩ := hR1.rel.lies l _ hl1
    have hβ1 : β1 l = β l := hb1 l (domB_of hl)
    have hwf1 := hR1.rel.wf l _ hl1
    rw [hβ1] at hrec1
    have hbr := run_beginRound (P := P) hrec1 hready
    refine ⟨_, hbr, ?_⟩
    have hR2 := hR1.rel.obj (b := l) (liveB_of hl1 rfl) (winB_of hl1 rfl) (o := .loop { r1 with state := .busy }) (x := .loop { r1 with state := .busy, fn := fn1, tmps := renA β1 r1.tmps, defers := (β1 r1.defers).1 }) hwf1 ⟨fn1, hfn1, rfl⟩
    have hdp : ∀ i, domB H1 i = true → domB (hput H1 l (.loop { r1 with state := .busy })) i = true := fun i hi => by rw [domB_hput, hi, Bool.or_true]
    have hRA : RelA (rng β H) w β1 [] t1 (hput H1 l (.loop { r1 with state := .busy })) a1 _ := ⟨hR1.tm, hR1.df, wfL_mono hdp _ hR1.wt, wfDs_mono hdp hR1.wd, hR2⟩
    rw [hβ1] at hRA
    have hlH2 : ∀ l', some l = some l' → domB (hput H1 l (.loop { r1 with state := .busy })) l' = true := fun l' e => by cases e; exact hdp l (domB_of hl1)
    have hk2 := k2 z hlH2 n (rng β H) w β1 a1 _ hRA
    have hF : (some l).map (blk β1) = some (β l).1 := by simp only [Option.map_some, blk, hβ1]
    rw [hF] at hk2
    refine wpIn_mono hk2 ?_
    rintro e a2 w2 ⟨rfl, β2, hb2, hd2, hR2c⟩
    exact ⟨ch, rfl, hd2, β2, fun i hi => (hb2 i (hdp i (d1 i hi))).trans (hb1 i hi), rfl, hR2c⟩
  rename_i ex t2 D2 H3 c2 hv2
  split at h
  case h_2 => cases h
  rename_i r3 hl3
  have hpre : (∃ j, jumpOf ex = some j ∧ r = .ret (.bool j.isNone) ∧ H' = hput H3 l (.loop { r3 with state := if j.isNone then .ready else .done, pending := j }) ∧ c' = c2) ∨
      (∃ ch, ex = .pan ch ∧ D2 = [] ∧ rc.fn ≠ 0 ∧ (P.funcs[rc.fn]?).isSome = true ∧ r = .pan ch ∧ H' = H3 ∧ c' = c2) := by
    split at h
    · rename_i j hj
      simp only [Option.some.injEq, Prod.mk.injEq] at h
      exact .inl ⟨j, hj, h.1.symm, h.2.1.symm, h.2.2.symm⟩
    · split at h
      · rename_i ch _
        split at h
        · rename_i hc
          simp only [Bool.and_eq_true, List.isEmpty_iff, Bool.not_eq_true'] at hc
          simp only [Option.some.injEq, Prod.mk.injEq] at h
          exact .inr ⟨_, rfl, hc.1.1, fun e => by have := hc.1.2; simp [e] at this, hc.2, h.1.symm, h.2.1.symm, h.2.2.symm⟩
        · cases h
      · cases h
  clear h
  obtain ⟨m1, d1, k1⟩ := vcode_does hcall hmix (some l) m _ _ _ _ _ _ _ _ _ _ hv1
  obtain ⟨m2, d2, k2⟩ := vcode_does hcall hmix (some l) m _ _ _ _ _ _ _ _ _ _ hv2
  have hcc : c' = c2 := by rcases hpre with ⟨_, _, _, _, h⟩ | ⟨_, _, _, _, _, _, _, h⟩ <;> exact h
  subst hcc
  refine ⟨fun z => m1 (m2 z), fun z hargs β w hR => ?_⟩
  intro n
  obtain ⟨fn, hfn, hrec⟩ := hR.lies l _ hl
  have hwf := hR.wf l _ hl
  simp only [wfO, Bool.and_eq_true] at hwf
  have hy := run_yield (P := P) (args := renA β args) hrec (by rw [renA_map, Array.size_map]; exact hsz.1)
  refine ⟨_, _, _, _, hy, ?_⟩
  have htm : ((rc.params.zip (renA β args)).foldl (fun (tmps : Array Value) (x : Nat × Value) => tmps.setIfInBounds x.1 x.2) (renA β rc.tmps)) = (renL β (yset rc.params.toList args.toList rc.tmps.toList)).toArray := by
    rw [← yset_real, ← Array.foldl_toList, Array.toList_zip]
    have e1 : (renA β args).toList = renL β args.toList := by rw [renA_map, renL_map, Array.toList_map]
    have e2 : renA β rc.tmps = (renL β rc.tmps.toList).toArray := by obtain ⟨l⟩ := rc.tmps; rfl
    rw [e1, e2]
  have hR0 : RelA (rng β H) w β [] (yset rc.params.toList args.toList rc.tmps.toList) H { tmps := (rc.params.zip (renA β args)).foldl (fun (tmps : Array Value) (x : Nat × Value) => tmps.setIfInBounds x.1 x.2) (renA β rc.tmps), defers := [] } w :=
    ⟨htm, rfl, yset_wf _ _ _ (by rw [← wfA_list]; exact hargs) (by rw [← wfA_list]; exact hwf.1), rfl, hR⟩
  have hlH : ∀ l', some l = some l' → domB H l' = true := fun l' e => by cases e; exact domB_of hl
  -- the round's walk, up to what its end asks
  have walk : ∀ (Q : Exit → Act → World → Prop), (∀ e a2 w2 β2, (∀ i, domB H i = true → β2 i = β i) → domB H1 l = true → (ex.out = e) → CameR (rng β H) w β2 ex t2 D2 H3 a2 w2 → Q e a2 w2) →
      r1.state = .ready → Code.wpIn (Fence.wide.inRound (β l).1) n P rc.assign (Exit.then (fun a₁ w₁ => ∃ w₂, (Instr.beginRound (β l).1).run P w₁ = .ok () w₂ ∧ rc.body.wpIn (Fence.wide.inRound (β l).1) n P Q a₁ w₂) (fun _ _ _ => False)) { tmps := (rc.params.zip (renA β args)).foldl (fun (tmps : Array Value) (x : Nat × Value) => tmps.setIfInBounds x.1 x.2) (renA β rc.tmps), defers := [] } w := by
    intro Q hQ _
    refine wpIn_mono (k1 (m2 z) hlH n (rng β H) w β _ w hR0) ?_
    rintro e a1 w1 ⟨rfl, β1, hb1, hR1⟩
    simp only [Ex.out, Exit.then]
    obtain ⟨fn1, hfn1, hrec1⟩ := hR1.rel.lies l _ hl1
    have hβ1 : β1 l = β l := hb1 l (domB_of hl)
    have hwf1 := hR1.rel.wf l _ hl1
    rw [hβ1] at hrec1
    have hbr := run_beginRound (P := P) hrec1 hready
    refine ⟨_, hbr, ?_⟩
    have hR2 := hR1.rel.obj (b := l) (liveB_of hl1 rfl) (winB_of hl1 rfl) (o := .loop { r1 with state := .busy }) (x := .loop { r1 with state := .busy, fn := fn1, tmps := renA β1 r1.tmps, defers := (β1 r1.defers).1 }) hwf1 ⟨fn1, hfn1, rfl⟩
    have hdp : ∀ i, domB H1 i = true → domB (hput H1 l (.loop { r1 with state := .busy })) i = true := fun i hi => by rw [domB_hput, hi, Bool.or_true]
    have hRA : RelA (rng β H) w β1 D1 t1 (hput H1 l (.loop { r1 with state := .busy })) a1 _ := ⟨hR1.tm, hR1.df, wfL_mono hdp _ hR1.wt, wfDs_mono hdp hR1.wd, hR2⟩
    rw [hβ1] at hRA
    have hlH2 : ∀ l', some l = some l' → domB (hput H1 l (.loop { r1 with state := .busy })) l' = true := fun l' e => by cases e; exact hdp l (domB_of hl1)
    have hk2 := k2 z hlH2 n (rng β H) w β1 a1 _ hRA
    have hF : (some l).map (blk β1) = some (β l).1 := by simp only [Option.map_some, blk, hβ1]
    rw [hF] at hk2
    refine wpIn_mono hk2 ?_
    rintro e a2 w2 ⟨rfl, β2, hb2, hR2c⟩
    exact hQ _ a2 w2 β2 (fun i hi => (hb2 i (hdp i (d1 i hi))).trans (hb1 i hi)) (domB_of hl1) rfl hR2c
  rcases hpre with ⟨j, hj, rfl, rfl, -⟩ | ⟨ch, rfl, rfl, hnz, hfs, rfl, rfl, -⟩
  · refine roundIn_of_wpIn (F := Fence.wide) trivial (walk _ ?_ hready)
    rintro e a2 w2 β2 hext hl1d rfl hR2c
    obtain ⟨t2', -, hR2'⟩ := hR2c.some
    obtain ⟨fn3, hfn3, hrec3⟩ := hR2'.rel.lies l _ hl3
    have hβ2 : β2 l = β l := hext l (domB_of hl)
    have hwf3 := hR2'.rel.wf l _ hl3
    rw [hβ2] at hrec3
    have her := run_endRound (P := P) j hrec3
    have hR4 := hR2'.rel.obj (b := l) (liveB_of hl3 rfl) (winB_of hl3 rfl) (o := .loop { r3 with state := if j.isNone then .ready else .done, pending := j }) (x := .loop { r3 with state := if j.isNone then .ready else .done, pending := j, fn := fn3, tmps := renA β2 r3.tmps, defers := (β2 r3.defers).1 }) hwf3 ⟨fn3, hfn3, rfl⟩
    rw [hβ2] at hR4
    have hres : ∃ v w', (Instr.endRound (β l).1 j).run P w2 = .ok v w' ∧ (∃ β', (∀ i, domB H i = true → β' i = β i) ∧ Ending.returned v = (Res.ret (.bool j.isNone)).out β' ∧ Rel (rng β H) w β' (hput H3 l (.loop { r3 with state := if j.isNone then .ready else .done, pending := j })) w') :=
      ⟨_, _, her, β2, hext, rfl, hR4⟩
    cases ex with
    | pan ch => cases hj
    | normal => simp only [jumpOf, Option.some.injEq] at hj; subst hj; exact hres
    | ret => simp only [jumpOf, Option.some.injEq] at hj; subst hj; exact hres
    | exit id => simp only [jumpOf, Option.some.injEq] at hj; subst hj; exact hres
    | goto g => simp only [jumpOf, Option.some.injEq] at hj; subst hj; exact hres
  · refine roundIn_pan (by show (P.funcs[fn]?).isSome = true; rw [hfn hnz]; exact hfs) (walk _ ?_ hready)
    rintro e a2 w2 β2 hext hl1d rfl ⟨t2', hD, hR2'⟩
    exact ⟨ch, rfl, hR2'.df, β2, hext, rfl, hR2'.rel⟩

def modeOf : Ex → Option FrameMode
  | .normal => some .returning
  | .ret => some .returning
  | .pan ch => some (.panicking ch)
  | _ => none

/-- A function: by a contract, or walked. -/
def vfun (P : Program) (sm : CallF) (m : Nat) : Nat → CallF
  | 0, fn, args, H, c => sm fn args H c
  | n + 1, fn, args, H, c =>
    match sm fn args H c with
    | some r => some r
    | none =>
      match fn with
      | .func f =>
        match P.funcs[f]? with
        | some fc =>
          match fc.body with
          | some body =>
            match vcode P (vfun P sm m n) none m body (frame0 fc args) [] H c with
            | some (ex, t', D', H', c') =>
              match modeOf ex with
              | some u => vleave P (vfun P sm m n) m fc t' D' u H' c'
              | none => none
            | none =>
              match vpan P (vfun P sm m n) none m 300 body (frame0 fc args) H c with
              | some (ch, H', c') => some (.pan ch, H', c')
              | none => none
          | none => none
        | none => none
      | .yield l => vyield P (vfun P sm m n) m l args H c
      | _ => none

theorem vfun_ok {sm : CallF} (hsm : CallOK P sm) (hmix : P.follows .mixedOrders = true) (m : Nat) : ∀ n, CallOK P (vfun P sm m n)
  | 0 => fun f args H c v H' c' h => hsm f args H c v H' c' h
  | n + 1 => by
    intro fn args H c r H' c' h
    have ih := vfun_ok hsm hmix m n
    simp only [vfun] at h
    split at h
    · rename_i r' hr
      simp only [Option.some.injEq] at h
      subst h
      exact hsm _ _ _ _ _ _ _ hr
    · split at h
      · rename_i f
        split at h
        case h_2 => cases h
        rename_i fc hf
        split at h
        case h_2 => cases h
        rename_i body hb
        split at h
        case h_2 =>
          split at h
          case h_2 => cases h
          rename_i ch H1 c1 hv
          simp only [Option.some.injEq, Prod.mk.injEq] at h
          obtain ⟨rfl, rfl, rfl⟩ := h
          obtain ⟨m1, d1, r1⟩ := vpan_spec ih hmix none m 300 _ _ _ _ _ _ _ hv
          refine ⟨m1, fun z _ hargs β w hR => ?_⟩
          refine (callsIn_wide (n := 0)).1 (callsIn_of_wp_marks hf hb trivial (wpIn_mono (r1 z (fun l hl => by cases hl) 0 (rng β H) w β _ w (frame0_rel hR hargs)) ?_))
          rintro e a' w' ⟨rfl, β', hb', hd, hR'⟩
          have hfin : LeavesInM Fence.wide 0 P fc a'.tmps (fun e w' => ∃ β', (∀ i, domB H i = true → β' i = β i) ∧ e = (Res.pan ch).out β' ∧ Rel (rng β H) w β' H1 w') a'.defers (.panicking ch) w' := by
            rw [hd]
            exact ⟨β', hb', rfl, hR'⟩
          exact hfin
        rename_i ex t1 D1 H1 c1 hv
        split at h
        case h_2 => cases h
        rename_i u hu
        obtain ⟨m1, d1, r1⟩ := vcode_does ih hmix none m _ _ _ _ _ _ _ _ _ _ hv
        obtain ⟨m2, d2, -⟩ := vleave_does ih hmix _ _ _ _ _ _ _ h
        refine ⟨fun z => m1 (m2 z), fun z _ hargs β w hR => ?_⟩
        refine (callsIn_wide (n := 0)).1 (callsIn_of_wp_marks hf hb trivial (wpIn_mono (r1 (m2 z) (fun l hl => by cases hl) 0 (rng β H) w β _ w (frame0_rel hR hargs)) ?_))
        rintro e a' w' ⟨rfl, β', hb', hRc⟩
        obtain ⟨t2, ht2, hR'⟩ := hRc.some
        have h2 : vleave P (vfun P sm m n) m fc t2 D1 u H1 c1 = some (r, H', c') := by
          rcases ht2 with ⟨rfl, ch, rfl⟩ | rfl
          · simp only [modeOf, Option.some.injEq] at hu
            subst hu
            exact h
          · exact h
        obtain ⟨-, -, r2⟩ := vleave_does ih hmix _ _ _ _ _ _ _ h2
        have hlv := r2 z 0 (rng β H) w β' w' hR'.rel hR'.wd hR'.wt
        have hfin : LeavesInM Fence.wide 0 P fc a'.tmps (fun e w' => ∃ β', (∀ i, domB H i = true → β' i = β i) ∧ e = r.out β' ∧ Rel (rng β H) w β' H' w') a'.defers u w' := by
          rw [hR'.tm, hR'.df]
          refine leavesInM_mono ?_ _ _ _ hlv
          rintro e w'' ⟨β'', hb'', he, hR''⟩
          exact ⟨β'', fun i hi => (hb'' i (d1 i hi)).trans (hb' i hi), he, hR''⟩
        cases ex with
        | normal => simp only [modeOf, Option.some.injEq] at hu; subst hu; exact hfin
        | ret => simp only [modeOf, Option.some.injEq] at hu; subst hu; exact hfin
        | pan ch => simp only [modeOf, Option.some.injEq] at hu; subst hu; exact hfin
        | _ => cases hu
      · rename_i l
        obtain ⟨y1, y2⟩ := vyield_does ih hmix h
        exact ⟨y1, fun z _ hargs => y2 z hargs⟩
      · cases h

def noSm : CallF := fun _ _ _ _ => none
theorem noSm_ok : CallOK P noSm := fun _ _ _ _ _ _ _ h => (by cases h)
def ctl0 (orc : List (Option Bool)) : Ctl := { n := 0, orc := orc, obl := [], log := [] }

/-- A function of plain values: what it hands back, and what that owes. -/
theorem vfun_calls {sm : CallF} (hsm : CallOK P sm) (hmix : P.follows .mixedOrders = true) (m n : Nat) {f : FuncId} {args : Array Value} {orc : List (Option Bool)} {r : Res} {obl : List Prop}
    (h : (vfun P sm m n (.func f) args [] (ctl0 orc)).map (fun x => (x.1, x.2.2.obl)) = some (r, obl)) (ho : AllP obl) (ha : wfA noB args = true) (hr : resOK noB r = true) (w : World) (hg : GL w) :
    Calls P f args w fun e w' => e = r.out idN ∧ Below w.heap.size w w' := by
  rw [Option.map_eq_some_iff] at h
  obtain ⟨⟨r', H', c'⟩, h1, h2⟩ := h
  simp only [Prod.mk.injEq] at h2
  obtain ⟨rfl, rfl⟩ := h2
  have hd : domB [] = noB := rfl
  have := (vfun_ok hsm hmix m n _ _ _ _ _ _ _ h1).2 ho rfl (by rw [hd]; exact ha) idN w (Rel.nil _ _ _ (gl_nil hg))
  simp only [renA_id] at this
  refine this.mono ?_
  rintro e w' ⟨β', _, rfl, hR⟩
  refine ⟨?_, hR.kp.below (Nat.le_refl _) ?_⟩
  · cases r' with
    | ret v =>
      simp only [Res.out]
      rw [ren_plain β' hr, ren_plain _ hr]
    | pan ch => rfl
  · rintro k ⟨i, hi, _⟩
    cases hi
end

end Go.Proofs.YtcjjckokaiobcaaDoor
