/- A walk by computation: a region, in the order of the text and in whatever order it draws. -/
import Derived.Test.YtpbhoamojocbpaaE5
namespace Go.Proofs.Ytpbhoamojocbpaa
open Go Go.RowKit
set_option linter.unusedSimpArgs false
set_option linter.unusedVariables false

section
variable {P : Program} {ops : Array Oper}

theorem defer_does {o : Oper} {t : List Value} {cl : Call} (ho : o.op = .defer cl) (hall : o.op.operands.toList.all opdOK = true) {d : VDef} (hd : deferFn (vev t) cl = some d) (hwant : Wants ops o t) :
    MicDoes P ops o t [] { val := undef, set := [], dfr := some d } := by
  intro ro n Q K A w0 β D t' H' a w i hi hR ht hs hf hv hdr hK hP
  obtain rfl := hdr rfl
  refine wpOp_want hi (hwant a t' β hR.tm ht) ?_
  have hsame : ∀ x ∈ o.op.operands, vev t' x = vev t x := fun x hx => vev_same ht hx
  have hrun : (o.semAt none a.eval).run P w = .ok (.defer (renD β d)) w ∧ wfD (domB H') d = true := by
    rw [Oper.semAt_none, execOp_of (P := P) (ρ' := a.eval) (ρ := vev t) (o := o) (fun cs b e => by rw [ho] at e; cases e) (fun x hx => by rw [hR.eval (operand_dec hall hx), hsame x hx])]
    obtain ⟨dst, op, type, pos, after, guard⟩ := o
    simp only at ho
    subst ho
    unfold deferFn at hd
    cases hc : cl.callee with
    | value g =>
      simp only [hc] at hd
      split at hd
      · rename_i g' first cap hg
        simp only [Option.some.injEq] at hd
        subst hd
        refine ⟨?_, ?_⟩
        · simp only [execOp, Sem.run_bind, resolve, hc, hg, ren, renF, Deferred.ofValue, Sem.run_pure, Result.andThen_ok, renD]
          rw [renA_map, renA_map, renA_map, Array.map_append, Array.map_map]
          rfl
        · have hargs : ∀ x ∈ cl.args, wfV (domB H') (vev t x) = true := fun x hx => by
            have hm : x ∈ (Op.defer cl).operands := by simp [Op.operands, Call.operands, hx]
            rw [← hsame x hm]
            exact vev_wf hR.wt (operand_dec hall hm)
          have hm : g ∈ (Op.defer cl).operands := by simp [Op.operands, Call.operands, hc]
          have hgw : wfV (domB H') (vev t g) = true := by
            rw [← hsame g hm]
            exact vev_wf hR.wt (operand_dec hall hm)
          rw [hg] at hgw
          simp only [wfV, Bool.and_eq_true] at hgw
          simp only [wfD, Bool.and_eq_true]
          refine ⟨hgw.2, ?_⟩
          have h1 := hgw.1.2
          rw [wfA_list, wfL_all] at h1 ⊢
          intro v hv
          rw [Array.toList_append, List.mem_append] at hv
          rcases hv with hv | hv
          · exact h1 v hv
          · simp only [Array.toList_map, List.mem_map] at hv
            obtain ⟨x, hx, rfl⟩ := hv
            exact hargs x (by simpa using hx)
      · cases hd
    | _ => rw [hc] at hd; cases hd
  rw [hrun.1]
  simp only [Oper.uponIn]
  have hl := merge_nil H'
  have hdm : ∀ i, domB (merge [] H') i = domB H' i := fun i => by unfold domB; rw [hl]
  have hp := hR.put (fun _ _ => rfl) (fun i hi => by rw [hdm]; exact hi) (hR.rel.congr (fun _ _ => rfl) hl) o.dst (v := undef) rfl
  refine hK rfl β _ w (fun _ _ => rfl) ⟨?_, ?_, hp.wt, ?_, hp.rel⟩
  · rw [← hp.tm]
    cases o.dst <;> rfl
  · have : ({ a with defers := renD β d :: a.defers }.put o.dst undef).defers = renD β d :: a.defers := by cases o.dst <;> rfl
    rw [this, hR.df]
    rfl
  · unfold wfDs dadd
    rw [List.all_cons, Bool.and_eq_true]
    exact ⟨wfD_mono (fun i hi => by rw [hdm]; exact hi) hrun.2, hp.wd⟩

theorem panic_does {o : Oper} {t : List Value} {x : Operand} (ho : o.op = .panic x) (hall : o.op.operands.toList.all opdOK = true) {ty : TypeId} {v : Value} (hx : vev t x = .iface ty v) (hv0 : wfV noB v = true) (hwant : Wants ops o t) :
    MicDoes P ops o t [] { val := undef, set := [], pan := some [{ v := .iface ty v, recovered := false }] } := by
  intro ro n Q K A w0 β D t' H' a w i hi hR ht hs hf hv hdr hK hP
  refine wpOp_want hi (hwant a t' β hR.tm ht) ?_
  have hsame : ∀ x ∈ o.op.operands, vev t' x = vev t x := fun x hx => vev_same ht hx
  rw [Oper.semAt_eq _ _ _ (fun c e => by rw [ho] at e; cases e), execOp_of (P := P) (ρ' := a.eval) (ρ := vev t) (o := o) (fun cs b e => by rw [ho] at e; cases e) (fun x hx => by rw [hR.eval (operand_dec hall hx), hsame x hx])]
  obtain ⟨dst, op, type, pos, after, guard⟩ := o
  simp only at ho
  subst ho
  have e : (execOp (fun x => ren β (vev t x)) { dst := dst, op := .panic x, type := type, pos := pos, after := after, guard := guard }).run P w = .halt (.panic (.iface ty v)) w := by
    simp only [execOp, Sem.run_bind, hx, ren, ren_plain β hv0, Instr.panic]
    rfl
  rw [e]
  simp only [Oper.uponIn]
  have hl := merge_nil H'
  have hdm : ∀ i, domB (merge [] H') i = domB H' i := fun i => by unfold domB; rw [hl]
  exact hP _ rfl β a w (fun _ _ => rfl) ⟨hR.tm, hR.df, wfL_mono (fun i hi => by rw [hdm]; exact hi) _ hR.wt, wfDs_mono (fun i hi => by rw [hdm]; exact hi) hR.wd, hR.rel.congr (fun _ _ => rfl) hl⟩

theorem ext_does {o : Oper} {t : List Value} {cl : Call} (ho : o.op = .call cl) (hall : o.op.operands.toList.all opdOK = true) {f : FuncId} {args : Array Value} (ha : callFn (vev t) cl = some (.func f, args)) {v : Value} (hx : vext P f args = some (v, false)) (hwant : Wants ops o t) :
    MicDoes P ops o t [] { val := v, set := [] } := by
  intro ro n Q K A w0 β D t' H' a w i hi hR ht hs hf hv hdr hK hP
  refine wpOp_want hi (hwant a t' β hR.tm ht) ?_
  have hsame : ∀ x ∈ o.op.operands, vev t' x = vev t x := fun x hx => vev_same ht hx
  rw [Oper.semAt_eq _ _ _ (fun c e => by rw [ho] at e; cases e), execOp_of (P := P) (ρ' := a.eval) (ρ := vev t) (o := o) (fun cs b e => by rw [ho] at e; cases e) (fun x hx => by rw [hR.eval (operand_dec hall hx), hsame x hx])]
  have e : (execOp (fun x => ren β (vev t x)) o).run P w = .ok (.value v) w := by
    obtain ⟨dst, op, type, pos, after, guard⟩ := o
    simp only at ho
    subst ho
    unfold callFn at ha
    split at ha
    case h_2 => cases ha
    rename_i g hcal
    split at ha
    · rename_i g' first captured hv'
      simp only [Option.some.injEq, Prod.mk.injEq, Fn.func.injEq] at ha
      obtain ⟨rfl, rfl⟩ := ha
      obtain ⟨hr1, hr2, _⟩ := ext_run hx w
      have hr3 := hr2 β
      simp only [renA_map, Array.map_append, Array.map_map] at hr3
      have e2 : (execOp (fun x => ren β (vev t x)) { dst := dst, op := .call cl, type := type, pos := pos, after := after, guard := guard }) = callFunc g' (first ++ cl.args.map (vev t) ++ captured) := by
        simp only [execOp, resolve, hcal, hv', ren, renF, Deferred.ofValue]
        show invoke (.fn (.func g') (renA β captured)) (renA β first ++ cl.args.map fun x => ren β (vev t x)) = _
        simp only [invoke, renA_map]
        rw [← hr3]
        rfl
      rw [e2]
      exact hr1
    · simp only [Option.some.injEq, Prod.mk.injEq] at ha
      obtain ⟨h1, _⟩ := ha
      cases h1
    · cases ha
  rw [e]
  have hl := merge_nil H'
  have hd : ∀ i, domB (merge [] H') i = domB H' i := fun i => by unfold domB; rw [hl]
  have hv2 : ren β v = v := ren_plain β ((ext_run hx w).2.2 noB)
  have := hK rfl β _ w (fun _ _ => rfl) (hR.put (fun _ _ => rfl) (fun i hi => by rw [hd]; exact hi) (hR.rel.congr (fun _ _ => rfl) hl) o.dst hv)
  rw [hv2] at this
  exact this

theorem vgo_does {call : CallF} (hcall : CallOK P call) {o : Oper} {H : Hp} {t : List Value} {c c' : Ctl} {m : Mic} {Hr : Hp} (h : vgo P call H t o c = some (m, Hr, c')) :
    (AllP c'.obl → AllP c.obl) ∧ Sub Hr H ∧ (∀ k, domB m.set k = true → domB Hr k = true ∨ domB H k = false) ∧ (AllP c'.obl → Wants ops o t → MicDoes P ops o t Hr m) := by
  unfold vgo at h
  split at h
  · rename_i hall
    have eff : veffM P H t o c = some (m, Hr, c') → (AllP c'.obl → AllP c.obl) ∧ Sub Hr H ∧ (∀ k, domB m.set k = true → domB Hr k = true ∨ domB H k = false) ∧ (AllP c'.obl → Wants ops o t → MicDoes P ops o t Hr m) := fun h => by
      obtain ⟨h1, h2, h3, h4⟩ := veffM_does (ops := ops) hall h
      exact ⟨fun x => by rw [h1] at x; exact x, h2, h3, fun _ => h4⟩
    split at h
    · rename_i cl ho
      split at h
      · rename_i f args hargs
        split at h
        · rename_i hb
          exact vcall_does hcall ho hall hargs (fun f' e => by cases e; exact hb) h
        · split at h
          · rename_i v b hx
            have hvm := vdec_mono (b := b) (c := c)
            have hvf := vdec_fst (b := b) (c := c)
            generalize vdec b c = dc at h hvm hvf
            obtain ⟨x, c2⟩ := dc
            cases x
            · simp only [Option.some.injEq, Prod.mk.injEq] at h hvm hvf
              obtain ⟨rfl, rfl, rfl⟩ := h
              refine ⟨hvm, fun _ _ h => (by cases h), fun k hk => (by cases hk), fun z hw => ?_⟩
              have hb := hvf z
              subst hb
              exact ext_does ho hall hargs hx hw
            · cases h
          · exact eff h
      · rename_i l args hargs
        exact vcall_does hcall ho hall hargs (fun f' e => by cases e) h
      · exact eff h
    · rename_i cl ho
      split at h
      · rename_i d hd
        simp only [Option.some.injEq, Prod.mk.injEq] at h
        obtain ⟨rfl, rfl, rfl⟩ := h
        exact ⟨id, fun _ _ h => (by cases h), fun k hk => (by cases hk), fun _ hw => defer_does ho hall hd hw⟩
      · cases h
    · rename_i x ho
      split at h
      · rename_i ty v hx
        split at h
        · rename_i hv0
          simp only [Option.some.injEq, Prod.mk.injEq] at h
          obtain ⟨rfl, rfl, rfl⟩ := h
          exact ⟨id, fun _ _ h => (by cases h), fun k hk => (by cases hk), fun _ hw => panic_does ho hall hx hv0 hw⟩
        · cases h
      · cases h
    · exact eff h
  · cases h

theorem vwant_does {o : Oper} {t t1 : List Value} {c c1 : Ctl} {wd : Bool} (h : vwant ops t o c = some (wd, t1, c1)) :
    (AllP c1.obl → AllP c.obl) ∧ (AllP c1.obl → t1 = t ∧ ∀ (a : Act) (t' : List Value) (β : Nat → Nat), a.tmps = (renL β t').toArray → (∀ x ∈ o.looksAt ops, t'[x]? = t[x]?) → Region.wanted o (yielded ops a.tmps) = wd) := by
  unfold vwant at h
  split at h
  · rename_i hg
    simp only [Option.some.injEq, Prod.mk.injEq] at h
    obtain ⟨rfl, rfl, rfl⟩ := h
    exact ⟨id, fun _ => ⟨rfl, fun a t' β _ _ => by unfold Region.wanted; rw [hg]⟩⟩
  · rename_i j want hg
    split at h
    · rename_i d hd
      split at h
      · rename_i b hb
        have hvm := vdec_mono (b := b) (c := c)
        have hvf := vdec_fst (b := b) (c := c)
        generalize vdec b c = dc at h hvm hvf
        obtain ⟨x, c2⟩ := dc
        simp only [Option.some.injEq, Prod.mk.injEq] at h hvm hvf
        obtain ⟨rfl, rfl, rfl⟩ := h
        refine ⟨hvm, fun z => ?_⟩
        have hx := hvf z
        subst hx
        have hlt := (List.getElem?_eq_some_iff.1 hb).1
        refine ⟨?_, fun a t' β ht hl => ?_⟩
        · refine List.ext_getElem? (fun k => ?_)
          by_cases hk : d = k
          · subst hk; rw [List.getElem?_set_self hlt, hb]
          · rw [List.getElem?_set_ne hk]
        · have hdm : d ∈ o.looksAt ops := by
            refine List.mem_append_right _ ?_
            rw [hg]
            simp only [hd, Option.toList_some, List.mem_singleton]
          have key : yielded ops a.tmps j = some x := by
            unfold yielded
            simp only [hd, Option.bind_some, ht, renL_map, List.getElem?_toArray, List.getElem?_map, hl d hdm, hb, Option.map_some, ren]
          unfold Region.wanted
          rw [hg]
          simp only [key]
          cases x <;> cases want <;> rfl
      · rename_i u hb
        simp only [Option.some.injEq, Prod.mk.injEq] at h
        obtain ⟨rfl, rfl, rfl⟩ := h
        refine ⟨id, fun _ => ⟨rfl, fun a t' β ht hl => ?_⟩⟩
        have hdm : d ∈ o.looksAt ops := by
          refine List.mem_append_right _ ?_
          rw [hg]
          simp only [hd, Option.toList_some, List.mem_singleton]
        have key : yielded ops a.tmps j = none := by
          unfold yielded
          simp only [hd, Option.bind_some, ht, renL_map, List.getElem?_toArray, List.getElem?_map, hl d hdm, hb, Option.map_some, ren]
        unfold Region.wanted
        rw [hg]
        simp only [key]
        cases want <;> rfl
      · cases h
    · cases h

theorem vmic_does {call : CallF} (hcall : CallOK P call) {o : Oper} {H : Hp} {t : List Value} {wd : Bool} {c c' : Ctl} {m : Mic} {Hr : Hp} (h : vmic P call H t o wd c = some (m, Hr, c')) :
    (AllP c'.obl → AllP c.obl) ∧ Sub Hr H ∧ (∀ k, domB m.set k = true → domB Hr k = true ∨ domB H k = false) ∧
      (AllP c'.obl → (∀ (a : Act) (t' : List Value) (β : Nat → Nat), a.tmps = (renL β t').toArray → (∀ x ∈ o.looksAt ops, t'[x]? = t[x]?) → Region.wanted o (yielded ops a.tmps) = wd) → MicDoes P ops o t Hr m) := by
  unfold vmic at h
  cases wd with
  | true => exact vgo_does (ops := ops) hcall h
  | false =>
    simp only [Bool.false_eq_true, if_false, Option.some.injEq, Prod.mk.injEq] at h
    obtain ⟨rfl, rfl, rfl⟩ := h
    refine ⟨id, fun _ _ h => (by cases h), fun k hk => (by cases hk), fun x hw => ?_⟩
    intro ro n Q K A w0 β D t' H' a w i hi hR ht hs hf hv hdr hK hP
    unfold wpOpIn
    simp only [hi, hw a t' β hR.tm ht, Bool.false_eq_true, if_false]
    refine ⟨fun f _ => Fw_fn ro f, ?_⟩
    have hl := merge_nil H'
    have hd : ∀ i, domB (merge [] H') i = domB H' i := fun i => by unfold domB; rw [hl]
    exact hK rfl β _ w (fun _ _ => rfl) (hR.put (fun _ _ => rfl) (fun i hi => by rw [hd]; exact hi) (hR.rel.congr (fun _ _ => rfl) hl) o.dst (v := undef) rfl)

/-- One step of a region: its number, the operation, what it makes, the blocks that it looks at. -/
structure Stp where
  i : Nat
  o : Oper
  m : Mic
  r : Hp
/-- Where a region has come to. -/
inductive Out where
  | go (t : List Value) (D : List VDef) (H : Hp) (c : Ctl)
  | pan (ch : List PanicEntry) (t : List Value) (D : List VDef) (H : Hp) (c : Ctl)
def Out.ctl : Out → Ctl
  | .go _ _ _ c => c
  | .pan _ _ _ _ c => c
def Out.heap : Out → Hp
  | .go _ _ H _ => H
  | .pan _ _ _ H _ => H
/-- What it comes to. -/
def Out.post (A : Nat → Prop) (w0 : World) (β : Nat → Nat) (H0 : Hp) (Q : Exit → Act → World → Prop) : Out → Prop
  | .go t D H _ => ∀ β' a' w', (∀ i, domB H0 i = true → β' i = β i) → RelA A w0 β' D t H a' w' → Q .normal a' w'
  | .pan ch t D H _ => ∀ t2 β' a' w', (D = [] ∨ t2 = t) → (∀ i, domB H0 i = true → β' i = β i) → RelA A w0 β' D t2 H a' w' → Q (.panic ch) a' w'
theorem Out.post_ext {A : Nat → Prop} {w0 : World} {β γ : Nat → Nat} {H0 H1 : Hp} {Q : Exit → Act → World → Prop} {o : Out} (h : o.post A w0 β H0 Q) (hd : ∀ i, domB H0 i = true → domB H1 i = true ∧ γ i = β i) : o.post A w0 γ H1 Q := by
  cases o with
  | go t D H c => exact fun β' a' w' hx hR => h β' a' w' (fun i hi => (hx i (hd i hi).1).trans (hd i hi).2) hR
  | pan ch t D H c => exact fun t2 β' a' w' hD hx hR => h t2 β' a' w' hD (fun i hi => (hx i (hd i hi).1).trans (hd i hi).2) hR

def vsteps (P : Program) (call : CallF) (ops : Array Oper) : List Nat → List Value → List VDef → Hp → Ctl → Option (List Stp × Out)
  | [], t, D, H, c => some ([], .go t D H c)
  | i :: r, t, D, H, c =>
    match ops[i]? with
    | none => none
    | some o =>
      match vwant ops t o c with
      | none => none
      | some (wd, t1, c1) =>
        match vmic P call H t1 o wd c1 with
        | some (m, Hr, c') =>
          if wfV (domB (merge m.set H)) m.val then
            match m.pan with
            | some ch => some ([⟨i, o, m, Hr⟩], .pan ch t1 D (merge m.set H) c')
            | none =>
              match vsteps P call ops r (vput t1 o.dst m.val) (dadd m.dfr D) (merge m.set H) c' with
              | some (l, x) => some (⟨i, o, m, Hr⟩ :: l, x)
              | none => none
          else none
        | none => none

/-- The operations in the order of the text. -/
theorem vsteps_text {call : CallF} (hcall : CallOK P call) {ro : Option Nat} {n : Nat} {Q : Exit → Act → World → Prop} : ∀ (is : List Nat) (t : List Value) (D : List VDef) (H : Hp) (c : Ctl) (l : List Stp) (x : Out), vsteps P call ops is t D H c = some (l, x) →
    (AllP x.ctl.obl → AllP c.obl) ∧ (∀ i, domB H i = true → domB x.heap i = true) ∧ (AllP x.ctl.obl → (ro = none ∨ ∀ e ∈ l, e.m.dfr.isSome = false) → ∀ (A : Nat → Prop) (w0 : World) (β : Nat → Nat) (a : Act) (w : World), RelA A w0 β D t H a w →
      x.post A w0 β H Q → wpOpsIn (Fw ro) n P ops Q is a w) := by
  intro is
  induction is with
  | nil =>
    intro t D H c l x h
    simp only [vsteps, Option.some.injEq, Prod.mk.injEq] at h
    obtain ⟨rfl, rfl⟩ := h
    exact ⟨id, fun _ h => h, fun _ _ A w0 β a w hR hQ => hQ β a w (fun _ _ => rfl) hR⟩
  | cons i r ih =>
    intro t D H c l x h
    simp only [vsteps] at h
    split at h
    · cases h
    · rename_i o ho
      split at h
      · cases h
      · rename_i wd t0 c0 hw
        split at h
        · rename_i m Hr c1 hm
          obtain ⟨w1, w2⟩ := vwant_does hw
          obtain ⟨d1, d2, d3, d4⟩ := vmic_does (ops := ops) hcall hm
          split at h
          · rename_i hv
            split at h
            · rename_i ch hp
              simp only [Option.some.injEq, Prod.mk.injEq] at h
              obtain ⟨rfl, rfl⟩ := h
              refine ⟨fun z => w1 (d1 z), fun i hi => by simp only [Out.heap]; rw [domB_merge, hi, Bool.or_true], fun z hro A w0 β a w hR hQ => ?_⟩
              obtain ⟨rfl, hwant⟩ := w2 (d1 z)
              rw [wpOpsIn_cons]
              exact d4 z hwant ro n Q _ A w0 β D t0 H a w i ho hR (fun _ _ => rfl) d2 d3 hv (fun hd => hro.elim id (fun h => by rw [h _ List.mem_cons_self] at hd; cases hd))
                (fun hn => by rw [hp] at hn; cases hn) (fun ch' hch' β' a' w' hb hR' => by rw [hp] at hch'; cases hch'; exact hQ t0 β' a' w' (.inr rfl) hb hR')
            · rename_i hp
              split at h
              · rename_i l1 x1 hr
                simp only [Option.some.injEq, Prod.mk.injEq] at h
                obtain ⟨rfl, rfl⟩ := h
                obtain ⟨k1, k2, k3⟩ := ih _ _ _ _ _ _ hr
                refine ⟨fun z => w1 (d1 (k1 z)), fun i hi => k2 i (by rw [domB_merge, hi, Bool.or_true]), fun z hro A w0 β a w hR hQ => ?_⟩
                obtain ⟨rfl, hwant⟩ := w2 (d1 (k1 z))
                rw [wpOpsIn_cons]
                refine d4 (k1 z) hwant ro n Q _ A w0 β D t0 H a w i ho hR (fun _ _ => rfl) d2 d3 hv (fun hd => hro.elim id (fun h => by rw [h _ List.mem_cons_self] at hd; cases hd))
                  (fun _ β' a' w' hb hR' => ?_) (fun ch' hch' => by rw [hp] at hch'; cases hch')
                exact k3 z (hro.imp id (fun h e he => h e (List.mem_cons_of_mem _ he))) A w0 β' a' w' hR' (Out.post_ext hQ (fun i hi => ⟨by rw [domB_merge, hi, Bool.or_true], hb i hi⟩))
              · cases h
          · cases h
        · cases h
end

end Go.Proofs.Ytpbhoamojocbpaa
