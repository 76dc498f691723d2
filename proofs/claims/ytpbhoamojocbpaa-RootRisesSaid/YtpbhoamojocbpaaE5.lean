/- A walk by computation: what one operation makes, and that it does. -/
import Derived.Test.YtpbhoamojocbpaaEx
import Derived.OrdersIn
import Derived.RangeFuncCalls
namespace Go.Proofs.Ytpbhoamojocbpaa
open Go Go.RowKit
set_option linter.unusedSimpArgs false
set_option linter.unusedVariables false

def idsF : Fn → List Nat
  | .yield l => [l]
  | _ => []
mutual
def idsV : Value → List Nat
  | .pointer (some a) => [a.block]
  | .slice (some a) _ _ => [a.block]
  | .map (some r) => [r]
  | .chan (some r) => [r]
  | .func fn first captured => idsF fn ++ idsA first ++ idsA captured
  | .iface _ v => idsV v
  | .agg cs => idsA cs
  | .tuple vs => idsA vs
  | _ => []
def idsA : Array Value → List Nat
  | ⟨l⟩ => idsL l
def idsL : List Value → List Nat
  | [] => []
  | v :: l => idsV v ++ idsL l
end
def idsO : Obj → List Nat
  | .cells c _ _ => idsA c
  | .loop r => r.defers :: idsA r.tmps
  | _ => []
/-- The blocks that are met from some on. -/
def reach (H : Hp) : Nat → List Nat → List Nat → List Nat
  | 0, _, seen => seen
  | _ + 1, [], seen => seen
  | n + 1, i :: todo, seen =>
    if seen.contains i then reach H n todo seen
    else match look H i with
      | some o => reach H n (idsO o ++ todo) (i :: seen)
      | none => reach H n todo (i :: seen)
def restrict (H : Hp) (F : List Nat) : Hp := H.filter fun e => F.contains e.1
theorem restrict_sub (H : Hp) (F : List Nat) : Sub (restrict H F) H := by
  intro i o h
  unfold restrict at h
  rw [look_filter (fun k => F.contains k)] at h
  split at h
  · exact h
  · cases h

abbrev CallF := Fn → Array Value → Hp → Ctl → Option (Res × Hp × Ctl)
def CallOK (P : Program) (call : CallF) : Prop := ∀ fn args H c r H' c', call fn args H c = some (r, H', c') →
  (AllP c'.obl → AllP c.obl) ∧ (AllP c'.obl → wfF (domB H) fn = true → wfA (domB H) args = true → CallsV P fn args H r H')

def resOK (p : Nat → Bool) : Res → Bool
  | .ret v => wfV p v
  | .pan _ => true
def Res.mic (H : Hp) : Res → Mic
  | .ret v => { val := v, set := H }
  | .pan ch => { val := undef, set := H, pan := some ch }
def vcall (call : CallF) (H : Hp) (fn : Fn) (args : Array Value) (c : Ctl) : Option (Mic × Hp × Ctl) :=
  let Hr := restrict H (reach H 1000 (idsF fn ++ idsA args) [])
  if closedH Hr && wfF (domB Hr) fn && wfA (domB Hr) args then
    match call fn args Hr c with
    | some (r, H', c') =>
      let H1 := H'.filter fun e => domB Hr e.1
      let H2 := if resOK (domB Hr) r && closedH H1 then H1 else H'
      if resOK (domB H2) r && closedH H2 && (Hr.all fun e => domB H2 e.1) && (H2.all fun e => domB Hr e.1 || !domB H e.1) then some (r.mic H2, Hr, c') else none
    | none => none
  else none

def veffM (P : Program) (H : Hp) (t : List Value) (o : Oper) (c : Ctl) : Option (Mic × Hp × Ctl) :=
  let Hr := touch H (vev t) o
  match veff P Hr (vev t) o with
  | some (.val v) => if wfV (domB H) v then some ({ val := v, set := [] }, Hr, c) else none
  | some (.sto b off vs) =>
    match look Hr b with
    | some (.cells c0 T fr) => some ({ val := undef, set := [(b, .cells (setC c0 off vs) T fr)] }, Hr, c)
    | _ => none
  | some (.new cs T) => if !domB H c.n then some ({ val := .pointer (some ⟨c.n, 0, none⟩), set := [(c.n, .cells cs T (0, 0))] }, Hr, { c with n := c.n + 1 }) else none
  | none => none

/-- What a call comes to. -/
def callFn (ρ : Operand → Value) (c : Call) : Option (Fn × Array Value) :=
  match c.callee with
  | .value f =>
    match ρ f with
    | .func (.func g) first captured => some (.func g, first ++ c.args.map ρ ++ captured)
    | .func (.yield l) first _ => some (.yield l, first ++ c.args.map ρ)
    | _ => none
  | _ => none
def deferFn (ρ : Operand → Value) (c : Call) : Option VDef :=
  match c.callee with
  | .value f =>
    match ρ f with
    | .func (.func g) first captured => some (.fn g captured (first ++ c.args.map ρ))
    | _ => none
  | _ => none
def vgo (P : Program) (call : CallF) (H : Hp) (t : List Value) (o : Oper) (c : Ctl) : Option (Mic × Hp × Ctl) :=
  if o.op.operands.toList.all opdOK then
    match o.op with
    | .call cl =>
      match callFn (vev t) cl with
      | some (.func f, args) => if hasBody P f then vcall call H (.func f) args c else
        match vext P f args with
        | some (v, b) =>
          match vdec b c with
          | (false, c1) => some ({ val := v, set := [] }, [], c1)
          | (true, _) => none
        | none => veffM P H t o c
      | some (.yield l, args) => vcall call H (.yield l) args c
      | _ => veffM P H t o c
    | .defer cl =>
      match deferFn (vev t) cl with
      | some d => some ({ val := undef, set := [], dfr := some d }, [], c)
      | none => none
    | .panic x =>
      match vev t x with
      | .iface ty v => if wfV noB v then some ({ val := undef, set := [], pan := some [{ v := .iface ty v, recovered := false }] }, [], c) else none
      | _ => none
    | _ => veffM P H t o c
  else none

/-- Is an operation wanted? The test that tells it is then known. -/
def vwant (ops : Array Oper) (t : List Value) (o : Oper) (c : Ctl) : Option (Bool × List Value × Ctl) :=
  match o.guard with
  | none => some (true, t, c)
  | some (j, want) =>
    match (ops[j]?).bind (·.dst) with
    | some d =>
      match t[d]? with
      | some (.bool b) =>
        match vdec b c with
        | (x, c1) => some (x == want, t.set d (.bool x), c1)
      | some (.tuple _) => some (false, t, c)
      | _ => none
    | none => none
def vmic (P : Program) (call : CallF) (H : Hp) (t : List Value) (o : Oper) (wd : Bool) (c : Ctl) : Option (Mic × Hp × Ctl) :=
  if wd then vgo P call H t o c else some ({ val := undef, set := [] }, [], c)

def Fw (ro : Option Nat) : Fence := match ro with | none => Fence.wide | some l => Fence.wide.inRound l
theorem Fw_round (ro : Option Nat) : (Fw ro).round = ro := by cases ro <;> rfl
theorem Fw_fn (ro : Option Nat) (f : FuncId) : (Fw ro).fn f := by cases ro <;> exact trivial
theorem Fw_depth (ro : Option Nat) : (Fw ro).depth = none := by cases ro <;> rfl
theorem Fw_calls {ro : Option Nat} {n : Nat} {P : Program} {f : FuncId} {args : Array Value} {w : World} {R : Ending → World → Prop} (h : Calls P f args w R) : CallsIn (Fw ro) n P f args w R := by
  cases ro with
  | none => exact callsIn_wide.2 h
  | some l => exact CallsIn.inRound l (callsIn_wide.2 h)
theorem Fw_rounds {ro : Option Nat} {n : Nat} {P : Program} {l : Nat} {f : FuncId} {tmps : Array Value} {assign body : Code} {w : World} {R : Ending → World → Prop} (h : RoundIn Fence.wide n P l f tmps assign body w R) : RoundIn (Fw ro) n P l f tmps assign body w R := by
  cases ro with
  | none => exact h
  | some l => exact h
def dadd : Option VDef → List VDef → List VDef
  | none, D => D
  | some d, D => d :: D

/-- The operation makes this, whatever else has been made. -/
def MicDoes (P : Program) (ops : Array Oper) (o : Oper) (t : List Value) (Hr : Hp) (m : Mic) : Prop :=
  ∀ (ro : Option Nat) (n : Nat) (Q : Exit → Act → World → Prop) (K : Act → World → Prop) (A : Nat → Prop) (w0 : World) (β : Nat → Nat) (D : List VDef) (t' : List Value) (H' : Hp) (a : Act) (w : World) (i : Nat),
    ops[i]? = some o → RelA A w0 β D t' H' a w → (∀ x ∈ o.looksAt ops, t'[x]? = t[x]?) → Sub Hr H' → (∀ k, domB m.set k = true → domB Hr k = true ∨ domB H' k = false) → wfV (domB (merge m.set H')) m.val = true → (m.dfr.isSome = true → ro = none) →
    (m.pan = none → ∀ β' a' w', (∀ i, domB H' i = true → β' i = β i) → RelA A w0 β' (dadd m.dfr D) (vput t' o.dst m.val) (merge m.set H') a' w' → K a' w') →
    (∀ ch, m.pan = some ch → ∀ β' a' w', (∀ i, domB H' i = true → β' i = β i) → RelA A w0 β' D t' (merge m.set H') a' w' → Q (.panic ch) a' w') → wpOpIn (Fw ro) n P ops Q i K a w

/-- The operation is wanted, whoever looks. -/
def Wants (ops : Array Oper) (o : Oper) (t : List Value) : Prop :=
  ∀ (a : Act) (t' : List Value) (β : Nat → Nat), a.tmps = (renL β t').toArray → (∀ x ∈ o.looksAt ops, t'[x]? = t[x]?) → Region.wanted o (yielded ops a.tmps) = true

section
variable {P : Program} {ops : Array Oper} {o : Oper}

theorem vev_same {t t' : List Value} (h : ∀ x ∈ o.looksAt ops, t'[x]? = t[x]?) {x : Operand} (hx : x ∈ o.op.operands) : vev t' x = vev t x := by
  cases x with
  | tmp i =>
    simp only [vev, List.getD_eq_getElem?_getD]
    rw [h i (List.mem_append_left _ (List.mem_filterMap.2 ⟨.tmp i, by simpa using hx, rfl⟩))]
  | _ => rfl
theorem vev_wf {p : Nat → Bool} {t : List Value} (h : wfL p t = true) {x : Operand} (hx : opdOK x = true) : wfV p (vev t x) = true := by
  cases x with
  | tmp i =>
    simp only [vev, List.getD_eq_getElem?_getD]
    cases hi : t[i]? with
    | none => rfl
    | some v => exact (wfL_all p t).1 h v (List.mem_of_getElem? hi)
  | const v => exact wfV_mono (p := noB) (fun _ h => (by cases h)) v hx
  | global g => rfl
  | func f => rfl
theorem wf_cells {p : Nat → Bool} {v : Value} (h : wfV p v = true) : wfA p v.cells = true := by
  cases v with
  | agg cs => exact h
  | _ => simp only [Value.cells, wfA, wfL, Bool.and_true]; exact h

theorem merge_nil (H : Hp) : ∀ i, look (merge [] H) i = look H i := fun i => by rw [look_merge]; rfl
theorem look_merge1 (k : Nat) (ob : Obj) (H : Hp) (i : Nat) : look (merge [(k, ob)] H) i = look (hput H k ob) i := by
  rw [look_merge, look_hput]
  simp only [look]
  by_cases h : k = i
  · subst h; simp
  · rw [if_neg h, if_neg (fun e => h e.symm)]

theorem wpOp_want {ro : Option Nat} {n : Nat} {i : Nat} {a : Act} {w : World} {Q : Exit → Act → World → Prop} {K : Act → World → Prop} (hi : ops[i]? = some o) (hw : Region.wanted o (yielded ops a.tmps) = true)
    (h : o.uponIn (Fw ro) n P a K Q ((o.semAt ro a.eval).run P w)) : wpOpIn (Fw ro) n P ops Q i K a w := by
  unfold wpOpIn
  simp only [hi, hw, if_true, Oper.wpIn, Fw_round]
  exact ⟨fun f _ => Fw_fn ro f, h⟩

theorem operand_dec {x : Operand} (h : o.op.operands.toList.all opdOK = true) (hx : x ∈ o.op.operands) : opdOK x = true :=
  List.all_eq_true.1 h x (by simpa using hx)

theorem veff_sto_wf {Hr : Hp} {t : List Value} {p : Nat → Bool} (ht : wfL p t = true) (hall : o.op.operands.toList.all opdOK = true) {b off : Nat} {vs : List Value} (h : veff P Hr (vev t) o = some (.sto b off vs)) : wfL p vs = true := by
  obtain ⟨dst, op, type, pos, after, guard⟩ := o
  cases op with
  | store ty x y =>
    simp only [veff] at h
    repeat' split at h
    all_goals first
      | (cases h; done)
      | (simp only [Option.some.injEq, Eff.sto.injEq] at h
         obtain ⟨_, _, rfl⟩ := h
         rw [← wfA_list]
         exact wf_cells (vev_wf ht (operand_dec hall (by simp [Op.operands]))))
  | load ty x =>
    simp only [veff] at h
    repeat' split at h
    all_goals first
      | (cases h; done)
      | (simp only [Option.map_eq_some_iff] at h
         obtain ⟨_, _, h⟩ := h
         cases h)
  | alloc ty =>
    simp only [veff] at h
    try unfold veffCall at h
    repeat' split at h
    all_goals (cases h; done)
  | box ty x => simp only [veff] at h; cases h
  | select cs bl => simp only [veff] at h; cases h
  | pick x y z =>
    simp only [veff] at h
    try unfold veffCall at h
    repeat' split at h
    all_goals (cases h; done)
  | binOp bo bt x y bty =>
    cases bo
    all_goals
      simp only [veff] at h
      repeat' split at h
      all_goals (cases h; done)
  | call cl =>
    simp only [veff, veffCall] at h
    repeat' split at h
    all_goals (cases h; done)
  | _ =>
    simp only [veff] at h
    try unfold veffCall at h
    repeat' split at h
    all_goals (cases h; done)
theorem veff_new_wf {Hr : Hp} {t : List Value} {p : Nat → Bool} (ht : wfL p t = true) (hall : o.op.operands.toList.all opdOK = true) {cs : Array Value} {T : TypeId} (h : veff P Hr (vev t) o = some (.new cs T)) : wfA p cs = true := by
  obtain ⟨dst, op, type, pos, after, guard⟩ := o
  cases op with
  | store ty x y =>
    simp only [veff] at h
    try unfold veffCall at h
    repeat' split at h
    all_goals (cases h; done)
  | load ty x =>
    simp only [veff] at h
    repeat' split at h
    all_goals first
      | (cases h; done)
      | (simp only [Option.map_eq_some_iff] at h
         obtain ⟨_, _, h⟩ := h
         cases h)
  | alloc ty =>
    simp only [veff] at h
    repeat' split at h
    all_goals first
      | (cases h; done)
      | (rename_i hp
         simp only [Option.some.injEq, Eff.new.injEq] at h
         obtain ⟨rfl, rfl⟩ := h
         exact wfA_mono (p := noB) (fun _ h => (by cases h)) _ hp)
  | box ty x =>
    simp only [veff, Option.some.injEq, Eff.new.injEq] at h
    obtain ⟨rfl, rfl⟩ := h
    exact wf_cells (vev_wf ht (operand_dec hall (by simp [Op.operands])))
  | select cs bl => simp only [veff] at h; cases h
  | pick x y z =>
    simp only [veff] at h
    try unfold veffCall at h
    repeat' split at h
    all_goals (cases h; done)
  | binOp bo bt x y bty =>
    cases bo
    all_goals
      simp only [veff] at h
      repeat' split at h
      all_goals (cases h; done)
  | call cl =>
    simp only [veff, veffCall] at h
    repeat' split at h
    all_goals (cases h; done)
  | _ =>
    simp only [veff] at h
    try unfold veffCall at h
    repeat' split at h
    all_goals (cases h; done)

theorem veffM_does {H : Hp} {t : List Value} {c c' : Ctl} {m : Mic} {Hr : Hp} (hall : o.op.operands.toList.all opdOK = true) (h : veffM P H t o c = some (m, Hr, c')) :
    c'.obl = c.obl ∧ Sub Hr H ∧ (∀ k, domB m.set k = true → domB Hr k = true ∨ domB H k = false) ∧ (Wants ops o t → MicDoes P ops o t Hr m) := by
  have hsub : Sub (touch H (vev t) o) H := touch_sub H (vev t) o
  have hnd : ∀ c, o.op ≠ .defer c := by
    intro cl hc
    unfold veffM at h
    have he : veff P (touch H (vev t) o) (vev t) o = none := by
      obtain ⟨dst, op, type, pos, after, guard⟩ := o
      simp only at hc
      subst hc
      simp only [veff]
      split
      · rename_i u hu
        exfalso
        simp only [execOp, calm_bind] at hu
        cases hq : calm P (resolve (vev t) cl type) with
        | none => rw [hq] at hu; cases hu
        | some d => rw [hq] at hu; cases hu
      · rfl
    simp only [he] at h
    cases h
  unfold veffM at h
  cases he : veff P (touch H (vev t) o) (vev t) o with
  | none => simp only [he] at h; cases h
  | some e =>
    have run : ∀ {A : Nat → Prop} {w0 : World} {β : Nat → Nat} {D : List VDef} {t' : List Value} {H' : Hp} {a : Act} {w : World}, RelA A w0 β D t' H' a w → (∀ x ∈ o.looksAt ops, t'[x]? = t[x]?) → Sub (touch H (vev t) o) H' → EffRun P β w (execOp a.eval o) e := by
      intro A w0 β D t' H' a w hR ht hs
      refine eff_run hR.rel (veff_sub hs he) (fun x hx => ?_)
      rw [hR.eval (operand_dec hall hx), vev_same ht hx]
    simp only [he] at h
    cases e with
    | val v =>
      simp only at h
      split at h
      · simp only [Option.some.injEq, Prod.mk.injEq] at h
        obtain ⟨rfl, rfl, rfl⟩ := h
        refine ⟨rfl, hsub, ?FR, ?_⟩
        rotate_left
        intro hwant ro n Q K A w0 β D t' H' a w i hi hR ht hs hf hv hdr hK hP
        refine wpOp_want hi (hwant a t' β hR.tm ht) ?_
        have hrun := run hR ht hs
        simp only [EffRun] at hrun
        rw [Oper.semAt_eq _ _ _ hnd, hrun]
        have hl := merge_nil H'
        have hd : ∀ i, domB (merge [] H') i = domB H' i := fun i => by unfold domB; rw [hl]
        exact hK rfl β _ w (fun _ _ => rfl) (hR.put (fun _ _ => rfl) (fun i hi => by rw [hd]; exact hi) (hR.rel.congr (fun _ _ => rfl) hl) o.dst hv)
        case FR => exact fun k hk => (by cases hk)
      · cases h
    | sto b off vs =>
      simp only at h
      split at h
      · rename_i c0 T fr hb
        simp only [Option.some.injEq, Prod.mk.injEq] at h
        obtain ⟨rfl, rfl, rfl⟩ := h
        refine ⟨rfl, hsub, ?FR, ?_⟩
        rotate_left
        intro hwant ro n Q K A w0 β D t' H' a w i hi hR ht hs hf hv hdr hK hP
        refine wpOp_want hi (hwant a t' β hR.tm ht) ?_
        have hrun := run hR ht hs
        simp only [EffRun] at hrun
        rw [Oper.semAt_eq _ _ _ hnd, hrun]
        have hvs : wfL (domB H') vs = true := by
          have he' : veff P (touch H (vev t) o) (vev t') o = some (.sto b off vs) := by
            rw [← he]
            have hcon : ∀ x ∈ o.op.operands, vev t' x = vev t x := fun x hx => vev_same ht hx
            obtain ⟨dst, op, type, pos, after, guard⟩ := o
            cases op with
            | store ty x y => simp only [veff, hcon x (by simp [Op.operands]), hcon y (by simp [Op.operands])]
            | load ty x => simp only [veff, hcon x (by simp [Op.operands])]
            | box ty x => simp only [veff, hcon x (by simp [Op.operands])]
            | alloc ty => rfl
            | select cs bl => rfl
            | binOp bo bt x y bty =>
              exfalso
              cases bo
              all_goals
                simp only [veff] at he
                repeat' split at he
                all_goals (cases he; done)
            | _ =>
              exfalso
              simp only [veff] at he
              try unfold veffCall at he
              repeat' split at he
              all_goals (cases he; done)
          exact veff_sto_wf hR.wt hall he'
        have hl := look_merge1 b (.cells (setC c0 off vs) T fr) H'
        have hd : ∀ i, domB (merge [(b, .cells (setC c0 off vs) T fr)] H') i = domB (hput H' b (.cells (setC c0 off vs) T fr)) i := fun i => by unfold domB; rw [hl]
        have hRs := hR.rel.sto (hs b _ hb) off hvs
        exact hK rfl β _ _ (fun _ _ => rfl) (hR.put (fun _ _ => rfl) (fun i hi => by rw [hd, domB_hput, hi, Bool.or_true]) (hRs.congr (fun _ _ => rfl) hl) o.dst (v := undef) rfl)
        case FR =>
          intro k hk
          unfold domB at hk
          simp only [look] at hk
          split at hk
          · rename_i e; rw [← e]; exact .inl (domB_of hb)
          · cases hk
      · cases h
    | new cs T =>
      simp only at h
      split at h
      · rename_i hn
        simp only [Option.some.injEq, Prod.mk.injEq] at h
        obtain ⟨rfl, rfl, rfl⟩ := h
        refine ⟨rfl, hsub, ?FR, ?_⟩
        rotate_left
        intro hwant ro n Q K A w0 β D t' H' a w i hi hR ht hs hf hv hdr hK hP
        refine wpOp_want hi (hwant a t' β hR.tm ht) ?_
        have hrun := run hR ht hs
        simp only [EffRun] at hrun
        rw [Oper.semAt_eq _ _ _ hnd, hrun]
        have hob : wfO (domB H') (.cells cs T (0, 0)) = true := by
          have he' : veff P (touch H (vev t) o) (vev t') o = some (.new cs T) := by
            rw [← he]
            have hcon : ∀ x ∈ o.op.operands, vev t' x = vev t x := fun x hx => vev_same ht hx
            obtain ⟨dst, op, type, pos, after, guard⟩ := o
            cases op with
            | store ty x y => simp only [veff, hcon x (by simp [Op.operands]), hcon y (by simp [Op.operands])]
            | load ty x => simp only [veff, hcon x (by simp [Op.operands])]
            | box ty x => simp only [veff, hcon x (by simp [Op.operands])]
            | alloc ty => rfl
            | select cs bl => rfl
            | binOp bo bt x y bty =>
              exfalso
              cases bo
              all_goals
                simp only [veff] at he
                repeat' split at he
                all_goals (cases he; done)
            | _ =>
              exfalso
              simp only [veff] at he
              try unfold veffCall at he
              repeat' split at he
              all_goals (cases he; done)
          simp only [wfO, Bool.and_eq_true]
          exact ⟨veff_new_wf hR.wt hall he', by decide⟩
        have hn' : domB H' c.n = false := by
          rcases hf c.n (by simp [domB, look]) with h1 | h1
          · obtain ⟨x, hx⟩ := domB_iff.1 h1
            have := domB_of (hsub _ _ hx)
            rw [this] at hn
            cases hn
          · exact h1
        have hl := look_merge1 c.n (.cells cs T (0, 0)) H'
        have hd : ∀ i, domB (merge [(c.n, .cells cs T (0, 0))] H') i = domB (hput H' c.n (.cells cs T (0, 0))) i := fun i => by unfold domB; rw [hl]
        have hRs := hR.rel.new hn' hob (x := .cells (renA β cs) T (0, 0)) rfl
        have hag : ∀ i, domB H' i = true → upd1 β c.n w.heap.size i = β i := fun i hi => upd1_ne (fun e => by rw [e, hn'] at hi; cases hi)
        have := hR.put (v := .pointer (some ⟨c.n, 0, none⟩)) hag (fun i hi => by rw [hd, domB_hput, hi, Bool.or_true]) (hRs.congr (fun _ _ => rfl) hl) o.dst (by simp [wfV, hd, domB_hput])
        have e : ren (upd1 β c.n w.heap.size) (.pointer (some ⟨c.n, 0, none⟩)) = .pointer (some ⟨w.heap.size, 0, none⟩) := by simp [ren, renP, upd1_self]
        rw [e] at this
        exact hK rfl _ _ _ hag this
        case FR =>
          intro k hk
          unfold domB at hk
          simp only [look] at hk
          split at hk
          · rename_i e; rw [← e]; exact .inr (by simpa using hn)
          · cases hk
      · cases h

theorem callFn_func {ρ : Operand → Value} {cl : Call} {f : FuncId} {args : Array Value} (h : callFn ρ cl = some (.func f, args)) : callArgs ρ cl = some (f, args) := by
  unfold callFn at h
  unfold callArgs
  cases hc : cl.callee with
  | value g =>
    simp only [hc] at h ⊢
    split at h
    · rename_i g' first cap hg
      simp only [Option.some.injEq, Prod.mk.injEq, Fn.func.injEq] at h
      obtain ⟨rfl, rfl⟩ := h
      rw [hg]
      rfl
    · simp only [Option.some.injEq, Prod.mk.injEq] at h
      obtain ⟨h, _⟩ := h
      cases h
    · cases h
  | _ => rw [hc] at h; cases h
theorem yield_run {β : Nat → Nat} {ρ : Operand → Value} {cl : Call} (ho : o.op = .call cl) {l : Nat} {args : Array Value} (h : callFn ρ cl = some (.yield l, args)) {w : World} {lp : Nat} {fn : FuncId} {tmps : Array Value} {assign body : Code}
    (hy : (Instr.yield (β l) (renA β args)).run P w = .ok (.round lp fn tmps assign body) w) :
    (execOp (fun x => ren β (ρ x)) o).run P w = .ok (.round lp fn tmps assign body) w := by
  obtain ⟨dst, op, type, pos, after, guard⟩ := o
  simp only at ho
  subst ho
  unfold callFn at h
  cases hc : cl.callee with
  | value g =>
    simp only [hc] at h
    split at h
    · simp only [Option.some.injEq, Prod.mk.injEq] at h
      obtain ⟨h, _⟩ := h
      cases h
    · rename_i l' first cap hg
      simp only [Option.some.injEq, Prod.mk.injEq, Fn.yield.injEq] at h
      obtain ⟨rfl, rfl⟩ := h
      simp only [execOp, Sem.run_bind, resolve, hc, hg, ren, renF, Deferred.ofValue, Sem.run_pure, Result.andThen_ok, invoke]
      rw [← hy, renA_map, renA_map, Array.map_append, Array.map_map]
      rfl
    · cases h
  | _ => rw [hc] at h; cases h
theorem callFn_wf {t : List Value} {p : Nat → Bool} (ht : wfL p t = true) {cl : Call} (ho : o.op = .call cl) (hall : o.op.operands.toList.all opdOK = true) {fn : Fn} {args : Array Value} (h : callFn (vev t) cl = some (fn, args)) : wfF p fn = true ∧ wfA p args = true := by
  have hargs : ∀ x ∈ cl.args, wfV p (vev t x) = true := fun x hx => vev_wf ht (operand_dec hall (by rw [ho]; simp [Op.operands, Call.operands, hx]))
  have hmap : wfA p (cl.args.map (vev t)) = true := by
    rw [wfA_list, wfL_all]
    intro v hv
    simp only [Array.toList_map, List.mem_map] at hv
    obtain ⟨x, hx, rfl⟩ := hv
    exact hargs x (by simpa using hx)
  have happ : ∀ a b : Array Value, wfA p a = true → wfA p b = true → wfA p (a ++ b) = true := fun a b ha hb => by
    rw [wfA_list, wfL_all] at *
    intro v hv
    rw [Array.toList_append, List.mem_append] at hv
    exact hv.elim (ha v) (hb v)
  unfold callFn at h
  cases hc : cl.callee with
  | value g =>
    have hg := vev_wf ht (operand_dec hall (x := g) (by rw [ho]; simp [Op.operands, Call.operands, hc]))
    simp only [hc] at h
    split at h
    · rename_i g' first cap hg'
      simp only [Option.some.injEq, Prod.mk.injEq] at h
      obtain ⟨rfl, rfl⟩ := h
      rw [hg'] at hg
      simp only [wfV, Bool.and_eq_true] at hg
      exact ⟨rfl, happ _ _ (happ _ _ hg.1.2 hmap) hg.2⟩
    · rename_i l first cap hg'
      simp only [Option.some.injEq, Prod.mk.injEq] at h
      obtain ⟨rfl, rfl⟩ := h
      rw [hg'] at hg
      simp only [wfV, Bool.and_eq_true] at hg
      exact ⟨hg.1.1, happ _ _ hg.1.2 hmap⟩
    · cases h
  | _ => rw [hc] at h; cases h

theorem memK (G : Hp) (i : Nat) : domB G i = true → ∃ e ∈ G, e.1 = i := by
  induction G with
  | nil => intro h; cases h
  | cons e r ih =>
    obtain ⟨k, x⟩ := e
    intro hi
    unfold domB at hi
    simp only [look] at hi
    by_cases hk : k = i
    · exact ⟨(k, x), List.mem_cons_self, hk⟩
    · rw [if_neg hk] at hi
      obtain ⟨e, he, hei⟩ := ih hi
      exact ⟨e, List.mem_cons_of_mem _ he, hei⟩

theorem vcall_spec {call : CallF} (hcall : CallOK P call) {H : Hp} {c c' : Ctl} {m : Mic} {Hr : Hp} {fn : Fn} {args : Array Value} (h : vcall call H fn args c = some (m, Hr, c')) :
    (AllP c'.obl → AllP c.obl) ∧ Sub Hr H ∧ (∀ k, domB m.set k = true → domB Hr k = true ∨ domB H k = false) ∧ m.dfr = none ∧
    (AllP c'.obl → ∃ r H' , CallsV P fn args Hr r H' ∧ m = r.mic m.set ∧ Sub m.set H' ∧ closedH m.set = true ∧ closedH Hr = true ∧ (∀ i, domB Hr i = true → domB m.set i = true) ∧ resOK (domB m.set) r = true) := by
  unfold vcall at h
  simp only at h
  generalize hHr : restrict H (reach H 1000 (idsF fn ++ idsA args) []) = Hr0 at h
  have hsub : Sub Hr0 H := by rw [← hHr]; exact restrict_sub _ _
  split at h
  · rename_i hcl
    simp only [Bool.and_eq_true] at hcl
    split at h
    · rename_i r H' c1 hc
      generalize hH2 : (if (resOK (domB Hr0) r && closedH (H'.filter fun e => domB Hr0 e.1)) = true then H'.filter fun e => domB Hr0 e.1 else H') = H2 at h
      split at h
      · rename_i hchk
        simp only [Bool.and_eq_true] at hchk
        obtain ⟨⟨⟨hwv, hcl2⟩, hd1⟩, hd2⟩ := hchk
        simp only [Option.some.injEq, Prod.mk.injEq] at h
        obtain ⟨rfl, rfl, rfl⟩ := h
        obtain ⟨hm, hdo⟩ := hcall _ _ _ _ _ _ _ hc
        have hset : (r.mic H2).set = H2 := by cases r <;> rfl
        have hdfr : (r.mic H2).dfr = none := by cases r <;> rfl
        have hH2s : Sub H2 H' := by
          rw [← hH2]
          split
          · intro i x hx
            rw [look_filter (fun k => domB Hr0 k)] at hx
            split at hx
            · exact hx
            · cases hx
          · exact fun _ _ h => h
        rw [hset]
        refine ⟨hm, hsub, fun k hk => ?_, hdfr, fun hobl => ⟨r, H', hdo hobl hcl.1.2 hcl.2, rfl, hH2s, hcl2, hcl.1.1, fun i hi => ?_, hwv⟩⟩
        · obtain ⟨e, he, rfl⟩ := memK _ _ hk
          have := List.all_eq_true.1 hd2 e he
          rw [Bool.or_eq_true, Bool.not_eq_true'] at this
          exact this
        · obtain ⟨e, he, rfl⟩ := memK _ _ hi
          exact List.all_eq_true.1 hd1 e he
      · cases h
    · cases h
  · cases h

theorem vcall_does {call : CallF} (hcall : CallOK P call) {H : Hp} {t : List Value} {c c' : Ctl} {m : Mic} {Hr : Hp} {cl : Call} (ho : o.op = .call cl) (hall : o.op.operands.toList.all opdOK = true) {fn : Fn} {args : Array Value}
    (hargs : callFn (vev t) cl = some (fn, args)) (hb : ∀ f, fn = .func f → hasBody P f = true) (h : vcall call H fn args c = some (m, Hr, c')) :
    (AllP c'.obl → AllP c.obl) ∧ Sub Hr H ∧ (∀ k, domB m.set k = true → domB Hr k = true ∨ domB H k = false) ∧ (AllP c'.obl → Wants ops o t → MicDoes P ops o t Hr m) := by
  obtain ⟨s1, s2, s3, s4, s5⟩ := vcall_spec hcall h
  refine ⟨s1, s2, s3, fun hobl hwant => ?_⟩
  obtain ⟨r, H', hcv, hmr, hms, hcl2, hclr, hdom1, hwr⟩ := s5 hobl
  have hnd : ∀ c, o.op ≠ .defer c := fun c e => by rw [ho] at e; cases e
  intro ro n Q K A w0 β D t' Hx a w i hi hR ht hs hf hv hdr hK hP
  refine wpOp_want hi (hwant a t' β hR.tm ht) ?_
  rw [Oper.semAt_eq _ _ _ hnd, execOp_of (P := P) (ρ' := a.eval) (ρ := vev t) (o := o) (fun cs b e => by rw [ho] at e; cases e) (fun x hx => by rw [hR.eval (operand_dec hall hx), vev_same ht hx])]
  -- behind the call
  have back : ∀ (e : Ending) (w' : World), (∃ β', (∀ i, domB Hr i = true → β' i = β i) ∧ e = r.out β' ∧ Rel (rng β Hr) w β' H' w') →
      (match e with
        | .returned v => K (a.put o.dst v) w'
        | .panicked chain => Q (.panic chain) a w'
        | .outgrown => LetsOut Q) := by
    rintro e w' ⟨β', hx, rfl, hk⟩
    have hk2 := hk.part hms hcl2
    obtain ⟨hb1, hb2⟩ := hR.rel.back hs hk2 hx hdom1 (fun i hi => hf i hi)
    have hset : (r.mic m.set).set = m.set := by cases r <;> rfl
    cases r with
    | ret v =>
      simp only [Res.out]
      have hmv : m.val = v := by rw [hmr]; rfl
      have hmd : m.dfr = none := by rw [hmr]; rfl
      have hmp : m.pan = none := by rw [hmr]; rfl
      rw [hmv] at hv
      have hvr : ren (fun i => if domB Hx i = true then β i else β' i) v = ren β' v := ren_congr hb2 v hwr
      have := hR.put (γ := fun i => if domB Hx i = true then β i else β' i) (fun i hi => if_pos hi) (fun i hi => by rw [domB_merge, hi, Bool.or_true]) hb1 o.dst (v := v) hv
      rw [hvr] at this
      refine hK hmp (fun i => if domB Hx i = true then β i else β' i) _ _ (fun i hi => if_pos hi) ?_
      rw [hmd, hmv]
      exact this
    | pan ch =>
      simp only [Res.out]
      have hmp : m.pan = some ch := by rw [hmr]; rfl
      refine hP ch hmp (fun i => if domB Hx i = true then β i else β' i) a w' (fun i hi => if_pos hi) ?_
      have hdx : ∀ i, domB Hx i = true → domB (merge m.set Hx) i = true := fun i hi => by rw [domB_merge, hi, Bool.or_true]
      exact ⟨by rw [hR.tm, renL_congr (fun i hi => (if_pos hi).symm) t' hR.wt], by rw [hR.df, renDs_congr (fun i hi => (if_pos hi).symm) hR.wd], wfL_mono hdx _ hR.wt, wfDs_mono hdx hR.wd, hb1⟩
  have hcv1 := hcv β w (hR.rel.sub hs hclr)
  cases fn with
  | func f =>
    have hrun := call_run (P := P) (β := β) ho (callFn_func hargs) (hb f rfl) w
    rw [hrun]
    simp only [Oper.uponIn]
    refine ⟨(fun h0 => (by rw [Fw_depth] at h0; cases h0)), Fw_calls (hcv1.mono (fun e w' he => ?_))⟩
    have := back e w' he
    cases e <;> exact this
  | yield l =>
    obtain ⟨fn, tmps, assign, body, hy, hround⟩ := hcv1 (n - 1)
    have hrun := yield_run (P := P) (β := β) ho hargs hy
    rw [hrun]
    simp only [Oper.uponIn]
    refine ⟨(fun h0 => (by rw [Fw_depth] at h0; cases h0)), Fw_rounds (hround.mono (fun e w' he => ?_))⟩
    have := back e w' he
    cases e <;> exact this
  | _ => exact hcv1.elim
end

end Go.Proofs.Ytpbhoamojocbpaa
